import Derived.Test.YtkglnoimbekhhaaGreatKZi
import Derived.Test.YtkglnoimbekhhaaGreatKZf
import Derived.Test.YtkglnoimbekhhaaGreatKCkTwo
namespace Go.Proofs.YtkglnoimbekhhaaGreat
set_option maxRecDepth 100000
set_option maxHeartbeats 16000000
open Go.ChangeShapes Go.WideShapes Go.ChangeAt Go.RowKit
set_option linter.unusedVariables false
set_option linter.unusedSimpArgs false
theorem concat_y {W:World} {x y:List Ty} {xv yv:Value} (hx:RowC W x xv) (hy:RowC W y yv) (hn:x.length + y.length <= 20000000) :
 Calls Tryz.prog 110 #[.slice (some ⟨W.heap.size,0,none⟩) 2 2] (W.alloc (.cells #[xv,yv] 22)) fun e w'=>∃ v,e = .returned v /\ RowC w' (x ++ y) v /\ W.grownBy w' none :=
 (concat_any (heap_alloc_new W _) (hx.grow (gBq _)) (hy.grow (gBq _)) hn).mono fun e w' ⟨v,h1,h2,h3⟩=>⟨v,h1,h2,gTq (gBq _) h3⟩
theorem either_any {W:World} {p n:Int} {ta da na nb:Option Addr} {rb ro tl tc rc dl dc nl nc ml mc:Nat} {dk dn dp:Int} {ds:ByteArray} {s x y:List Ty} {sv xv yv:Value} {r1 r2:Led} (hs:RowC W s sv) (hx:RowC W x xv) (hy:RowC W y yv)
 (hcell:W.cell? ⟨rb,ro,none⟩ = some (.slice na nl nc)) (hcell2:W.cell? ⟨rb,ro + 1,none⟩ = some (.slice nb ml mc))
 (hrow1:∀ W2 (a2:Option Addr) (l2 c2:Nat),W.grownBy W2 none -> RowC W2 (x ++ s) (.slice a2 l2 c2) -> Calls Tryz.prog 43 #[.slice na nl nc,.slice a2 l2 c2] W2 (LPq r1 W2))
 (hrow2:∀ W2 (a2:Option Addr) (l2 c2:Nat),W.grownBy W2 none -> RowC W2 (y ++ s) (.slice a2 l2 c2) -> Calls Tryz.prog 43 #[.slice nb ml mc,.slice a2 l2 c2] W2 (LPq r2 W2))
 (hsz:∀ f ts,r1 = .ok f ts -> ts.length <= 20000000 /\ tysizes ts <= 20000000) (hxl:x.length + s.length <= 20000000) (hyl:y.length + s.length <= 20000000) :
 Calls Tryz.prog 111 #[insV p n ta tl tc (some ⟨rb,ro,none⟩) 2 rc dk dn dp ds da dl dc,sv,xv,yv] W (LPq (meetF r1 r2) W):=by
 obtain ⟨sa,sl,sc,e1⟩:=hs.form3
 obtain ⟨xa,xl,xc,e2⟩:=hx.form3
 obtain ⟨ya,yl,yc,e3⟩:=hy.form3
 subst e1;subst e2;subst e3
 unfold insV
 obtain ⟨hg3,hI3,hR3⟩:=start2 W (.cells #[.int .i64 p,.int .i64 n,.slice ta tl tc,.slice (some ⟨rb,ro,none⟩) 2 rc,.int .i64 dk,.int .i64 dn,.int .i64 dp,.string ds,.slice da dl dc] 115) (.cells #[.slice none 0 0,.bool false] 62)
 have HLB:Hid (rb < W.heap.size):=World.block_lt_of_cell? W _ hcell
 have xr:=kNq hg3 hcell
 have xr2:=kNq hg3 hcell2
 have HROW1:Hid (∀ W2 (a2:Option Addr) (l2 c2:Nat),W.grownBy W2 none -> RowC W2 (x ++ s) (.slice a2 l2 c2) -> Calls Tryz.prog 43 #[.slice na nl nc,.slice a2 l2 c2] W2 (LPq r1 W2)):=hrow1
 have HROW2:Hid (∀ W2 (a2:Option Addr) (l2 c2:Nat),W.grownBy W2 none -> RowC W2 (y ++ s) (.slice a2 l2 c2) -> Calls Tryz.prog 43 #[.slice nb ml mc,.slice a2 l2 c2] W2 (LPq r2 W2)):=hrow2
 have HS3:=jh (hs.grow hg3)
 have HX:=jh (hx.grow hg3)
 have HY:=jh (hy.grow hg3)
 have HG3:=jh hg3
 have HI3:=jh hI3
 have HR3:=jh hR3
 have HSZ:=jh hsz
 clear hg3 hI3 hR3 hx hy hs hrow1 hrow2 hcell hcell2 hsz
 go_enter Tryz.func111,Tryz.ntmps111
 go_wp2_with fail
 generalize (W.alloc _).alloc _ = W3 at *
 have yr:∀ w',W3.grownBy w' (some (W.heap.size + 1)) -> w'.cell? ⟨rb,ro,none⟩ = some (.slice na nl nc):=fun w' h=>(World.cell?_of_block (h.block _ (World.block_lt_of_cell? W3 _ xr) (by have:=HLB.out;simp;omega))).trans xr
 have yr2:∀ w',W3.grownBy w' (some (W.heap.size + 1)) -> w'.cell? ⟨rb,ro + 1,none⟩ = some (.slice nb ml mc):=fun w' h=>(World.cell?_of_block (h.block _ (World.block_lt_of_cell? W3 _ xr2) (by have:=HLB.out;simp;omega))).trans xr2
 have yi3:∀ w',W3.grownBy w' (some (W.heap.size + 1)) -> w'.cell? ⟨W.heap.size,3,none⟩ = some (.slice (some ⟨rb,ro,none⟩) 2 rc):=fun w' h=>(box9 (keepI HI3.out h)).2.2.2.1
 have hS0:W3.grownBy W3 (some (W.heap.size + 1)):=gRf _ _
 go_region_held3 (fun w'=>W3.grownBy w' (some (W.heap.size + 1))) (first | with_reducible assumption | with_reducible exact gDr (gRf _ _) | with_reducible exact grow_setR (by assumption) | with_reducible exact gTr (by assumption) (gAq (gBq _)) | with_reducible exact gDr (gAq (gBq _)) | with_reducible exact gDr (gAq (gTq (gBq _) (gBq _)))) (first
  | (go_at_call 123;with_reducible refine (meet_any HJ1.out HJ2.out (fun ts h=>HSZ.out _ ts h)).mono ?_;rintro e w9 hp;obtain ⟨a5,l5,c5,f5,er5,rfl,hS5,q0,q1,q2,HB5,HL5⟩:=lFq hp HG3.out HG8.out HR3.out;clear hp)
  | (go_at_call 124;have g0:=HI2.out;clear g0;with_reducible refine (led_any _ _ _ _ _ _).mono ?_;rintro e w8 ⟨rfl,hg⟩;have HJ2:=jh (HI2.out.grow hg);have HJ1:=jh (HI1.out.grow (gTq HG67.out hg));have HG8:=jh (gTq HG7.out hg);have hSw8:W3.grownBy w8 (some (W.heap.size + 1)):=gAq HG8.out;clear hg)
  | (go_at_call 43;have g0:=HC2.out;clear g0;with_reducible refine (HROW2.out _ _ _ _ (gTq HG3.out HG6.out) HC2.out).mono ?_;rintro e w7 hp;obtain ⟨a7,l7,c7,f7,er7,rfl,hg,his⟩:=hp.is;have HI2:=jh his;have HG67:=jh (gTq HG56.out hg);have HG7:=jh (gTq HG6.out hg);have hSw7:W3.grownBy w7 (some (W.heap.size + 1)):=gAq HG7.out;clear hg his hp)
  | (go_at_call 110;have g0:=HI1.out;have g1:=HXB.out;clear g0 g1;with_reducible refine (concat_any HXB.out (HY.out.grow HG5.out) (HS3.out.grow HG5.out) (by omega)).mono ?_;rintro e w6 ⟨v6,rfl,hr6,hg⟩;obtain ⟨a6,l6,c6,e6⟩:=hr6.form3;subst e6;have HC2:=jh hr6;have HG56:=jh hg;have HG6:=jh (gTq HG5.out hg);have hSw6:W3.grownBy w6 (some (W.heap.size + 1)):=gAq HG6.out;clear hg hr6)
  | (go_at_call 110;have g0:=HI1.out;clear g0;with_reducible refine (concat_y (HY.out.grow HG5.out) (HS3.out.grow HG5.out) (by omega)).mono ?_;rintro e w6 ⟨v6,rfl,hr6,hg⟩;obtain ⟨a6,l6,c6,e6⟩:=hr6.form3;subst e6;have HC2:=jh hr6;have HG56:=jh hg;have HG6:=jh (gTq HG5.out hg);have hSw6:W3.grownBy w6 (some (W.heap.size + 1)):=gAq HG6.out;clear hg hr6)
  | (go_at_call 124;have g0:=HI0.out;clear g0;with_reducible refine (led_any _ _ _ _ _ _).mono ?_;rintro e w5 ⟨rfl,hg⟩;have HXB:=jh (kBq (heap_alloc_new w4b _) hg);have HI1:=jh (HI0.out.grow (gTq (gBq _) hg));have HG5:=jh (gTq HG4b.out (gTq (gBq _) hg));have hSw5:W3.grownBy w5 (some (W.heap.size + 1)):=gAq HG5.out;clear hg)
  | (go_at_call 124;have g0:=HI0.out;clear g0;with_reducible refine (led_any _ _ _ _ _ _).mono ?_;rintro e w5 ⟨rfl,hg⟩;have HXB:=jh (kBq HXB.out hg);have HI1:=jh (HI0.out.grow hg);have HG5:=jh (gTq HG4b.out hg);have hSw5:W3.grownBy w5 (some (W.heap.size + 1)):=gAq HG5.out;clear hg)
  | (go_at_call 124;have g0:=HI0.out;clear g0;with_reducible refine (led_any _ _ _ _ _ _).mono ?_;rintro e w5 ⟨rfl,hg⟩;have HI1:=jh (HI0.out.grow hg);have HG5:=jh (gTq HG4b.out hg);have hSw5:W3.grownBy w5 (some (W.heap.size + 1)):=gAq HG5.out;clear hg)
  | (go_at_call 43;have g0:=HC1.out;clear g0;with_reducible refine (HROW1.out _ _ _ _ (gTq HG3.out (gTq HG4.out (gBq _))) (HC1.out.grow (gBq _))).mono ?_;rintro e w4b hp;obtain ⟨a7,l7,c7,f7,er7,rfl,hg,his⟩:=hp.is;have HXB:=jh (kBq (heap_alloc_new w4 _) hg);have HI0:=jh his;have HG4b:=jh (gTq HG4.out (gTq (gBq _) hg));have hSw4b:W3.grownBy w4b (some (W.heap.size + 1)):=gAq HG4b.out;clear hg his hp)
  | (go_at_call 43;have g0:=HC1.out;clear g0;with_reducible refine (HROW1.out _ _ _ _ (gTq HG3.out HG4.out) HC1.out).mono ?_;rintro e w4b hp;obtain ⟨a7,l7,c7,f7,er7,rfl,hg,his⟩:=hp.is;have HXB:=jh (kBq HXB.out hg);have HI0:=jh his;have HG4b:=jh (gTq HG4.out hg);have hSw4b:W3.grownBy w4b (some (W.heap.size + 1)):=gAq HG4b.out;clear hg his hp)
  | (go_at_call 43;have g0:=HC1.out;clear g0;with_reducible refine (HROW1.out _ _ _ _ (gTq HG3.out HG4.out) HC1.out).mono ?_;rintro e w4b hp;obtain ⟨a7,l7,c7,f7,er7,rfl,hg,his⟩:=hp.is;have HI0:=jh his;have HG4b:=jh (gTq HG4.out hg);have hSw4b:W3.grownBy w4b (some (W.heap.size + 1)):=gAq HG4b.out;clear hg his hp)
  | (go_at_call 110;with_reducible refine (concat_w1 HX.out HS3.out (by omega)).mono ?_;rintro e w4 ⟨v4,rfl,hr4,hg⟩;obtain ⟨a4,l4,c4,e4⟩:=hr4.form3;subst e4;have HC1:=jh hr4;have HG4:=jh hg;have hSw4:W3.grownBy w4 (some (W.heap.size + 1)):=gAq HG4.out;clear hg hr4)
  | (go_at_call 110;with_reducible refine (concat_w2 HX.out HS3.out (by omega)).mono ?_;rintro e w4 ⟨v4,rfl,hr4,hg,hx4⟩;obtain ⟨a4,l4,c4,e4⟩:=hr4.form3;subst e4;have HC1:=jh hr4;have HXB:=jh hx4;have HG4:=jh hg;have hSw4:W3.grownBy w4 (some (W.heap.size + 1)):=gAq HG4.out;clear hg hr4 hx4)
  | (go_at_call 110;with_reducible refine (concat_w3 HX.out HS3.out (by omega)).mono ?_;rintro e w4 ⟨v4,rfl,hr4,hg,hx4⟩;obtain ⟨a4,l4,c4,e4⟩:=hr4.form3;subst e4;have HC1:=jh hr4;have HXB:=jh hx4;have HG4:=jh hg;have hSw4:W3.grownBy w4 (some (W.heap.size + 1)):=gAq HG4.out;clear hg hr4 hx4))
 all_goals
  go_wp2_with fail
  exact eLq (fun w z0 z1=>by simp [results,Tryz.results111,go_sem,z0,z1]) rfl HB5.out HL5.out
theorem ParsePost.form {T:Ty} {t:Tr} {W:World} {e:Ending} {w':World} (h:ParsePost T t W e w'):∃ kk nn aa ss xa xl xc ya yl yc za zl zc er,e = .returned (.tuple #[vaV kk nn aa ss xa xl xc ya yl yc za zl zc,.int .i64 er]) /\ W.grownBy w' none /\ ((er = 0 /\ (parseF T t).isSome = true) \/ (er = 1 /\ (parseF T t).isSome = false)):=by
 rcases h.2 with ⟨x,v,h1,rfl,h2⟩ | ⟨h1,rfl⟩
 ·cases h2 with
  | mk V VT VN=>exact ⟨_,_,_,_,_,_,_,_,_,_,_,_,_,0,rfl,h.1,.inl ⟨rfl,by rw [h1];rfl⟩⟩
 ·exact ⟨_,_,_,_,_,_,_,_,_,_,_,_,_,1,rfl,h.1,.inr ⟨rfl,by rw [h1];rfl⟩⟩
def PushCut (r:Bool) (w1:World) (pv qv:Value) (wx:World):Prop:=∃ er:Int,qv = .int .i64 er /\ w1.grownBy wx none /\ ((er = 0 /\ r = true) \/ (er = 1 /\ r = false))
theorem pushCut_one {r:Bool} {w1 w2:World} {o:Obj} {pv:Value} {er:Int} (h:w1.grownBy w2 none) (h2:(er = 0 /\ r = true) \/ (er = 1 /\ r = false)):PushCut r w1 pv (.int .i64 er) (w2.alloc o):=⟨er,rfl,gTq h (gBq _),h2⟩
theorem pushCut_two {r:Bool} {w1 w2:World} {v0 v1 v2 v3 v4 v5 v6:Value} {pv:Value} {er:Int} (h:w1.grownBy w2 none) (h2:(er = 0 /\ r = true) \/ (er = 1 /\ r = false)):PushCut r w1 pv (.int .i64 er) (((((((w2.setCell ⟨w1.heap.size,0,none⟩ v0).setCell ⟨w1.heap.size,1,none⟩ v1).setCell ⟨w1.heap.size,2,none⟩ v2).setCell ⟨w1.heap.size,3,none⟩ v3).setCell ⟨w1.heap.size,4,none⟩ v4).setCell ⟨w1.heap.size,5,none⟩ v5).setCell ⟨w1.heap.size,6,none⟩ v6):=⟨er,rfl,grow_set7New h (Nat.le_refl _),h2⟩
theorem tells_45n {W:World} {n:Int} {ta ra da:Option Addr} {tl tc rl rc dl dc:Nat} {dk dn dp:Int} {ds:ByteArray} {s types:List Ty} {sv:Value} (hs:RowC W s sv) (hT:RowC W types (.slice ta tl tc)) (htl:types.length = 1) (ht:packT (tAq types 0) = false) (hz:(tAq types 0).size <= 50000000) :
 Calls Tryz.prog 89 #[insV 45 n ta tl tc ra rl rc dk dn dp ds da dl dc,sv] W (LPq (.no 5) W):=by
 obtain ⟨sa,sl,sc,e1⟩:=hs.form3
 subst e1
 unfold insV
 obtain ⟨hg3,hI3,hR3⟩:=start2 W (.cells #[.int .i64 45,.int .i64 n,.slice ta tl tc,.slice ra rl rc,.int .i64 dk,.int .i64 dn,.int .i64 dp,.string ds,.slice da dl dc] 115) (.cells #[.slice none 0 0,.bool false] 62)
 have hT3:=hT.grow hg3
 obtain ⟨et,ect,_⟩:=hT3.len
 rw [htl] at et ect
 subst et
 obtain ⟨bt,ot,t0,a0,l0,k0,rfl,x0a,x0b,hA0⟩:=hT3.at 0 (by omega)
 simp only [Nat.reduceMul,Nat.reduceAdd,Nat.add_zero,Nat.mul_zero,Nat.zero_add] at x0a x0b
 have HPK:=jh (packed_any hA0.low hz)
 rw [ht] at HPK
 have HG3:=jh hg3
 have HR3:=jh hR3
 obtain ⟨i0,i1,i2,i3,_⟩:=box9 hI3
 clear hg3 hI3 hR3 hs hT hT3 hA0 ht
 go_enter Tryz.func89,Tryz.ntmps89
 go_wp2_with fail
 generalize (W.alloc _).alloc _ = W3 at *
 unfold tyV at HPK
 refine HPK.out.mono ?_;rintro e w1 ⟨rfl,hg⟩
 replace i0:=kNq hg i0
 replace HR3:=bCq HR3 hg
 replace HG3:=gCq HG3 hg
 clear hg i1 i2 i3 HPK x0a x0b
 go_wp2_with fail
 refine (rLq 5 (by decide) _).mono ?_
 rintro e w5 hp
 obtain ⟨a5,l5,c5,f5,er5,rfl,hS5,q0,q1,q2,HB5,HL5⟩:=lFq hp HG3.out (gRf _ _) HR3.out
 clear hp
 go_wp2_with fail
 exact eLq (fun w z0 z1=>by simp [results,Tryz.results89,go_sem,z0,z1]) rfl HB5.out HL5.out
theorem tells_45 {W:World} {n:Int} {ta ra da:Option Addr} {tl tc rl rc dc:Nat} {d:Tr} {s types:List Ty} {sv:Value} (hs:RowC W s sv) (hT:RowC W types (.slice ta tl tc)) (htl:types.length = 1) (ht:packT (tAq types 0) = true) (hz:(tAq types 0).size <= 50000000) (hn:s.length <= 1000)
 (hD:Lies (fun _=>True) W d (nodeV d.k0 d.n0 d.p0 d.s0 da d.args0.length dc)) (hdz:d.size <= 4611686018427387903) :
 Calls Tryz.prog 89 #[insV 45 n ta tl tc ra rl rc d.k0 d.n0 d.p0 d.s0 da d.args0.length dc,sv] W (LPq (if (parseF (tAq types 0) d).isSome = true then pFq s [tAq types 0] else .no 5) W):=by
 obtain ⟨sa,sl,sc,e1⟩:=hs.form3
 subst e1
 unfold insV
 obtain ⟨hg3,hI3,hR3⟩:=start2 W (.cells #[.int .i64 45,.int .i64 n,.slice ta tl tc,.slice ra rl rc,.int .i64 d.k0,.int .i64 d.n0,.int .i64 d.p0,.string d.s0,.slice da d.args0.length dc] 115) (.cells #[.slice none 0 0,.bool false] 62)
 have hT3:=hT.grow hg3
 have hs3:=hs.grow hg3
 obtain ⟨hsl,_⟩:=hs3.len
 subst hsl
 obtain ⟨et,ect,_⟩:=hT3.len
 rw [htl] at et ect
 subst et
 obtain ⟨bt,ot,t0,a0,l0,k0,rfl,x0a,x0b,hA0⟩:=hT3.at 0 (by omega)
 simp only [Nat.reduceMul,Nat.reduceAdd,Nat.add_zero,Nat.mul_zero,Nat.zero_add] at x0a x0b
 have HPK:=jh (packed_any hA0.low hz)
 rw [ht] at HPK
 have HD:=jh (hD.same (sAl hg3))
 have HA0:=jh hA0
 have HS3:=jh hs3
 have HG3:=jh hg3
 have HR3:=jh hR3
 have HI3:=jh hI3
 obtain ⟨i0,i1,i2,i3,i4,i5,i6,i7,i8⟩:=box9 hI3
 clear hg3 hI3 hR3 hs hT hT3 hA0 ht hD hs3
 obtain ⟨q,hq⟩:∃ q:Led,q = (if (parseF (tAq types 0) d).isSome = true then pFq s [tAq types 0] else .no 5):=⟨_,rfl⟩
 rw [← hq]
 have HQ:=jh hq
 clear hq
 go_enter Tryz.func89,Tryz.ntmps89
 go_wp2_with fail
 generalize (W.alloc _).alloc _ = W3 at *
 unfold tyV at HPK
 refine HPK.out.mono ?_;rintro e w1 ⟨rfl,hg⟩
 replace i0:=kNq hg i0
 replace i2:=kNq hg i2
 replace i4:=kNq hg i4
 replace i5:=kNq hg i5
 replace i6:=kNq hg i6
 replace i7:=kNq hg i7
 replace i8:=kNq hg i8
 replace x0a:=kNq hg x0a
 replace x0b:=kNq hg x0b
 replace HR3:=bCq HR3 hg
 replace HI3:=bCq HI3 hg
 replace HG3:=gCq HG3 hg
 replace HS3:=rCq HS3 hg
 replace HA0:=tCq HA0 hg
 replace HD:=jh (HD.out.same (sAl hg))
 clear hg i1 i3 HPK
 have HC:Hid (∀ W2,w1.grownBy W2 none -> Calls Tryz.prog 117 #[tyV t0 a0 l0 k0,nodeV d.k0 d.n0 d.p0 d.s0 da d.args0.length dc] W2 (ParsePost (tAq types 0) d W2)):=fun W2 h=>parse_any (HA0.out.same (sAl h)) (HD.out.same (sAl h)) hdz
 unfold tyV nodeV at HC
 have y2:=fun (w':World) (h:w1.grownBy w' none)=>aI (kNq h i2) (aI (kNq h i4) (aI (kNq h i5) (aI (kNq h i6) (aI (kNq h i7) (kNq h i8)))))
 have u0:∀ w',w1.grownBy w' none -> w'.cell? ⟨bt,ot,none⟩ = some (.int .i64 t0):=fun w' h=>kNq h x0a
 have u1:∀ w',w1.grownBy w' none -> w'.cell? ⟨bt,ot + 1,none⟩ = some (.slice a0 l0 k0):=fun w' h=>kNq h x0b
 have hS0:w1.grownBy w1 none:=gRf _ _
 go_wp2_with fail
 go_cut [6,7] (fun pv qv wx=>PushCut (parseF (tAq types 0) d).isSome w1 pv qv wx)
 case first =>
  go_region_held3 (fun w'=>w1.grownBy w' none) (first | with_reducible assumption | with_reducible exact grow_set7New (by assumption) (Nat.le_refl _) | with_reducible exact gTq (by assumption) (gBq _) | with_reducible exact gDr (gRf _ _) | with_reducible exact gDr (gBq _)) (first
   | (go_at_call 117;refine (HC.out _ (by assumption)).mono ?_;rintro e w2 hpost;obtain ⟨kk,nn,aa,ss,xa,xl,xc,ya,yl,yc,za,zl,zc,er,rfl,hgp,hpc⟩:=hpost.form;have HPC:=jh hpc;have HGP:=jh hgp;have hS:=gTq (by assumption) hgp;have hb9:w2.heap[w1.heap.size]? = some (.cells #[.int .i64 0,.int .i64 0,.int .i64 0,.string ⟨#[]⟩,.slice none 0 0,.slice none 0 0,.slice none 0 0] 28 (0,0)):=(hgp.block _ (by simp) (by simp)).trans (heap_alloc_new w1.drew _);obtain ⟨v0,v1,v2,v3,v4,v5,v6⟩:=box7 hb9;have fz:=free7 hb9;have HB9:=jh hb9;clear hpost hpc hgp hb9;unfold vaV)
   | (go_at_call 117;refine (HC.out _ (by assumption)).mono ?_;rintro e w2 hpost;obtain ⟨kk,nn,aa,ss,xa,xl,xc,ya,yl,yc,za,zl,zc,er,rfl,hgp,hpc⟩:=hpost.form;have HPC:=jh hpc;have HGP:=jh hgp;have hS:=gTq (by assumption) hgp;clear hpost hpc hgp;unfold vaV))
  all_goals
   have HSS:=jh hS
   go_wp2_with fail
   go_meet
   first
   | with_reducible exact pushCut_one HSS.out HPC.out
   | with_reducible exact pushCut_two HSS.out HPC.out
 case rest =>
  obtain ⟨er,rfl,hg,hcase⟩:=hcut
  replace HR3:=bCq HR3 hg
  replace HI3:=bCq HI3 hg
  replace HG3:=gCq HG3 hg
  replace HS3:=rCq HS3 hg
  replace HA0:=tCq HA0 hg
  replace x0a:=kNq hg x0a
  replace x0b:=kNq hg x0b
  replace i2:=kNq hg i2
  clear y2 u0 u1 hS0 i0 i4 i5 i6 i7 i8 HC hg
  rcases hcase with ⟨rfl,hr⟩ | ⟨rfl,hr⟩
  ·rw [hr,if_pos rfl] at HQ
   have HQ2:Hid (q = pFq s [tAq types 0]):=HQ.out
   clear HQ hr
   go_wp2_with fail
   refine (pAq (HS3.out.grow (gBq _)) (RowC.one (heap_alloc_new wc _) (HA0.out.same (sAl (gBq _)))) (by simp <;> omega)).mono ?_
   rintro e w5 hp
   rw [← HQ2.out] at hp
   obtain ⟨a5,l5,c5,f5,er5,rfl,hS5,q0,q1,q2,HB5,HL5⟩:=lFq hp HG3.out (gBq _) HR3.out
   clear hp
   go_wp2_with fail
   exact eLq (fun w z0 z1=>by simp [results,Tryz.results89,go_sem,z0,z1]) rfl HB5.out HL5.out
  ·rw [hr,if_neg (by decide)] at HQ
   have HQ2:Hid (q = .no 5):=HQ.out
   clear HQ hr
   go_wp2_with fail
   refine (rLq 5 (by decide) _).mono ?_
   rintro e w5 hp
   rw [← HQ2.out] at hp
   obtain ⟨a5,l5,c5,f5,er5,rfl,hS5,q0,q1,q2,HB5,HL5⟩:=lFq hp HG3.out (gRf _ _) HR3.out
   clear hp
   go_wp2_with fail
   exact eLq (fun w z0 z1=>by simp [results,Tryz.results89,go_sem,z0,z1]) rfl HB5.out HL5.out
def rowNext (st:Tr -> List Ty -> Led) (rest:List Tr):Led -> Led
 | .no e=>.no e
 | .ok g s'=>rowG st rest g s'
theorem rowG_cons (st:Tr -> List Ty -> Led) (t:Tr) (rest:List Tr) (s:List Ty):rowG st (t :: rest) false s = rowNext st rest (keptF (st t s)):=by
 simp only [rowG,Bool.false_eq_true,if_false]
 cases keptF (st t s) <;> rfl
theorem set2_far {w:World} {b g:Nat} {o:Obj} {x y:Value} (h:w.heap[g]? = some o) (hne:g ≠ b):(set2 w b x y).heap[g]? = some o :=
 ((set2_grow w b x y).block g (Array.getElem?_eq_some_iff.1 h).1 (by simpa using hne)).trans h
theorem row_any {W:World} {st:Tr -> List Ty -> Led} {l:List Tr} {s:List Ty} {na:Option Addr} {nc:Nat} {VN:Nat -> Value} {sa:Option Addr} {sl sc L:Nat} (h40:40 <= L) (hN:RowN (fun _=>True) W l na VN) (hs:RowC W s (.slice sa sl sc)) (hl4:s.length <= L) (hgd:s.all gYq = true)
 (hst:∀ (j:Nat) (h:j < l.length) (W2:World) (s2:List Ty) (a2:Option Addr) (l2 c2:Nat),W.grownBy W2 none -> RowC W2 s2 (.slice a2 l2 c2) -> s2.length <= L -> s2.all gYq = true -> Calls Tryz.prog 61 #[VN j,.slice a2 l2 c2] W2 (LPq (st l[j] s2) W2)) :
 Calls Tryz.prog 43 #[.slice na l.length nc,.slice sa sl sc] W (LPq (rowG st l false s) W):=by
 have hll:=hN.1
 unfold maxLen at hll
 obtain ⟨hg3,hR3,hI3⟩:=start2 W (.cells #[.slice none 0 0,.bool false] 62) (.cells #[.slice sa sl sc,.bool false] 62)
 have HN:=jh hN
 have HST:=jh hst
 have HS3:=jh (hs.grow hg3)
 have HG3:=jh hg3
 have HI3:=jh hI3
 have HR3:=jh hR3
 have HGD:=jh hgd
 obtain ⟨q,hq⟩:∃ q:Led,q = rowG st l false s:=⟨_,rfl⟩
 rw [← hq]
 have HQ:=jh hq
 clear hq hN hs hst hg3 hR3 hI3 hgd
 go_enter Tryz.func43,Tryz.ntmps43
 go_wp2_with fail
 generalize (W.alloc _).alloc _ = W3 at *
 go_loopw [15] (fun iv wr=>∃ (j:Nat) (f:Bool) (cur:List Ty) (a:Option Addr) (k c:Nat),j <= l.length /\ iv = .int .i64 j /\ W.grownBy wr none /\ wr.heap[W.heap.size]? = some (.cells #[.slice none 0 0,.bool false] 62 (0,0)) /\ wr.heap[W.heap.size + 1]? = some (.cells #[.slice a k c,.bool f] 62 (0,0)) /\ RowC wr cur (.slice a k c) /\ cur.length <= L /\ cur.all gYq = true /\ q = rowG st (l.drop j) f cur) (fun iv _=>l.length - (intOf iv).toNat)
 case atStart=>exact ⟨0,false,s,sa,sl,sc,Nat.zero_le _,rfl,HG3.out,HR3.out,HI3.out,HS3.out,hl4,HGD.out,HQ.out⟩
 case round =>
  obtain ⟨j,f,cur,a,k,c,hj,rfl,hg,hR,hI,hC,hc4,hcg,hqj⟩:=hrel
  have HG:=jh hg
  have HR:=jh hR
  have HI:=jh hI
  have HC:=jh hC
  have HCG:=jh hcg
  have HQJ:=jh hqj
  clear hR hI hC hcg hqj HS3 HG3 HI3 HR3 HGD HQ
  by_cases hlt:j < l.length
  ·obtain ⟨b,o,rfl,_,k',n',p',s',a',l',c',hv,h0,h1,h2,h3,h4⟩:=(HN.out.2.1 j hlt).same (w':=wr) (sAl hg)
   have hji:(j:Int) < (l.length:Int):=by omega
   have hgn:=gBq (w:=wr) (.cells #[.int .i64 k',.int .i64 n',.int .i64 p',.string s',.slice a' l' c'] 48)
   have hbn:=heap_alloc_new wr (.cells #[.int .i64 k',.int .i64 n',.int .i64 p',.string s',.slice a' l' c'] 48)
   have hI2:=kBq HI.out hgn
   have y0:=c0q hI2
   have y1:=c1q hI2
   obtain ⟨m0,m1,m2,m3,m4⟩:=box5 hbn
   have hd:l.drop j = l[j] :: l.drop (j + 1):=List.drop_eq_getElem_cons hlt
   replace HR:=jh (kBq HR.out hgn)
   replace HI:=jh hI2
   replace HC:=jh (HC.out.grow hgn)
   replace HG:=jh (gTq HG.out hgn)
   cases f with
   | true =>
    have hq1:q = .no 1:=by rw [HQJ.out,hd];simp [rowG]
    have HQ1:=jh hq1
    clear hq1 hgn hbn hI2 hd hg hv
    go_wp2_with fail
    generalize wr.alloc _ = w2 at *
    refine (rLq 1 (by decide) _).mono ?_
    rintro e w7 hp
    rw [← HQ1.out] at hp
    obtain ⟨a5,l5,c5,f5,er5,rfl,hb5,hS5,hl5⟩:=led_end (o:=.cells #[] 0) hp HG.out (gRf _ _) (Nat.le_refl _) HR.out
    have q0:=c0q hb5
    have q1:=c1q hb5
    have q2:=free2_of hb5
    have HL5:=jh hl5
    have HB5:=jh hb5
    clear hb5 hl5 hp
    go_wp2_with fail
    change bodyPost _ _ _ _ _ (set2 w7 W.heap.size (.slice a5 l5 c5) (.bool f5))
    have hb':=set2_block HB5.out (.slice a5 l5 c5) (.bool f5)
    have hl':=HL5.out
    generalize set2 w7 W.heap.size (.slice a5 l5 c5) (.bool f5) = wf at *
    have z0:=c0q hb'
    have z1:=c1q hb'
    exact bodyPost_ret (v:=.tuple #[.agg #[.slice a5 l5 c5,.bool f5],.int .i64 er5]) (by simp [results,Tryz.results43,go_sem,z0,z1]) rfl hl'
   | false =>
    have hcall:=HST.out j hlt _ cur a k c HG.out HC.out hc4 HCG.out
    rw [hv] at hcall
    unfold nodeV at hcall
    have HCALL:=jh hcall
    have hq1:q = rowNext st (l.drop (j + 1)) (keptF (st l[j] cur)):=by rw [HQJ.out,hd,rowG_cons]
    have HQ1:=jh hq1
    clear hq1 hgn hbn hI2 hd hg hv hcall
    go_wp2_with fail
    generalize wr.alloc _ = w2 at *
    refine HCALL.out.mono ?_;rintro e w3 hp3
    obtain ⟨a3,l3,c3,f3,er3,rfl,hg3,his3⟩:=hp3.is
    replace HR:=jh (kBq HR.out hg3)
    replace HI:=jh (kBq HI.out hg3)
    replace HG:=jh (gTq HG.out hg3)
    have HIS3:=jh his3
    clear hp3 hg3 his3 HCALL y0 y1 m0 m1 m2 m3 m4 HC
    go_wp2_with fail
    refine (kept_any HIS3.out).mono ?_;rintro e w4 hp4
    obtain ⟨a4,l4,c4,f4,er4,rfl,hg4,his4⟩:=hp4.is
    replace HR:=jh (kBq HR.out hg4)
    replace HI:=jh (kBq HI.out hg4)
    replace HG:=jh (gTq HG.out hg4)
    obtain ⟨kp,hkp⟩:∃ kp,kp = keptF (st l[j] cur):=⟨_,rfl⟩
    have HKP:=jh hkp
    rw [← hkp] at his4
    have HQ2:Hid (q = rowNext st (l.drop (j + 1)) kp):=by rw [hkp];exact HQ1.out
    clear hp4 hg4 HIS3 hkp HQ1
    rcases his4 with ⟨rfl,hne,rfl,rfl,rfl,rfl⟩ | ⟨ts4,rfl,rfl,hr4⟩
    ·have n1:(er4 == 0) = false:=by simpa using hne
     have n2:(er4 != 0) = true:=by simpa using hne
     have hq3:q = .no er4:=HQ2.out
     have HQ3:=jh hq3
     clear hq3
     go_wp2_with fail
     refine (rLq er4 hne _).mono ?_
     rintro e w7 hp
     rw [← HQ3.out] at hp
     obtain ⟨a5,l5,c5,f5,er5,rfl,hb5,hS5,hl5⟩:=led_end (o:=.cells #[] 0) hp HG.out (gBq _) (Nat.le_refl _) HR.out
     have q0:=c0q hb5
     have q1:=c1q hb5
     have q2:=free2_of hb5
     have HL5:=jh hl5
     have HB5:=jh hb5
     clear hb5 hl5 hp
     go_wp2_with fail
     change bodyPost _ _ _ _ _ (set2 w7 W.heap.size (.slice a5 l5 c5) (.bool f5))
     have hb':=set2_block HB5.out (.slice a5 l5 c5) (.bool f5)
     have hl':=HL5.out
     generalize set2 w7 W.heap.size (.slice a5 l5 c5) (.bool f5) = wf at *
     have z0:=c0q hb'
     have z1:=c1q hb'
     exact bodyPost_ret (v:=.tuple #[.agg #[.slice a5 l5 c5,.bool f5],.int .i64 er5]) (by simp [results,Tryz.results43,go_sem,z0,z1]) rfl hl'
    ·obtain ⟨_,hk4,hk5⟩:=kept_ok HKP.out.symm
     have HR4:=jh hr4
     have HK5:=jh hk5
     have hgn:=gBq (w:=w4) (.cells #[.slice a4 l4 c4,.bool f4] 62)
     have hbn:=heap_alloc_new w4 (.cells #[.slice a4 l4 c4,.bool f4] 62)
     have v0:=c0q hbn
     have v1:=c1q hbn
     have hI5:=kBq HI.out hgn
     have q0:=c0q hI5
     have q1:=c1q hI5
     have q2:=free2_of hI5
     clear hr4 hk5 hgn hbn hI5
     go_wp2_with fail
     go_roundw
     case rel =>
      refine ⟨j + 1,f4,ts4,a4,l4,c4,by omega,by go_num,?_,?_,?_,?_,(Nat.le_trans hk4 h40),HK5.out,HQ2.out⟩
      ·exact grow_set2 (gTq HG.out (gBq _)) (b:=W.heap.size + 1) (Nat.le_succ _) (.slice a4 l4 c4) (.bool f4)
      ·exact set2_far (b:=W.heap.size + 1) (heap_keep HR.out) (by omega)
      ·exact set2_block (heap_keep HI.out) (.slice a4 l4 c4) (.bool f4)
      ·exact (HR4.out.grow (gBq _)).set (heap_keep HI.out) (.slice a4 l4 c4) (.bool f4)
     case measure=>simp [intOf];omega
  ·have hji:¬ (j:Int) < (l.length:Int):=by omega
   have hqe:q = .ok f cur:=by rw [HQJ.out,List.drop_of_length_le (by omega)];simp [rowG]
   have y0:=c0q HI.out
   have y1:=c1q HI.out
   have q0:=c0q HR.out
   have q1:=c1q HR.out
   have q2:=free2_of HR.out
   have HL:=jh (is_end (W:=W) (R:=W.heap.size) (f:=f) (ts:=cur) (r:=q) hqe HC.out HG.out (Nat.le_refl _) HR.out)
   clear hqe hg
   go_wp2_with fail
   change bodyPost _ _ _ _ _ (set2 wr W.heap.size (.slice a k c) (.bool f))
   have hb':=set2_block HR.out (.slice a k c) (.bool f)
   have hl':=HL.out
   generalize set2 wr W.heap.size (.slice a k c) (.bool f) = wf at *
   have z0:=c0q hb'
   have z1:=c1q hb'
   exact bodyPost_ret (v:=.tuple #[.agg #[.slice a k c,.bool f],.int .i64 0]) (by simp [results,Tryz.results43,go_sem,z0,z1]) rfl hl'
def CopiesPost (ts:List Ty) (W:World) (e:Ending) (w':World):Prop :=
 W.grownBy w' none /\ ∃ a c V,e = .returned (.slice a ts.length c) /\ ts.length <= c /\ RowT (W.heap.size <= ·) w' ts a V
theorem ListOkT.callT {H:Nat} {w w':World} {v:Value} {ts:List Ty} {vs:List Value} (h:ListOkT H w v ts vs) (hg:w.grownBy w' none):ListOkT H w' v ts vs:=by
 refine ⟨World.ownsRow.kept h.own hg ?_,h.len,fun i t u ht hu=>(h.lies i t u ht hu).same (fun b o _ hlt=>World.cell?_of_block (hg.block b hlt (by simp)))⟩
 cases v.ownBlock <;> simp
theorem take_snocT (ts:List Ty) (j:Nat) (h:j < ts.length):ts.take (j + 1) = ts.take j ++ [ts[j]]:=by
 rw [List.take_succ_eq_append_getElem h]
theorem copies_any:∀ (N:Nat) {W:World} {ts:List Ty} {a:Option Addr} {l c:Nat},RowC W ts (.slice a l c) -> tysizes ts <= N -> N <= 1000000 -> Calls Tryz.prog 59 #[.slice a l c] W (CopiesPost ts W):=by
 intro N
 induction N with
 | zero =>
  intro W ts a l c hs hz hN
  have h0:ts.length = 0:=by have:=tylength_le ts;omega
  obtain ⟨hl,hlc,_⟩:=hs.len
  obtain rfl:l = 0:=by omega
  obtain rfl:ts = []:=List.eq_nil_of_length_eq_zero h0
  clear hs hz hl hlc
  go_enter Tryz.func59,Tryz.ntmps59
  go_wp2_with fail
  go_loopw [3,8] (fun lv iv wr=>wr = W /\ lv = .slice none 0 0 /\ iv = .int .i64 0) (fun _ _ _=>0)
  case atStart=>exact ⟨rfl,rfl,rfl⟩
  case round =>
   obtain ⟨hw,rfl,rfl⟩:=hrel
   replace hw:=hw.symm
   subst hw
   go_wp2_with fail
   go_ret
   exact ⟨gRf _ _,none,0,fun _=>.int .i64 0,rfl,Nat.le_refl _,RowT.nil _ _ _ _⟩
 | succ N ih =>
  intro W ts a l c hs hz hN
  obtain ⟨hl,hlc,hm⟩:=hs.len
  subst hl
  unfold maxLen at hm
  have htl:=tylength_le ts
  have HS:=jh hs
  have HIH:Hid (∀ {W:World} {ts:List Ty} {a:Option Addr} {l c:Nat},RowC W ts (.slice a l c) -> tysizes ts <= N -> Calls Tryz.prog 59 #[.slice a l c] W (CopiesPost ts W)):=fun h1 h2=>ih h1 h2 (by omega)
  have HZ:=jh hz
  clear hs ih hz
  go_enter Tryz.func59,Tryz.ntmps59
  go_wp2_with fail
  go_loopw [3,8] (fun lv iv wr=>∃ (j:Nat) (vs:List Value),j <= ts.length /\ iv = .int .i64 j /\ ListOkT W.heap.size wr lv (ts.take j) vs /\ W.grownBy wr none) (fun _ iv _=>ts.length - (intOf iv).toNat)
  case atStart=>exact ⟨0,[],Nat.zero_le _,rfl,ListOkT.nil _ _,gRf _ _⟩
  case round =>
   obtain ⟨j,vs,hj,rfl,hK,hg⟩:=hrel
   have hvl:=hK.len
   rw [List.length_take,Nat.min_eq_left hj] at hvl
   by_cases hlt:j < ts.length
   ·obtain ⟨b,o,t,a',l',c',rfl,x0,x1,hL⟩:=(HS.out.grow hg).at j hlt
    have hty:tAq ts j = ts[j]:=by unfold tAq;rw [List.getElem?_eq_getElem hlt];rfl
    rw [hty] at hL
    rw [show 2 * j = j * 2 from Nat.mul_comm _ _] at x0 x1
    rw [← Nat.add_assoc] at x1
    have hji:(j:Int) < (ts.length:Int):=by omega
    have hsz1:tysizes (ts[j]).args <= N:=by
     have h1:=tysize_mem (List.getElem_mem hlt)
     have h2:=HZ.out
     have h3:(ts[j]).size = tysizes (ts[j]).args + 1:=by cases ts[j];rfl
     omega
    obtain ⟨ht,hargs⟩:=hL.args
    have it:I64 t:=by obtain ⟨_,_,_,_,h,_⟩:=hL.inv;rw [ht] at h;exact h
    have hT:ts[j] = .nd t (ts[j]).args:=by rw [← ht];cases ts[j];rfl
    have hvb:vs.length <= 1000000000000:=by have:=HZ.out;omega
    have HTT:=jh hT
    clear hT
    have hgn:=gBq (w:=wr) (.cells #[.int .i64 t,.slice a' l' c'] 24)
    have hbn:=heap_alloc_new wr (.cells #[.int .i64 t,.slice a' l' c'] 24)
    have n3:some wr.heap.size ≠ u3.ownBlock:=fun e=>by have:=(World.ownsRow.lt hK.own wr.heap.size e.symm).2;omega
    have HCALL:Hid (∀ W2,wr.grownBy W2 none -> Calls Tryz.prog 59 #[.slice a' l' c'] W2 (CopiesPost (ts[j]).args W2)):=fun W2 h2=>HIH.out (hargs.grow h2) hsz1
    have HK:=jh (hK.callT hgn)
    have HG:=jh (gTq hg hgn)
    have HGN:=jh hgn
    have hzw:W.heap.size <= wr.heap.size:=hg.size
    have HOB:Hid (∀ k,u3.ownBlock = some k -> k < wr.heap.size):=fun k hk=>(World.ownsRow.lt hK.own k hk).2
    clear hL hty hsz1 ht hargs hgn hK hg
    go_wp2_with fail
    have hlt5:wr.heap.size < (wr.alloc (.cells #[.int .i64 t,.slice a' l' c'] 24)).heap.size:=by simp
    generalize wr.alloc (.cells #[.int .i64 t,.slice a' l' c'] 24) = w5 at *
    have y0:∀ w',w5.grownBy w' u3.ownBlock -> w'.cell? ⟨wr.heap.size,0,none⟩ = some (.int .i64 t):=fun w' h=>c0q ((h.block _ hlt5 n3).trans hbn)
    have y1:∀ w',w5.grownBy w' u3.ownBlock -> w'.cell? ⟨wr.heap.size,1,none⟩ = some (.slice a' l' c'):=fun w' h=>c1q ((h.block _ hlt5 n3).trans hbn)
    have hS0:w5.grownBy w5 u3.ownBlock:=gRf _ _
    have HLT5:=jh hlt5
    clear hbn n3 x0 x1 hlt5
    go_region_held3 (fun w'=>w5.grownBy w' u3.ownBlock) (first | with_reducible assumption | with_reducible exact gDr (gRf _ _) | with_reducible exact gTr (by assumption) (gAq (gBq _))) (first
     | (go_at_call 59;refine (HCALL.out _ (gDr HGN.out)).mono ?_;rintro e w2 hp2;obtain ⟨hg2,a2,c2,V2,rfl,hc2,hr2⟩:=hp2;have HK2:=jh (HK.out.callT (undrew hg2));have HG2:=jh (gTq HG.out (undrew hg2));have HR2:=jh hr2;have hS2:w5.grownBy w2 u3.ownBlock:=gAq (undrew hg2);clear hg2 hr2)
     | (refine step_appT W.heap.size vs t a2 (ts[j]).args.length c2 w2 u3 rfl (.tmp 12) (.tmp 19) rfl rfl rfl rfl HK2.out.own HG2.out.size hvb ?_;intro g cap w6 ho6 hg6;have hS6:w5.grownBy w6 u3.ownBlock:=gTr hS2 hg6.1;have HO6:=jh ho6;have HG6:=jh hg6;clear ho6 hg6))
    have HL2:Hid (LiesT (w5.heap.size <= ·) w2 ts[j] (tyV t a2 (ts[j]).args.length c2)):=by
     have h:=LiesT.ofRow (t:=t) it hc2 HR2.out
     rw [← HTT.out] at h
     exact h
    have HP:=jh (HK2.out.push (S:=wr.heap.size) hzw HOB.out (HL2.out.okMono (fun b _ h=>by have h1:=HLT5.out;have h2:w5.heap.size <= b:=h;show wr.heap.size <= b;omega)) HG6.out HO6.out)
    have HGF:=jh (grow_own HG2.out HK2.out.own (Nat.le_refl _) HG6.out.1)
    clear hS6 y0 y1 hS0
    go_wp2_with fail
    go_roundw
    case rel =>
     refine ⟨j + 1,vs ++ [tyV t a2 (ts[j]).args.length c2],by omega,by go_num,?_,HGF.out⟩
     rw [take_snocT ts j hlt]
     have h:=HP.out
     rw [hvl] at h
     exact h
    case measure=>simp [intOf];omega
   ·have hje:ts.take j = ts:=List.take_of_length_le (by omega)
    rw [hje] at hK
    obtain ⟨a5,c5,V5,hv,h1,h2⟩:=hK.done
    have hcap:ts.length <= c5:=by
     rcases hK.own.2 with ⟨e2,h0⟩ | ⟨g,cap,cur,e2,_,_,h4,h5,_⟩
     ·have:=hK.len;omega
     ·rw [e2] at hv
      simp only [Value.slice.injEq] at hv
      omega
    have HV:=jh hv
    have HROW:Hid (RowT (W.heap.size <= ·) wr ts a5 V5):=⟨by unfold maxLen;omega,h1,h2⟩
    have HG:=jh hg
    have HCC:=jh hcap
    have hji:¬ (j:Int) < (ts.length:Int):=by omega
    clear hK hv h1 h2 hg hcap hje hvl
    go_wp2_with fail
    go_ret
    exact ⟨HG.out,a5,c5,V5,by rw [HV.out];rfl,HCC.out,HROW.out⟩
end Go.Proofs.YtkglnoimbekhhaaGreat
