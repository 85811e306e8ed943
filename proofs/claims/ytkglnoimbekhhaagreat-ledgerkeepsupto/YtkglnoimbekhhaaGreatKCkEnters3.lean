import Derived.Test.YtkglnoimbekhhaaGreatKZf
import Derived.Test.YtkglnoimbekhhaaGreatKZd
import Derived.Test.YtkglnoimbekhhaaGreatKZb
namespace Go.Proofs.YtkglnoimbekhhaaGreat
set_option maxRecDepth 100000
set_option maxHeartbeats 4000000
open Go.ChangeShapes Go.WideShapes Go.ChangeAt Go.RowKit
set_option linter.unusedVariables false
set_option linter.unusedSimpArgs false
theorem enters_68 {W:World} {n:Int} {ta ra da:Option Addr} {tl tc rl rc dl dc:Nat} {dk dn dp:Int} {ds:ByteArray} {s:List Ty} {sv:Value} {q:Led} (hs:RowC W s sv) (hc:sFq s [0] = true) (hn:s.length <= 1000)
 (hB:∀ (W2:World) (a2 a3:Option Addr) (l2 c2 l3 k3:Nat) (t3:Int),W.grownBy W2 none -> RowC W2 (s.drop 1) (.slice a2 l2 c2) -> LiesT (fun _=>True) W2 (tAq s 0) (tyV t3 a3 l3 k3) -> Calls Tryz.prog 113 #[insV 68 n ta tl tc ra rl rc dk dn dp ds da dl dc,tyV t3 a3 l3 k3,.slice a2 l2 c2] W2 (LPq q W2)) :
 Calls Tryz.prog 86 #[insV 68 n ta tl tc ra rl rc dk dn dp ds da dl dc,sv] W (LPq q W):=by
 obtain ⟨sa,sl,sc,e1⟩:=hs.form3
 subst e1
 unfold insV tyV at hB
 unfold insV
 obtain ⟨hg3,hI3,hR3⟩:=start2 W (.cells #[.int .i64 68,.int .i64 n,.slice ta tl tc,.slice ra rl rc,.int .i64 dk,.int .i64 dn,.int .i64 dp,.string ds,.slice da dl dc] 115) (.cells #[.slice none 0 0,.bool false] 62)
 have hs3:=hs.grow hg3
 obtain ⟨hsl,hsc,_⟩:=hs3.len
 have hlen:1 <= s.length:=slq hc
 have HLEN:=jh hlen
 obtain ⟨b,o,t0,a0,l0,k0,rfl,x0a,x0b,hA0⟩:=hs3.at 0 (by omega)
 have HA0:=jh hA0
 have HH:=jh hB
 have bz1:(1:Int) <= (sl:Int):=by omega
 have by0:0 < sl:=by omega
 simp only [Nat.reduceMul,Nat.reduceAdd,Nat.add_zero,Nat.mul_zero,Nat.zero_add] at x0a x0b
 have b1:(sl:Int) <= (sc:Int):=by omega
 have HSL:=jh hsl
 have HG3:=jh hg3
 have HI3:=jh hI3
 have HR3:=jh hR3
 have HS3:=jh hs3
 obtain ⟨i0,i1,i2,i3,i4,i5,i6,i7,i8⟩:=box9 hI3
 clear hg3 hI3 hR3 hs hs3 hsl hA0 hB hlen
 go_enter Tryz.func86,Tryz.ntmps86
 go_wp2_with fail
 generalize (W.alloc _).alloc _ = W3 at *
 have yi0:=fun (w':World) (h:W3.grownBy w' none)=>kNq h i0
 have hS0:W3.grownBy W3 none:=gRf _ _
 refine wp_region_held_drew (S:=fun w'=>W3.grownBy w' none) (by kernel_rfl) ?_ (fun hHeld=>?_)
 ·exact gDr (gRf _ _)
 refine rGq 0 110 ?_
 refine rGq 1 111 ?_
 refine rGq 2 112 ?_
 refine rGq 3 113 ?_
 refine rNq 4 114 ?_
 refine rNq 5 115 ?_
 refine rNq 6 116 ?_
 refine rGq 7 117 ?_
 refine rGq 8 118 ?_
 refine rNq 9 119 ?_
 refine rNq 10 120 ?_
 refine rNq 11 121 ?_
 refine rNq 12 122 ?_
 refine rNq 13 123 ?_
 refine rNq 14 124 ?_
 refine rNq 15 125 ?_
 refine rNq 16 126 ?_
 refine rNq 17 127 ?_
 refine rNq 18 128 ?_
 refine rGq 19 129 ?_
 refine rGq 20 109 ?_
 refine wpAnyH_done (by kernel_rfl) ?_ _
 clear hHeld hS0 yi0
 have hg:W3.grownBy W3.drew none:=gDr (gRf _ _)
 replace i0:=kNq hg i0
 replace i1:=kNq hg i1
 replace i2:=kNq hg i2
 replace i3:=kNq hg i3
 replace i4:=kNq hg i4
 replace i5:=kNq hg i5
 replace i6:=kNq hg i6
 replace i7:=kNq hg i7
 replace i8:=kNq hg i8
 replace HG3:=gCq HG3 hg
 replace HI3:=bCq HI3 hg
 replace HR3:=bCq HR3 hg
 replace HS3:=rCq HS3 hg
 replace x0a:=kNq hg x0a
 replace x0b:=kNq hg x0b
 replace HA0:=tCq HA0 hg
 clear hg
 generalize W3.drew = Wd at *
 go_wp2_with fail
 have hK3:=heap_alloc_new Wd (.cells #[.int .i64 0] 3)
 have hg:=gBq (w:=Wd) (.cells #[.int .i64 0] 3)
 have HST:=jh (sTq (ks:=[0]) (kc:=1) (HS3.out.grow hg) (kinds1 hK3) (by decide))
 rw [hc] at HST
 replace i0:=kNq hg i0
 replace i1:=kNq hg i1
 replace i2:=kNq hg i2
 replace i3:=kNq hg i3
 replace i4:=kNq hg i4
 replace i5:=kNq hg i5
 replace i6:=kNq hg i6
 replace i7:=kNq hg i7
 replace i8:=kNq hg i8
 replace HG3:=gCq HG3 hg
 replace HI3:=bCq HI3 hg
 replace HR3:=bCq HR3 hg
 replace HS3:=rCq HS3 hg
 replace x0a:=kNq hg x0a
 replace x0b:=kNq hg x0b
 replace HA0:=tCq HA0 hg
 clear hK3 hg hc
 refine HST.out.mono ?_;rintro e w1 ⟨rfl,rfl⟩
 clear HST
 generalize Wd.alloc _ = Wk at *
 have yx0a:=fun (w':World) (h:Wk.grownBy w' (some (W.heap.size + 1)))=>aI (kDq HR3.out h x0a x0a) (aI (kDq HR3.out h x0a x0b) (aI ((box9 (keepI HI3.out h)).1) (aI ((box9 (keepI HI3.out h)).2.1) (aI ((box9 (keepI HI3.out h)).2.2.1) (aI ((box9 (keepI HI3.out h)).2.2.2.1) (aI ((box9 (keepI HI3.out h)).2.2.2.2.1) (aI ((box9 (keepI HI3.out h)).2.2.2.2.2.1) (aI ((box9 (keepI HI3.out h)).2.2.2.2.2.2.1) (aI ((box9 (keepI HI3.out h)).2.2.2.2.2.2.2.1) ((box9 (keepI HI3.out h)).2.2.2.2.2.2.2.2))))))))))
 have hS3:Wk.grownBy Wk (some (W.heap.size + 1)):=gRf _ _
 rcases (show (sc = 1 /\ sl = 1) \/ (¬ sc = 1 /\ ¬ sc - 1 = 0) by omega) with ⟨rfl,rfl⟩ | ⟨hc2,hc3⟩
 have HD:=jh (HS3.out.dropAll 1 (by have:=HSL.out;omega) (some ⟨b,o,none⟩) 0)
 rotate_left
 have HD:=jh (HS3.out.drop 1 (by have:=HLEN.out;omega))
 all_goals
  go_wp2_with fail
  go_region_held3 (fun w'=>Wk.grownBy w' (some (W.heap.size + 1))) (first | with_reducible assumption | with_reducible exact gDr (gRf _ _) | with_reducible exact grow_setR (by assumption) | with_reducible exact gTr (by assumption) (gAq (gBq _)) | with_reducible exact gDr (gAq (gBq _))) (first
   | (go_at_call 113;refine (HH.out _ _ _ _ _ _ _ _ (gTq HG3.out (gDr (gRf _ _))) (HD.out.grow (gDr (gRf _ _))) (HA0.out.same (sAl (gDr (gRf _ _))))).mono ?_;rintro e w5 hp;obtain ⟨a5,l5,c5,f5,er5,rfl,hS5,q0,q1,q2,HB5,HL5⟩:=lFq hp HG3.out (gDr (gRf _ _)) HR3.out;clear hp))
  go_wp2_with fail
  exact eLq (fun w z0 z1=>by simp [results,Tryz.results86,go_sem,z0,z1]) rfl HB5.out HL5.out
theorem enters_68n {W:World} {n:Int} {ta ra da:Option Addr} {tl tc rl rc dl dc:Nat} {dk dn dp:Int} {ds:ByteArray} {s:List Ty} {sv:Value} (hs:RowC W s sv) (hc:sFq s [0] = false) (hn:s.length <= 1000) :
 Calls Tryz.prog 86 #[insV 68 n ta tl tc ra rl rc dk dn dp ds da dl dc,sv] W (LPq (.no 5) W):=by
 obtain ⟨sa,sl,sc,e1⟩:=hs.form3
 subst e1
 unfold insV
 obtain ⟨hg3,hI3,hR3⟩:=start2 W (.cells #[.int .i64 68,.int .i64 n,.slice ta tl tc,.slice ra rl rc,.int .i64 dk,.int .i64 dn,.int .i64 dp,.string ds,.slice da dl dc] 115) (.cells #[.slice none 0 0,.bool false] 62)
 have hs3:=hs.grow hg3
 obtain ⟨hsl,hsc,_⟩:=hs3.len
 have b1:(sl:Int) <= (sc:Int):=by omega
 have HSL:=jh hsl
 have HG3:=jh hg3
 have HI3:=jh hI3
 have HR3:=jh hR3
 have HS3:=jh hs3
 obtain ⟨i0,i1,i2,i3,i4,i5,i6,i7,i8⟩:=box9 hI3
 clear hg3 hI3 hR3 hs hs3 hsl
 go_enter Tryz.func86,Tryz.ntmps86
 go_wp2_with fail
 generalize (W.alloc _).alloc _ = W3 at *
 have yi0:=fun (w':World) (h:W3.grownBy w' none)=>kNq h i0
 have hS0:W3.grownBy W3 none:=gRf _ _
 refine wp_region_held_drew (S:=fun w'=>W3.grownBy w' none) (by kernel_rfl) ?_ (fun hHeld=>?_)
 ·exact gDr (gRf _ _)
 refine rGq 0 110 ?_
 refine rGq 1 111 ?_
 refine rGq 2 112 ?_
 refine rGq 3 113 ?_
 refine rNq 4 114 ?_
 refine rNq 5 115 ?_
 refine rNq 6 116 ?_
 refine rGq 7 117 ?_
 refine rGq 8 118 ?_
 refine rNq 9 119 ?_
 refine rNq 10 120 ?_
 refine rNq 11 121 ?_
 refine rNq 12 122 ?_
 refine rNq 13 123 ?_
 refine rNq 14 124 ?_
 refine rNq 15 125 ?_
 refine rNq 16 126 ?_
 refine rNq 17 127 ?_
 refine rNq 18 128 ?_
 refine rGq 19 129 ?_
 refine rGq 20 109 ?_
 refine wpAnyH_done (by kernel_rfl) ?_ _
 clear hHeld hS0 yi0
 have hg:W3.grownBy W3.drew none:=gDr (gRf _ _)
 replace i0:=kNq hg i0
 replace i1:=kNq hg i1
 replace i2:=kNq hg i2
 replace i3:=kNq hg i3
 replace i4:=kNq hg i4
 replace i5:=kNq hg i5
 replace i6:=kNq hg i6
 replace i7:=kNq hg i7
 replace i8:=kNq hg i8
 replace HG3:=gCq HG3 hg
 replace HI3:=bCq HI3 hg
 replace HR3:=bCq HR3 hg
 replace HS3:=rCq HS3 hg
 clear hg
 generalize W3.drew = Wd at *
 go_wp2_with fail
 have hK3:=heap_alloc_new Wd (.cells #[.int .i64 0] 3)
 have hg:=gBq (w:=Wd) (.cells #[.int .i64 0] 3)
 have HST:=jh (sTq (ks:=[0]) (kc:=1) (HS3.out.grow hg) (kinds1 hK3) (by decide))
 rw [hc] at HST
 replace i0:=kNq hg i0
 replace i1:=kNq hg i1
 replace i2:=kNq hg i2
 replace i3:=kNq hg i3
 replace i4:=kNq hg i4
 replace i5:=kNq hg i5
 replace i6:=kNq hg i6
 replace i7:=kNq hg i7
 replace i8:=kNq hg i8
 replace HG3:=gCq HG3 hg
 replace HI3:=bCq HI3 hg
 replace HR3:=bCq HR3 hg
 replace HS3:=rCq HS3 hg
 clear hK3 hg hc
 refine HST.out.mono ?_;rintro e w1 ⟨rfl,rfl⟩
 clear HST
 generalize Wd.alloc _ = Wk at *
 go_wp2_with fail
 refine (rLq 5 (by decide) _).mono ?_
 rintro e w5 hp
 obtain ⟨a5,l5,c5,f5,er5,rfl,hS5,q0,q1,q2,HB5,HL5⟩:=lFq hp HG3.out (gRf _ _) HR3.out
 clear hp
 go_wp2_with fail
 exact eLq (fun w z0 z1=>by simp [results,Tryz.results86,go_sem,z0,z1]) rfl HB5.out HL5.out
theorem enters_66 {W:World} {n:Int} {ta da na:Option Addr} {rb ro tl tc rl rc dl dc nl nc:Nat} {dk dn dp:Int} {ds:ByteArray} {s types:List Ty} {sv:Value} {Th:List Ty -> List Ty -> List Ty -> Led} (hs:RowC W s sv) (hn:s.length <= 1000) (hrl:1 <= rl) (hcell:W.cell? ⟨rb,ro,none⟩ = some (.slice na nl nc)) (hM:∀ W2,W.grownBy W2 none -> Calls Tryz.prog 49 #[.slice na nl nc] W2 fun e w'=>e = .returned (.bool false) /\ W2.grownBy w' none)
 (hT:RowC W types (.slice ta tl tc)) (htl:types.length = 2) (hgt:types.all gYq = true)
 (hTh:∀ (W2:World) (x y z:List Ty) (xv yv zv:Value),W.grownBy W2 none -> RowC W2 x xv -> RowC W2 y yv -> RowC W2 z zv -> x.length <= s.length + 1 -> y.length <= 1001 -> z.length <= 1001 -> x.all gYq = true -> Calls Tryz.prog 112 #[insV 66 n ta tl tc (some ⟨rb,ro,none⟩) rl rc dk dn dp ds da dl dc,xv,yv,zv] W2 (LPq (Th x y z) W2)) :
 Calls Tryz.prog 86 #[insV 66 n ta tl tc (some ⟨rb,ro,none⟩) rl rc dk dn dp ds da dl dc,sv] W (LPq (Th (types.take 1) (types.drop 1) ([.nd 14 types] ++ s)) W):=by
 obtain ⟨sa,sl,sc,e1⟩:=hs.form3
 subst e1
 unfold insV at hTh ⊢
 obtain ⟨hg3,hI3,hR3⟩:=start2 W (.cells #[.int .i64 66,.int .i64 n,.slice ta tl tc,.slice (some ⟨rb,ro,none⟩) rl rc,.int .i64 dk,.int .i64 dn,.int .i64 dp,.string ds,.slice da dl dc] 115) (.cells #[.slice none 0 0,.bool false] 62)
 have hs3:=hs.grow hg3
 obtain ⟨hsl,hsc,_⟩:=hs3.len
 subst hsl
 have xr:=kNq hg3 hcell
 have bz:(1:Int) <= (rl:Int):=by omega
 have by0:0 < rl:=by omega
 have by1:(0:Int) < (rl:Int):=by omega
 have HM:=jh (hM _ hg3)
 have hT3:=hT.grow hg3
 obtain ⟨et,ect,_⟩:=hT3.len
 rw [htl] at et ect
 subst et
 obtain ⟨bt,ot,tq,aq,lq,kq,rfl,_,_,_⟩:=hT3.at 0 (by omega)
 have HTY:=jh hT3
 have HGT:=jh hgt
 have HTL:=jh htl
 have ht1:(2:Int) <= (tc:Int):=by omega
 have ht2:¬ tc - 1 = 0:=by omega
 have ht3:¬ tc = 1:=by omega
 have ht4:(1:Int) <= (tc:Int):=by omega
 have HH:=jh hTh
 have HG3:=jh hg3
 have HI3:=jh hI3
 have HR3:=jh hR3
 have HS3:=jh hs3
 obtain ⟨i0,i1,i2,i3,i4,i5,i6,i7,i8⟩:=box9 hI3
 clear hg3 hI3 hR3 hs hs3 hcell hM hT hT3 hTh htl hgt
 obtain ⟨q,hq⟩:∃ q:Led,q = Th (types.take 1) (types.drop 1) ([.nd 14 types] ++ s):=⟨_,rfl⟩
 rw [← hq]
 have HQ:=jh hq
 clear hq
 go_enter Tryz.func86,Tryz.ntmps86
 go_wp2_with fail
 generalize (W.alloc _).alloc _ = W3 at *
 refine HM.out.mono ?_;rintro e w1 ⟨rfl,hg⟩
 replace i0:=kNq hg i0
 replace i1:=kNq hg i1
 replace i2:=kNq hg i2
 replace i3:=kNq hg i3
 replace i4:=kNq hg i4
 replace i5:=kNq hg i5
 replace i6:=kNq hg i6
 replace i7:=kNq hg i7
 replace i8:=kNq hg i8
 replace HG3:=gCq HG3 hg
 replace HI3:=bCq HI3 hg
 replace HR3:=bCq HR3 hg
 replace HS3:=rCq HS3 hg
 replace HTY:=jh (HTY.out.grow hg)
 clear hg HM xr
 go_wp2_with fail
 refine (of_any 14 _ _ _ _).mono ?_;rintro e w2 ⟨rfl,hg⟩
 have HU:=jh (LiesT.oq (t:=14) ⟨by decide,by decide⟩ (HTY.out.grow hg))
 replace i0:=kNq hg i0
 replace i1:=kNq hg i1
 replace i2:=kNq hg i2
 replace i3:=kNq hg i3
 replace i4:=kNq hg i4
 replace i5:=kNq hg i5
 replace i6:=kNq hg i6
 replace i7:=kNq hg i7
 replace i8:=kNq hg i8
 replace HG3:=gCq HG3 hg
 replace HI3:=bCq HI3 hg
 replace HR3:=bCq HR3 hg
 replace HS3:=rCq HS3 hg
 replace HTY:=jh (HTY.out.grow hg)
 clear hg
 have hg:=gBq (w:=w2) (.cells #[.int .i64 14,.slice (some ⟨bt,ot,none⟩) 2 tc] 24)
 have HIT:=jh (RowC.one (heap_alloc_new w2 (.cells #[.int .i64 14,.slice (some ⟨bt,ot,none⟩) 2 tc] 24)) (HU.out.same (sAl hg)))
 replace i0:=kNq hg i0
 replace i1:=kNq hg i1
 replace i2:=kNq hg i2
 replace i3:=kNq hg i3
 replace i4:=kNq hg i4
 replace i5:=kNq hg i5
 replace i6:=kNq hg i6
 replace i7:=kNq hg i7
 replace i8:=kNq hg i8
 replace HG3:=gCq HG3 hg
 replace HI3:=bCq HI3 hg
 replace HR3:=bCq HR3 hg
 replace HS3:=rCq HS3 hg
 replace HTY:=jh (HTY.out.grow hg)
 clear hg HU
 go_wp2_with fail
 generalize w2.alloc _ = Wm at *
 have yi0:=fun (w':World) (h:Wm.grownBy w' (some (W.heap.size + 1)))=>aI ((box9 (keepI HI3.out h)).1) (aI ((box9 (keepI HI3.out h)).2.1) (aI ((box9 (keepI HI3.out h)).2.2.1) (aI ((box9 (keepI HI3.out h)).2.2.2.1) (aI ((box9 (keepI HI3.out h)).2.2.2.2.1) (aI ((box9 (keepI HI3.out h)).2.2.2.2.2.1) (aI ((box9 (keepI HI3.out h)).2.2.2.2.2.2.1) (aI ((box9 (keepI HI3.out h)).2.2.2.2.2.2.2.1) ((box9 (keepI HI3.out h)).2.2.2.2.2.2.2.2))))))))
 have hS3:Wm.grownBy Wm (some (W.heap.size + 1)):=gRf _ _
 go_wp2_with fail
 go_region_held3 (fun w'=>Wm.grownBy w' (some (W.heap.size + 1))) (first | with_reducible assumption | with_reducible exact gDr (gRf _ _) | with_reducible exact grow_setR (by assumption) | with_reducible exact gTr (by assumption) (gAq (gBq _)) | with_reducible exact gDr (gAq (gBq _))) (first
  | (go_at_call 110;with_reducible refine (concat_w1 HIT.out HS3.out (by simp;omega)).mono ?_;rintro e w4 ⟨v4,rfl,hr4,hg4⟩;obtain ⟨a4,l4,c4,e4⟩:=hr4.form3;subst e4;have HR4:=jh hr4;have HG4:=jh hg4;have hS4:=gAq (r:=some (W.heap.size + 1)) HG4.out;clear hr4 hg4)
  | (go_at_call 112;refine (HH.out _ _ _ _ _ _ _ (gTq HG3.out HG4.out) ((HTY.out.grow HG4.out).take 1 tc (by have:=HTL.out;omega) (by omega)) ((HTY.out.grow HG4.out).drop 1 (by have:=HTL.out;omega)) HR4.out (by rw [List.length_take];omega) (by have:=HTL.out;simp;omega) (by simp;omega) (good_take HGT.out 1)).mono ?_;rintro e w5 hp;rw [← HQ.out] at hp;obtain ⟨a5,l5,c5,f5,er5,rfl,hS5,q0,q1,q2,HB5,HL5⟩:=lFq hp HG3.out HG4.out HR3.out;clear hp))
 go_wp2_with fail
 exact eLq (fun w z0 z1=>by simp [results,Tryz.results86,go_sem,z0,z1]) rfl HB5.out HL5.out
theorem enters_66n {W:World} {n:Int} {ta da na:Option Addr} {rb ro tl tc rl rc dl dc nl nc:Nat} {dk dn dp:Int} {ds:ByteArray} {s types:List Ty} {sv:Value} (hs:RowC W s sv) (hn:s.length <= 1000) (hrl:1 <= rl) (hcell:W.cell? ⟨rb,ro,none⟩ = some (.slice na nl nc)) (hM:∀ W2,W.grownBy W2 none -> Calls Tryz.prog 49 #[.slice na nl nc] W2 fun e w'=>e = .returned (.bool true) /\ W2.grownBy w' none) :
 Calls Tryz.prog 86 #[insV 66 n ta tl tc (some ⟨rb,ro,none⟩) rl rc dk dn dp ds da dl dc,sv] W (LPq (.no 5) W):=by
 obtain ⟨sa,sl,sc,e1⟩:=hs.form3
 subst e1
 unfold insV
 obtain ⟨hg3,hI3,hR3⟩:=start2 W (.cells #[.int .i64 66,.int .i64 n,.slice ta tl tc,.slice (some ⟨rb,ro,none⟩) rl rc,.int .i64 dk,.int .i64 dn,.int .i64 dp,.string ds,.slice da dl dc] 115) (.cells #[.slice none 0 0,.bool false] 62)
 have hs3:=hs.grow hg3
 obtain ⟨hsl,hsc,_⟩:=hs3.len
 subst hsl
 have xr:=kNq hg3 hcell
 have bz:(1:Int) <= (rl:Int):=by omega
 have by0:0 < rl:=by omega
 have by1:(0:Int) < (rl:Int):=by omega
 have HM:=jh (hM _ hg3)
 have HG3:=jh hg3
 have HI3:=jh hI3
 have HR3:=jh hR3
 have HS3:=jh hs3
 obtain ⟨i0,i1,i2,i3,i4,i5,i6,i7,i8⟩:=box9 hI3
 clear hg3 hI3 hR3 hs hs3 hcell hM
 go_enter Tryz.func86,Tryz.ntmps86
 go_wp2_with fail
 generalize (W.alloc _).alloc _ = W3 at *
 refine HM.out.mono ?_;rintro e w1 ⟨rfl,hg⟩
 replace i0:=kNq hg i0
 replace i1:=kNq hg i1
 replace i2:=kNq hg i2
 replace i3:=kNq hg i3
 replace i4:=kNq hg i4
 replace i5:=kNq hg i5
 replace i6:=kNq hg i6
 replace i7:=kNq hg i7
 replace i8:=kNq hg i8
 replace HG3:=gCq HG3 hg
 replace HI3:=bCq HI3 hg
 replace HR3:=bCq HR3 hg
 replace HS3:=rCq HS3 hg
 clear hg HM xr
 go_wp2_with fail
 have yi0:=fun (w':World) (h:w1.grownBy w' none)=>kNq h i0
 have hS0:w1.grownBy w1 none:=gRf _ _
 refine wp_region_held_drew (S:=fun w'=>w1.grownBy w' none) (by kernel_rfl) ?_ (fun hHeld=>?_)
 ·exact gDr (gRf _ _)
 refine rGq 0 110 ?_
 refine rGq 1 111 ?_
 refine rGq 2 112 ?_
 refine rGq 3 113 ?_
 refine rNq 4 114 ?_
 refine rNq 5 115 ?_
 refine rNq 6 116 ?_
 refine rGq 7 117 ?_
 refine rGq 8 118 ?_
 refine rNq 9 119 ?_
 refine rNq 10 120 ?_
 refine rNq 11 121 ?_
 refine rNq 12 122 ?_
 refine rNq 13 123 ?_
 refine rNq 14 124 ?_
 refine rNq 15 125 ?_
 refine rNq 16 126 ?_
 refine rNq 17 127 ?_
 refine rNq 18 128 ?_
 refine rGq 19 129 ?_
 refine rGq 20 109 ?_
 refine wpAnyH_done (by kernel_rfl) ?_ _
 clear hHeld hS0 yi0
 have hg:w1.grownBy w1.drew none:=gDr (gRf _ _)
 replace i0:=kNq hg i0
 replace i1:=kNq hg i1
 replace i2:=kNq hg i2
 replace i3:=kNq hg i3
 replace i4:=kNq hg i4
 replace i5:=kNq hg i5
 replace i6:=kNq hg i6
 replace i7:=kNq hg i7
 replace i8:=kNq hg i8
 replace HG3:=gCq HG3 hg
 replace HI3:=bCq HI3 hg
 replace HR3:=bCq HR3 hg
 replace HS3:=rCq HS3 hg
 clear hg
 generalize w1.drew = Wd at *
 go_wp2_with fail
 refine (rLq 5 (by decide) _).mono ?_
 rintro e w5 hp
 obtain ⟨a5,l5,c5,f5,er5,rfl,hS5,q0,q1,q2,HB5,HL5⟩:=lFq hp HG3.out (gRf _ _) HR3.out
 clear hp
 go_wp2_with fail
 exact eLq (fun w z0 z1=>by simp [results,Tryz.results86,go_sem,z0,z1]) rfl HB5.out HL5.out
end Go.Proofs.YtkglnoimbekhhaaGreat
