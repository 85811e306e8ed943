import Derived.Test.YtkglnoimbekhhaaGreatKZd
import Derived.Test.YtkglnoimbekhhaaGreatKZb
namespace Go.Proofs.YtkglnoimbekhhaaGreat
set_option maxRecDepth 100000
set_option maxHeartbeats 4000000
open Go.ChangeShapes Go.WideShapes Go.ChangeAt Go.RowKit
set_option linter.unusedVariables false
set_option linter.unusedSimpArgs false
theorem chooses_52 {W:World} {n:Int} {ta ra da:Option Addr} {tl tc rl rc dl dc:Nat} {dk dn dp:Int} {ds:ByteArray} {s:List Ty} {sv:Value} {E:List Ty -> List Ty -> Led} (hs:RowC W s sv) (hc:sFq s [12] = true) (hgd:s.all gYq = true) (hn:s.length <= 1000)
 (hE:∀ (W2:World) (x y:List Ty) (xv yv:Value) (a2:Option Addr) (l2 c2:Nat),W.grownBy W2 none -> RowC W2 (s.drop 1) (.slice a2 l2 c2) -> RowC W2 x xv -> RowC W2 y yv -> x.length <= 2 -> y.length <= 2 -> x.all gYq = true -> y.all gYq = true -> Calls Tryz.prog 111 #[insV 52 n ta tl tc ra rl rc dk dn dp ds da dl dc,.slice a2 l2 c2,xv,yv] W2 (LPq (E x y) W2)) :
 Calls Tryz.prog 85 #[insV 52 n ta tl tc ra rl rc dk dn dp ds da dl dc,sv] W (LPq (E ((tAq s 0).args.take 1) ((tAq s 0).args.drop 1)) W):=by
 obtain ⟨sa,sl,sc,e1⟩:=hs.form3
 subst e1
 unfold insV at hE ⊢
 obtain ⟨hg3,hI3,hR3,hK3⟩:=start3 W (.cells #[.int .i64 52,.int .i64 n,.slice ta tl tc,.slice ra rl rc,.int .i64 dk,.int .i64 dn,.int .i64 dp,.string ds,.slice da dl dc] 115) (.cells #[.slice none 0 0,.bool false] 62) (.cells #[.int .i64 12] 3)
 have hs3:=hs.grow hg3
 have HST:=jh (sTq (ks:=[12]) (kc:=1) hs3 (kinds1 hK3) (by decide))
 rw [hc] at HST
 have hlen:1 <= s.length:=slq hc
 obtain ⟨hsl,hsc,_⟩:=hs3.len
 obtain ⟨b,o,t0,a0,l0,k0,rfl,x0a,x0b,hA0⟩:=hs3.at 0 (by omega)
 have HA0:=jh hA0
 have HE:=jh hE
 have HGG:=jh (good_at hgd (i:=0) (by omega))
 have hq0:(tAq s 0).args.length = 2:=cAq hc hgd 0 12 2 rfl (by decide) (by decide)
 obtain ⟨_,hr0⟩:=hA0.args
 obtain ⟨el0,ec0,_⟩:=hr0.len
 rw [hq0] at el0 ec0
 subst el0
 have HQ0:=jh hr0
 have HQL:=jh hq0
 have hk0:(2:Int) <= (k0:Int):=by omega
 have hk1:(1:Int) <= (k0:Int):=by omega
 have hk2:¬ k0 - 1 = 0:=by omega
 have hk3:¬ k0 = 1:=by omega
 obtain ⟨nb0,no0,t00,a00,l00,k00,rfl,x00a,x00b,hA00⟩:=hr0.at 0 (by omega)
 have HA00:=jh hA00
 have bz1:(1:Int) <= (sl:Int):=by omega
 have by0:0 < sl:=by omega
 have b1:(sl:Int) <= (sc:Int):=by omega
 have HSL:=jh hsl
 have HG3:=jh hg3
 have HI3:=jh hI3
 have HR3:=jh hR3
 have HS3:=jh hs3
 have HLEN:=jh hlen
 simp only [Nat.reduceMul,Nat.reduceAdd,Nat.add_zero,Nat.mul_zero,Nat.zero_add] at x0a x0b x00a x00b
 clear hg3 hI3 hR3 hs hs3 hsl hlen hgd hc hK3 hA0 hE hr0 hq0 hA00
 go_enter Tryz.func85,Tryz.ntmps85
 go_wp2_with fail
 refine HST.out.mono ?_;rintro e w1 ⟨rfl,rfl⟩
 clear HST
 generalize ((W.alloc _).alloc _).alloc _ = W3 at *
 obtain ⟨i0,i1,i2,i3,i4,i5,i6,i7,i8⟩:=box9 HI3.out
 have yx0a:=fun (w':World) (h:W3.grownBy w' (some (W.heap.size + 1)))=>aI (kDq HR3.out h x0a x0a) (aI (kDq HR3.out h x0a x0b) (aI (kDq HR3.out h x00a x00a) (aI (kDq HR3.out h x00a x00b) (aI ((box9 (keepI HI3.out h)).1) (aI ((box9 (keepI HI3.out h)).2.1) (aI ((box9 (keepI HI3.out h)).2.2.1) (aI ((box9 (keepI HI3.out h)).2.2.2.1) (aI ((box9 (keepI HI3.out h)).2.2.2.2.1) (aI ((box9 (keepI HI3.out h)).2.2.2.2.2.1) (aI ((box9 (keepI HI3.out h)).2.2.2.2.2.2.1) (aI ((box9 (keepI HI3.out h)).2.2.2.2.2.2.2.1) ((box9 (keepI HI3.out h)).2.2.2.2.2.2.2.2))))))))))))
 have hS3:W3.grownBy W3 (some (W.heap.size + 1)):=gRf _ _
 rcases (show (sc = 1 /\ sl = 1) \/ (¬ sc = 1 /\ ¬ sc - 1 = 0) by omega) with ⟨rfl,rfl⟩ | ⟨hc2,hc3⟩
 have HD:=jh (HS3.out.dropAll 1 (by have:=HSL.out;omega) (some ⟨b,o,none⟩) 0)
 rotate_left
 have HD:=jh (HS3.out.drop 1 (by have:=HLEN.out;omega))
 all_goals
  go_wp2_with fail
  go_region_held3 (fun w'=>W3.grownBy w' (some (W.heap.size + 1))) (first | with_reducible assumption | with_reducible exact gDr (gRf _ _) | with_reducible exact grow_setR (by assumption) | with_reducible exact gTr (by assumption) (gAq (gBq _)) | with_reducible exact gDr (gAq (gBq _))) (first
   | (go_at_call 111;refine (HE.out _ _ _ _ _ _ _ _ (gTq HG3.out (gDr (gRf _ _))) (HD.out.grow (gDr (gRf _ _))) ((HQ0.out.grow (gDr (gRf _ _))).take 1 k0 (by have:=HQL.out;omega) (by omega)) ((HQ0.out.grow (gDr (gRf _ _))).drop 1 (by have:=HQL.out;omega)) (by have:=HQL.out;simp;omega) (by have:=HQL.out;simp;omega) (good_take (good_args HGG.out) 1) (good_drop (good_args HGG.out) 1)).mono ?_;rintro e w5 hp;obtain ⟨a5,l5,c5,f5,er5,rfl,hS5,q0,q1,q2,HB5,HL5⟩:=lFq hp HG3.out (gDr (gRf _ _)) HR3.out;clear hp))
  go_wp2_with fail
  exact eLq (fun w z0 z1=>by simp [results,Tryz.results85,go_sem,z0,z1]) rfl HB5.out HL5.out
theorem chooses_55 {W:World} {n:Int} {ta ra da:Option Addr} {tl tc rl rc dl dc:Nat} {dk dn dp:Int} {ds:ByteArray} {s:List Ty} {sv:Value} {E:List Ty -> List Ty -> Led} (hs:RowC W s sv) (hc:sFq s [9] = true) (hgd:s.all gYq = true) (hn:s.length <= 1000)
 (hE:∀ (W2:World) (x y:List Ty) (xv yv:Value) (a2:Option Addr) (l2 c2:Nat),W.grownBy W2 none -> RowC W2 (s.drop 1) (.slice a2 l2 c2) -> RowC W2 x xv -> RowC W2 y yv -> x.length <= 2 -> y.length <= 2 -> x.all gYq = true -> y.all gYq = true -> Calls Tryz.prog 111 #[insV 55 n ta tl tc ra rl rc dk dn dp ds da dl dc,.slice a2 l2 c2,xv,yv] W2 (LPq (E x y) W2)) :
 Calls Tryz.prog 85 #[insV 55 n ta tl tc ra rl rc dk dn dp ds da dl dc,sv] W (LPq (E [] (tAq s 0).args) W):=by
 obtain ⟨sa,sl,sc,e1⟩:=hs.form3
 subst e1
 unfold insV at hE ⊢
 obtain ⟨hg3,hI3,hR3,hK3⟩:=start3 W (.cells #[.int .i64 55,.int .i64 n,.slice ta tl tc,.slice ra rl rc,.int .i64 dk,.int .i64 dn,.int .i64 dp,.string ds,.slice da dl dc] 115) (.cells #[.slice none 0 0,.bool false] 62) (.cells #[.int .i64 9] 3)
 have hs3:=hs.grow hg3
 have HST:=jh (sTq (ks:=[9]) (kc:=1) hs3 (kinds1 hK3) (by decide))
 rw [hc] at HST
 have hlen:1 <= s.length:=slq hc
 obtain ⟨hsl,hsc,_⟩:=hs3.len
 obtain ⟨b,o,t0,a0,l0,k0,rfl,x0a,x0b,hA0⟩:=hs3.at 0 (by omega)
 have HA0:=jh hA0
 have HE:=jh hE
 have HGG:=jh (good_at hgd (i:=0) (by omega))
 have hq0:(tAq s 0).args.length = 1:=cAq hc hgd 0 9 1 rfl (by decide) (by decide)
 obtain ⟨_,hr0⟩:=hA0.args
 obtain ⟨el0,ec0,_⟩:=hr0.len
 rw [hq0] at el0 ec0
 subst el0
 have HQ0:=jh hr0
 have HQL:=jh hq0
 have hk0:(1:Int) <= (k0:Int):=by omega
 have hk1:(1:Int) <= (k0:Int):=by omega
 have bz1:(1:Int) <= (sl:Int):=by omega
 have by0:0 < sl:=by omega
 have b1:(sl:Int) <= (sc:Int):=by omega
 have HSL:=jh hsl
 have HG3:=jh hg3
 have HI3:=jh hI3
 have HR3:=jh hR3
 have HS3:=jh hs3
 have HLEN:=jh hlen
 simp only [Nat.reduceMul,Nat.reduceAdd,Nat.add_zero,Nat.mul_zero,Nat.zero_add] at x0a x0b
 clear hg3 hI3 hR3 hs hs3 hsl hlen hgd hc hK3 hA0 hE hr0 hq0
 go_enter Tryz.func85,Tryz.ntmps85
 go_wp2_with fail
 refine HST.out.mono ?_;rintro e w1 ⟨rfl,rfl⟩
 clear HST
 generalize ((W.alloc _).alloc _).alloc _ = W3 at *
 obtain ⟨i0,i1,i2,i3,i4,i5,i6,i7,i8⟩:=box9 HI3.out
 have yx0a:=fun (w':World) (h:W3.grownBy w' (some (W.heap.size + 1)))=>aI (kDq HR3.out h x0a x0a) (aI (kDq HR3.out h x0a x0b) (aI ((box9 (keepI HI3.out h)).1) (aI ((box9 (keepI HI3.out h)).2.1) (aI ((box9 (keepI HI3.out h)).2.2.1) (aI ((box9 (keepI HI3.out h)).2.2.2.1) (aI ((box9 (keepI HI3.out h)).2.2.2.2.1) (aI ((box9 (keepI HI3.out h)).2.2.2.2.2.1) (aI ((box9 (keepI HI3.out h)).2.2.2.2.2.2.1) (aI ((box9 (keepI HI3.out h)).2.2.2.2.2.2.2.1) ((box9 (keepI HI3.out h)).2.2.2.2.2.2.2.2))))))))))
 have hS3:W3.grownBy W3 (some (W.heap.size + 1)):=gRf _ _
 rcases (show (sc = 1 /\ sl = 1) \/ (¬ sc = 1 /\ ¬ sc - 1 = 0) by omega) with ⟨rfl,rfl⟩ | ⟨hc2,hc3⟩
 have HD:=jh (HS3.out.dropAll 1 (by have:=HSL.out;omega) (some ⟨b,o,none⟩) 0)
 rotate_left
 have HD:=jh (HS3.out.drop 1 (by have:=HLEN.out;omega))
 all_goals
  go_wp2_with fail
  go_region_held3 (fun w'=>W3.grownBy w' (some (W.heap.size + 1))) (first | with_reducible assumption | with_reducible exact gDr (gRf _ _) | with_reducible exact grow_setR (by assumption) | with_reducible exact gTr (by assumption) (gAq (gBq _)) | with_reducible exact gDr (gAq (gBq _))) (first
   | (go_at_call 111;refine (HE.out _ _ _ _ _ _ _ _ (gTq HG3.out (gDr (gRf _ _))) (HD.out.grow (gDr (gRf _ _))) (RowC.nil _ none 0) (HQ0.out.grow (gDr (gRf _ _))) (by simp) (by have:=HQL.out;omega) rfl (good_args HGG.out)).mono ?_;rintro e w5 hp;obtain ⟨a5,l5,c5,f5,er5,rfl,hS5,q0,q1,q2,HB5,HL5⟩:=lFq hp HG3.out (gDr (gRf _ _)) HR3.out;clear hp))
  go_wp2_with fail
  exact eLq (fun w z0 z1=>by simp [results,Tryz.results85,go_sem,z0,z1]) rfl HB5.out HL5.out
theorem chooses_58 {W:World} {n:Int} {ta ra da:Option Addr} {tl tc rl rc dl dc:Nat} {dk dn dp:Int} {ds:ByteArray} {s:List Ty} {sv:Value} {E:List Ty -> List Ty -> Led} (hs:RowC W s sv) (hc:sFq s [10] = true) (hgd:s.all gYq = true) (hn:s.length <= 1000)
 (hE:∀ (W2:World) (x y:List Ty) (xv yv:Value) (a2:Option Addr) (l2 c2:Nat),W.grownBy W2 none -> RowC W2 (s.drop 1) (.slice a2 l2 c2) -> RowC W2 x xv -> RowC W2 y yv -> x.length <= 2 -> y.length <= 2 -> x.all gYq = true -> y.all gYq = true -> Calls Tryz.prog 111 #[insV 58 n ta tl tc ra rl rc dk dn dp ds da dl dc,.slice a2 l2 c2,xv,yv] W2 (LPq (E x y) W2)) :
 Calls Tryz.prog 85 #[insV 58 n ta tl tc ra rl rc dk dn dp ds da dl dc,sv] W (LPq (E [tAq (tAq s 0).args 0,tAq s 0] []) W):=by
 obtain ⟨sa,sl,sc,e1⟩:=hs.form3
 subst e1
 unfold insV at hE ⊢
 obtain ⟨hg3,hI3,hR3,hK3⟩:=start3 W (.cells #[.int .i64 58,.int .i64 n,.slice ta tl tc,.slice ra rl rc,.int .i64 dk,.int .i64 dn,.int .i64 dp,.string ds,.slice da dl dc] 115) (.cells #[.slice none 0 0,.bool false] 62) (.cells #[.int .i64 10] 3)
 have hs3:=hs.grow hg3
 have HST:=jh (sTq (ks:=[10]) (kc:=1) hs3 (kinds1 hK3) (by decide))
 rw [hc] at HST
 have hlen:1 <= s.length:=slq hc
 obtain ⟨hsl,hsc,_⟩:=hs3.len
 obtain ⟨b,o,t0,a0,l0,k0,rfl,x0a,x0b,hA0⟩:=hs3.at 0 (by omega)
 have HA0:=jh hA0
 have HE:=jh hE
 have HGG:=jh (good_at hgd (i:=0) (by omega))
 have hq0:(tAq s 0).args.length = 1:=cAq hc hgd 0 10 1 rfl (by decide) (by decide)
 obtain ⟨_,hr0⟩:=hA0.args
 obtain ⟨el0,ec0,_⟩:=hr0.len
 rw [hq0] at el0 ec0
 subst el0
 have HQ0:=jh hr0
 have HQL:=jh hq0
 have hk0:(1:Int) <= (k0:Int):=by omega
 have hk1:(1:Int) <= (k0:Int):=by omega
 obtain ⟨nb0,no0,t00,a00,l00,k00,rfl,x00a,x00b,hA00⟩:=hr0.at 0 (by omega)
 have HA00:=jh hA00
 have bz1:(1:Int) <= (sl:Int):=by omega
 have by0:0 < sl:=by omega
 have b1:(sl:Int) <= (sc:Int):=by omega
 have HSL:=jh hsl
 have HG3:=jh hg3
 have HI3:=jh hI3
 have HR3:=jh hR3
 have HS3:=jh hs3
 have HLEN:=jh hlen
 simp only [Nat.reduceMul,Nat.reduceAdd,Nat.add_zero,Nat.mul_zero,Nat.zero_add] at x0a x0b x00a x00b
 clear hg3 hI3 hR3 hs hs3 hsl hlen hgd hc hK3 hA0 hE hr0 hq0 hA00
 go_enter Tryz.func85,Tryz.ntmps85
 go_wp2_with fail
 refine HST.out.mono ?_;rintro e w1 ⟨rfl,rfl⟩
 clear HST
 generalize ((W.alloc _).alloc _).alloc _ = W3 at *
 obtain ⟨i0,i1,i2,i3,i4,i5,i6,i7,i8⟩:=box9 HI3.out
 have yx0a:=fun (w':World) (h:W3.grownBy w' (some (W.heap.size + 1)))=>aI (kDq HR3.out h x0a x0a) (aI (kDq HR3.out h x0a x0b) (aI (kDq HR3.out h x00a x00a) (aI (kDq HR3.out h x00a x00b) (aI ((box9 (keepI HI3.out h)).1) (aI ((box9 (keepI HI3.out h)).2.1) (aI ((box9 (keepI HI3.out h)).2.2.1) (aI ((box9 (keepI HI3.out h)).2.2.2.1) (aI ((box9 (keepI HI3.out h)).2.2.2.2.1) (aI ((box9 (keepI HI3.out h)).2.2.2.2.2.1) (aI ((box9 (keepI HI3.out h)).2.2.2.2.2.2.1) (aI ((box9 (keepI HI3.out h)).2.2.2.2.2.2.2.1) ((box9 (keepI HI3.out h)).2.2.2.2.2.2.2.2))))))))))))
 have hS3:W3.grownBy W3 (some (W.heap.size + 1)):=gRf _ _
 rcases (show (sc = 1 /\ sl = 1) \/ (¬ sc = 1 /\ ¬ sc - 1 = 0) by omega) with ⟨rfl,rfl⟩ | ⟨hc2,hc3⟩
 have HD:=jh (HS3.out.dropAll 1 (by have:=HSL.out;omega) (some ⟨b,o,none⟩) 0)
 rotate_left
 have HD:=jh (HS3.out.drop 1 (by have:=HLEN.out;omega))
 all_goals
  go_wp2_with fail
  go_region_held3 (fun w'=>W3.grownBy w' (some (W.heap.size + 1))) (first | with_reducible assumption | with_reducible exact gDr (gRf _ _) | with_reducible exact grow_setR (by assumption) | with_reducible exact gTr (by assumption) (gAq (gBq _)) | with_reducible exact gDr (gAq (gBq _))) (first
   | (go_at_call 111;refine (HE.out _ _ _ _ _ _ _ _ (gTq HG3.out (gDr (gBq _))) (HD.out.grow (gDr (gBq _))) (RowC.dr (RowC.two (heap_alloc_new W3 _) (HA00.out.same (sAl (gBq _))) (HA0.out.same (sAl (gBq _))))) (RowC.nil _ none 0) (by simp) (by simp) (by have h1:=good_at (good_args HGG.out) (i:=0) (by have:=HQL.out;omega);have h2:=HGG.out;simp [h1,h2]) rfl).mono ?_;rintro e w5 hp;obtain ⟨a5,l5,c5,f5,er5,rfl,hS5,q0,q1,q2,HB5,HL5⟩:=lFq hp HG3.out (gDr (gBq _)) HR3.out;clear hp))
  go_wp2_with fail
  exact eLq (fun w z0 z1=>by simp [results,Tryz.results85,go_sem,z0,z1]) rfl HB5.out HL5.out
theorem chooses_64 {W:World} {n:Int} {ta ra da:Option Addr} {tl tc rl rc dl dc:Nat} {dk dn dp:Int} {ds:ByteArray} {s:List Ty} {sv:Value} {E:List Ty -> List Ty -> Led} (hs:RowC W s sv) (hc:sFq s [2] = true) (hgd:s.all gYq = true) (hn:s.length <= 1000)
 (hE:∀ (W2:World) (x y:List Ty) (xv yv:Value) (a2:Option Addr) (l2 c2:Nat),W.grownBy W2 none -> RowC W2 (s.drop 1) (.slice a2 l2 c2) -> RowC W2 x xv -> RowC W2 y yv -> x.length <= 2 -> y.length <= 2 -> x.all gYq = true -> y.all gYq = true -> Calls Tryz.prog 111 #[insV 64 n ta tl tc ra rl rc dk dn dp ds da dl dc,.slice a2 l2 c2,xv,yv] W2 (LPq (E x y) W2)) :
 Calls Tryz.prog 85 #[insV 64 n ta tl tc ra rl rc dk dn dp ds da dl dc,sv] W (LPq (E [] []) W):=by
 obtain ⟨sa,sl,sc,e1⟩:=hs.form3
 subst e1
 unfold insV at hE ⊢
 obtain ⟨hg3,hI3,hR3,hK3⟩:=start3 W (.cells #[.int .i64 64,.int .i64 n,.slice ta tl tc,.slice ra rl rc,.int .i64 dk,.int .i64 dn,.int .i64 dp,.string ds,.slice da dl dc] 115) (.cells #[.slice none 0 0,.bool false] 62) (.cells #[.int .i64 2] 3)
 have hs3:=hs.grow hg3
 have HST:=jh (sTq (ks:=[2]) (kc:=1) hs3 (kinds1 hK3) (by decide))
 rw [hc] at HST
 have hlen:1 <= s.length:=slq hc
 obtain ⟨hsl,hsc,_⟩:=hs3.len
 obtain ⟨b,o,t0,a0,l0,k0,rfl,x0a,x0b,hA0⟩:=hs3.at 0 (by omega)
 have HA0:=jh hA0
 have HE:=jh hE
 have HGG:=jh (good_at hgd (i:=0) (by omega))
 have bz1:(1:Int) <= (sl:Int):=by omega
 have by0:0 < sl:=by omega
 have b1:(sl:Int) <= (sc:Int):=by omega
 have HSL:=jh hsl
 have HG3:=jh hg3
 have HI3:=jh hI3
 have HR3:=jh hR3
 have HS3:=jh hs3
 have HLEN:=jh hlen
 simp only [Nat.reduceMul,Nat.reduceAdd,Nat.add_zero,Nat.mul_zero,Nat.zero_add] at x0a x0b
 clear hg3 hI3 hR3 hs hs3 hsl hlen hgd hc hK3 hA0 hE
 go_enter Tryz.func85,Tryz.ntmps85
 go_wp2_with fail
 refine HST.out.mono ?_;rintro e w1 ⟨rfl,rfl⟩
 clear HST
 generalize ((W.alloc _).alloc _).alloc _ = W3 at *
 obtain ⟨i0,i1,i2,i3,i4,i5,i6,i7,i8⟩:=box9 HI3.out
 have yx0a:=fun (w':World) (h:W3.grownBy w' (some (W.heap.size + 1)))=>aI (kDq HR3.out h x0a x0a) (aI (kDq HR3.out h x0a x0b) (aI ((box9 (keepI HI3.out h)).1) (aI ((box9 (keepI HI3.out h)).2.1) (aI ((box9 (keepI HI3.out h)).2.2.1) (aI ((box9 (keepI HI3.out h)).2.2.2.1) (aI ((box9 (keepI HI3.out h)).2.2.2.2.1) (aI ((box9 (keepI HI3.out h)).2.2.2.2.2.1) (aI ((box9 (keepI HI3.out h)).2.2.2.2.2.2.1) (aI ((box9 (keepI HI3.out h)).2.2.2.2.2.2.2.1) ((box9 (keepI HI3.out h)).2.2.2.2.2.2.2.2))))))))))
 have hS3:W3.grownBy W3 (some (W.heap.size + 1)):=gRf _ _
 rcases (show (sc = 1 /\ sl = 1) \/ (¬ sc = 1 /\ ¬ sc - 1 = 0) by omega) with ⟨rfl,rfl⟩ | ⟨hc2,hc3⟩
 have HD:=jh (HS3.out.dropAll 1 (by have:=HSL.out;omega) (some ⟨b,o,none⟩) 0)
 rotate_left
 have HD:=jh (HS3.out.drop 1 (by have:=HLEN.out;omega))
 all_goals
  go_wp2_with fail
  go_region_held3 (fun w'=>W3.grownBy w' (some (W.heap.size + 1))) (first | with_reducible assumption | with_reducible exact gDr (gRf _ _) | with_reducible exact grow_setR (by assumption) | with_reducible exact gTr (by assumption) (gAq (gBq _)) | with_reducible exact gDr (gAq (gBq _))) (first
   | (go_at_call 111;refine (HE.out _ _ _ _ _ _ _ _ (gTq HG3.out (gDr (gRf _ _))) (HD.out.grow (gDr (gRf _ _))) (RowC.nil _ none 0) (RowC.nil _ none 0) (by simp) (by simp) rfl rfl).mono ?_;rintro e w5 hp;obtain ⟨a5,l5,c5,f5,er5,rfl,hS5,q0,q1,q2,HB5,HL5⟩:=lFq hp HG3.out (gDr (gRf _ _)) HR3.out;clear hp))
  go_wp2_with fail
  exact eLq (fun w z0 z1=>by simp [results,Tryz.results85,go_sem,z0,z1]) rfl HB5.out HL5.out
theorem chooses_52n {W:World} {n:Int} {ta ra da:Option Addr} {tl tc rl rc dl dc:Nat} {dk dn dp:Int} {ds:ByteArray} {s:List Ty} {sv:Value} (hs:RowC W s sv) (hc:sFq s [12] = false) :
 Calls Tryz.prog 85 #[insV 52 n ta tl tc ra rl rc dk dn dp ds da dl dc,sv] W (LPq (.no 5) W):=by
 obtain ⟨sa,sl,sc,e1⟩:=hs.form3
 subst e1
 unfold insV
 obtain ⟨hg3,hI3,hR3,hK3⟩:=start3 W (.cells #[.int .i64 52,.int .i64 n,.slice ta tl tc,.slice ra rl rc,.int .i64 dk,.int .i64 dn,.int .i64 dp,.string ds,.slice da dl dc] 115) (.cells #[.slice none 0 0,.bool false] 62) (.cells #[.int .i64 12] 3)
 have HST:=jh (sTq (ks:=[12]) (kc:=1) (hs.grow hg3) (kinds1 hK3) (by decide))
 rw [hc] at HST
 have HG3:=jh hg3
 have HI3:=jh hI3
 have HR3:=jh hR3
 clear hg3 hI3 hR3 hs hc hK3
 go_enter Tryz.func85,Tryz.ntmps85
 go_wp2_with fail
 refine HST.out.mono ?_;rintro e w1 ⟨rfl,rfl⟩
 clear HST
 generalize ((W.alloc _).alloc _).alloc _ = W3 at *
 obtain ⟨i0,i1,i2,i3,_⟩:=box9 HI3.out
 go_wp2_with fail
 refine (rLq 5 (by decide) _).mono ?_
 rintro e w5 hp
 obtain ⟨a5,l5,c5,f5,er5,rfl,hS5,q0,q1,q2,HB5,HL5⟩:=lFq hp HG3.out (gRf _ _) HR3.out
 clear hp
 go_wp2_with fail
 exact eLq (fun w z0 z1=>by simp [results,Tryz.results85,go_sem,z0,z1]) rfl HB5.out HL5.out
theorem chooses_55n {W:World} {n:Int} {ta ra da:Option Addr} {tl tc rl rc dl dc:Nat} {dk dn dp:Int} {ds:ByteArray} {s:List Ty} {sv:Value} (hs:RowC W s sv) (hc:sFq s [9] = false) :
 Calls Tryz.prog 85 #[insV 55 n ta tl tc ra rl rc dk dn dp ds da dl dc,sv] W (LPq (.no 5) W):=by
 obtain ⟨sa,sl,sc,e1⟩:=hs.form3
 subst e1
 unfold insV
 obtain ⟨hg3,hI3,hR3,hK3⟩:=start3 W (.cells #[.int .i64 55,.int .i64 n,.slice ta tl tc,.slice ra rl rc,.int .i64 dk,.int .i64 dn,.int .i64 dp,.string ds,.slice da dl dc] 115) (.cells #[.slice none 0 0,.bool false] 62) (.cells #[.int .i64 9] 3)
 have HST:=jh (sTq (ks:=[9]) (kc:=1) (hs.grow hg3) (kinds1 hK3) (by decide))
 rw [hc] at HST
 have HG3:=jh hg3
 have HI3:=jh hI3
 have HR3:=jh hR3
 clear hg3 hI3 hR3 hs hc hK3
 go_enter Tryz.func85,Tryz.ntmps85
 go_wp2_with fail
 refine HST.out.mono ?_;rintro e w1 ⟨rfl,rfl⟩
 clear HST
 generalize ((W.alloc _).alloc _).alloc _ = W3 at *
 obtain ⟨i0,i1,i2,i3,_⟩:=box9 HI3.out
 go_wp2_with fail
 refine (rLq 5 (by decide) _).mono ?_
 rintro e w5 hp
 obtain ⟨a5,l5,c5,f5,er5,rfl,hS5,q0,q1,q2,HB5,HL5⟩:=lFq hp HG3.out (gRf _ _) HR3.out
 clear hp
 go_wp2_with fail
 exact eLq (fun w z0 z1=>by simp [results,Tryz.results85,go_sem,z0,z1]) rfl HB5.out HL5.out
theorem chooses_58n {W:World} {n:Int} {ta ra da:Option Addr} {tl tc rl rc dl dc:Nat} {dk dn dp:Int} {ds:ByteArray} {s:List Ty} {sv:Value} (hs:RowC W s sv) (hc:sFq s [10] = false) :
 Calls Tryz.prog 85 #[insV 58 n ta tl tc ra rl rc dk dn dp ds da dl dc,sv] W (LPq (.no 5) W):=by
 obtain ⟨sa,sl,sc,e1⟩:=hs.form3
 subst e1
 unfold insV
 obtain ⟨hg3,hI3,hR3,hK3⟩:=start3 W (.cells #[.int .i64 58,.int .i64 n,.slice ta tl tc,.slice ra rl rc,.int .i64 dk,.int .i64 dn,.int .i64 dp,.string ds,.slice da dl dc] 115) (.cells #[.slice none 0 0,.bool false] 62) (.cells #[.int .i64 10] 3)
 have HST:=jh (sTq (ks:=[10]) (kc:=1) (hs.grow hg3) (kinds1 hK3) (by decide))
 rw [hc] at HST
 have HG3:=jh hg3
 have HI3:=jh hI3
 have HR3:=jh hR3
 clear hg3 hI3 hR3 hs hc hK3
 go_enter Tryz.func85,Tryz.ntmps85
 go_wp2_with fail
 refine HST.out.mono ?_;rintro e w1 ⟨rfl,rfl⟩
 clear HST
 generalize ((W.alloc _).alloc _).alloc _ = W3 at *
 obtain ⟨i0,i1,i2,i3,_⟩:=box9 HI3.out
 go_wp2_with fail
 refine (rLq 5 (by decide) _).mono ?_
 rintro e w5 hp
 obtain ⟨a5,l5,c5,f5,er5,rfl,hS5,q0,q1,q2,HB5,HL5⟩:=lFq hp HG3.out (gRf _ _) HR3.out
 clear hp
 go_wp2_with fail
 exact eLq (fun w z0 z1=>by simp [results,Tryz.results85,go_sem,z0,z1]) rfl HB5.out HL5.out
theorem chooses_64n {W:World} {n:Int} {ta ra da:Option Addr} {tl tc rl rc dl dc:Nat} {dk dn dp:Int} {ds:ByteArray} {s:List Ty} {sv:Value} (hs:RowC W s sv) (hc:sFq s [2] = false) :
 Calls Tryz.prog 85 #[insV 64 n ta tl tc ra rl rc dk dn dp ds da dl dc,sv] W (LPq (.no 5) W):=by
 obtain ⟨sa,sl,sc,e1⟩:=hs.form3
 subst e1
 unfold insV
 obtain ⟨hg3,hI3,hR3,hK3⟩:=start3 W (.cells #[.int .i64 64,.int .i64 n,.slice ta tl tc,.slice ra rl rc,.int .i64 dk,.int .i64 dn,.int .i64 dp,.string ds,.slice da dl dc] 115) (.cells #[.slice none 0 0,.bool false] 62) (.cells #[.int .i64 2] 3)
 have HST:=jh (sTq (ks:=[2]) (kc:=1) (hs.grow hg3) (kinds1 hK3) (by decide))
 rw [hc] at HST
 have HG3:=jh hg3
 have HI3:=jh hI3
 have HR3:=jh hR3
 clear hg3 hI3 hR3 hs hc hK3
 go_enter Tryz.func85,Tryz.ntmps85
 go_wp2_with fail
 refine HST.out.mono ?_;rintro e w1 ⟨rfl,rfl⟩
 clear HST
 generalize ((W.alloc _).alloc _).alloc _ = W3 at *
 obtain ⟨i0,i1,i2,i3,_⟩:=box9 HI3.out
 go_wp2_with fail
 refine (rLq 5 (by decide) _).mono ?_
 rintro e w5 hp
 obtain ⟨a5,l5,c5,f5,er5,rfl,hS5,q0,q1,q2,HB5,HL5⟩:=lFq hp HG3.out (gRf _ _) HR3.out
 clear hp
 go_wp2_with fail
 exact eLq (fun w z0 z1=>by simp [results,Tryz.results85,go_sem,z0,z1]) rfl HB5.out HL5.out
end Go.Proofs.YtkglnoimbekhhaaGreat
