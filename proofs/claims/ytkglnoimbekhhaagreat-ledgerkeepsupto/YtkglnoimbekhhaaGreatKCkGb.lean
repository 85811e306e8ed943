import Derived.Test.YtkglnoimbekhhaaGreatKZd
import Derived.Test.YtkglnoimbekhhaaGreatKZb
namespace Go.Proofs.YtkglnoimbekhhaaGreat
set_option maxRecDepth 100000
set_option maxHeartbeats 4000000
open Go.ChangeShapes Go.WideShapes Go.ChangeAt Go.RowKit
set_option linter.unusedVariables false
set_option linter.unusedSimpArgs false
theorem gathers_59a {W:World} {n:Int} {ta ra da:Option Addr} {tl tc rl rc dl dc:Nat} {dk dn dp:Int} {ds:ByteArray} {s types:List Ty} {sv:Value} (hs:RowC W s sv) (hT:RowC W types (.slice ta tl tc)) (hc:sFq s [6] = true) (hgd:s.all gYq = true) (hn:s.length <= 1000) :
 Calls Tryz.prog 84 #[insV 59 n ta tl tc ra rl rc dk dn dp ds da dl dc,sv] W (LPq (pFq (s.drop 1) [(.nd 4 [])]) W):=by
 obtain ⟨sa,sl,sc,e1⟩:=hs.form3
 subst e1
 unfold insV
 obtain ⟨hg3,hI3,hR3⟩:=start2 W (.cells #[.int .i64 59,.int .i64 n,.slice ta tl tc,.slice ra rl rc,.int .i64 dk,.int .i64 dn,.int .i64 dp,.string ds,.slice da dl dc] 115) (.cells #[.slice none 0 0,.bool false] 62)
 have hs3:=hs.grow hg3
 have hT3:=hT.grow hg3
 have hlen:1 <= s.length:=slq hc
 obtain ⟨hsl,hsc,_⟩:=hs3.len
 obtain ⟨b,o,t0,a0,l0,k0,rfl,x0a,x0b,hA0⟩:=hs3.at 0 (by omega)
 have HA0:=jh hA0
 have bz1:(1:Int) <= (sl:Int):=by omega
 have by0:0 < sl:=by omega
 have b1:(sl:Int) <= (sc:Int):=by omega
 have HSL:=jh hsl
 have HG3:=jh hg3
 have HI3:=jh hI3
 have HR3:=jh hR3
 have HS3:=jh hs3
 have HLEN:=jh hlen
 simp only [Nat.reduceMul,Nat.reduceAdd,Nat.add_zero,Nat.mul_zero,Nat.zero_add] at x0a x0b
 obtain ⟨i0,i1,i2,i3,_⟩:=box9 hI3
 clear hg3 hI3 hR3 hs hs3 hT hT3 hsl hlen hgd hA0
 go_enter Tryz.func84,Tryz.ntmps84
 go_wp2_with fail
 generalize (W.alloc _).alloc _ = W3 at *
 have yx0a:=fun (w':World) (h:W3.grownBy w' none)=>aI (kNq h x0a) (aI (kNq h x0b) (aI (kNq h i0) (kNq h i2)))
 have hS0:W3.grownBy W3 none:=gRf _ _
 refine wp_region_held_drew (S:=fun w'=>W3.grownBy w' none) (by kernel_rfl) ?_ (fun hHeld=>?_)
 ·exact gDr (gRf _ _)
 refine rGq 0 26 ?_
 refine rGq 1 27 ?_
 refine rGq 2 28 ?_
 refine rGq 3 29 ?_
 refine rNq 4 30 ?_
 refine rNq 5 31 ?_
 refine rNq 6 32 ?_
 refine rGq 7 33 ?_
 refine rGq 8 34 ?_
 refine rNq 9 35 ?_
 refine rNq 10 36 ?_
 refine rNq 11 37 ?_
 refine rNq 12 38 ?_
 refine rNq 13 39 ?_
 refine rNq 14 40 ?_
 refine rNq 15 41 ?_
 refine rNq 16 42 ?_
 refine rNq 17 43 ?_
 refine rNq 18 44 ?_
 refine rGq 19 45 ?_
 refine rGq 20 25 ?_
 refine wpAnyH_done (by kernel_rfl) ?_ _
 clear hHeld
 clear yx0a hS0
 have hg:W3.grownBy W3.drew none:=gDr (gRf _ _)
 replace x0a:=kNq hg x0a
 replace x0b:=kNq hg x0b
 replace i0:=kNq hg i0
 replace i2:=kNq hg i2
 replace HI3:=bCq HI3 hg
 replace HR3:=bCq HR3 hg
 replace HS3:=rCq HS3 hg
 replace HG3:=gCq HG3 hg
 replace HA0:=tCq HA0 hg
 clear hg
 generalize W3.drew = wd0 at *
 go_wp2_with fail
 have hg:=gBq (w:=wd0) (.cells #[.int .i64 6] 3)
 have hK3:=heap_alloc_new wd0 (.cells #[.int .i64 6] 3)
 have HST:=jh (sTq (ks:=[6]) (kc:=1) (HS3.out.grow hg) (kinds1 hK3) (by decide))
 rw [hc] at HST
 refine HST.out.mono ?_;rintro e w2 ⟨rfl,rfl⟩
 clear HST hK3
 replace x0a:=kNq hg x0a
 replace x0b:=kNq hg x0b
 replace i0:=kNq hg i0
 replace i2:=kNq hg i2
 replace HI3:=bCq HI3 hg
 replace HR3:=bCq HR3 hg
 replace HS3:=rCq HS3 hg
 replace HG3:=gCq HG3 hg
 replace HA0:=tCq HA0 hg
 clear hg
 generalize wd0.alloc _ = wk at *
 have yx0a:=fun (w':World) (h:wk.grownBy w' (some (W.heap.size + 1)))=>aI (kDq HR3.out h x0a x0a) (kDq HR3.out h x0a x0b)
 have hS3:wk.grownBy wk (some (W.heap.size + 1)):=gRf _ _
 rcases (show (sc = 1 /\ sl = 1) \/ (¬ sc = 1 /\ ¬ sc - 1 = 0) by omega) with ⟨rfl,rfl⟩ | ⟨hc2,hc3⟩
 have HD:=jh (HS3.out.dropAll 1 (by have:=HSL.out;omega) (some ⟨b,o,none⟩) 0)
 rotate_left
 have HD:=jh (HS3.out.drop 1 (by have:=HLEN.out;omega))
 all_goals
  go_wp2_with fail
  go_region_held3 (fun w'=>wk.grownBy w' (some (W.heap.size + 1))) (first | with_reducible assumption | with_reducible exact gDr (gRf _ _) | with_reducible exact grow_setR (by assumption) | with_reducible exact gTr (by assumption) (gAq (gBq _)) | with_reducible exact gDr (gAq (gBq _))) (first
   | (go_at_call 29;refine (of_any 4 _ _ _ _).mono ?_;rintro e w10 ⟨rfl,hg⟩;have HU0:=jh (LiesT.oq (t:=4) ⟨by decide,by decide⟩ (RowC.grow (RowC.nil _ none 0) (undrew hg)));have HG10:Hid (wk.grownBy w10 none):=gTq (gRf _ _) (undrew hg);have hS:wk.grownBy w10 (some (W.heap.size + 1)):=gAq HG10.out;clear hg)
   | (go_at_call 108;have hprev:=HG10.out;clear hprev;refine (pAq (HD.out.grow (gTq HG10.out (gBq _))) (RowC.one (heap_alloc_new w10 _) (HU0.out.same (sAl (gBq _)))) (by simp;omega)).mono ?_;rintro e w5 hp;obtain ⟨a5,l5,c5,f5,er5,rfl,hS5,q0,q1,q2,HB5,HL5⟩:=lFq hp HG3.out (gTq HG10.out (gBq _)) HR3.out;clear hp))
  go_wp2_with fail
  exact eLq (fun w z0 z1=>by simp [results,Tryz.results84,go_sem,z0,z1]) rfl HB5.out HL5.out
theorem gathers_59b {W:World} {n:Int} {ta ra da:Option Addr} {tl tc rl rc dl dc:Nat} {dk dn dp:Int} {ds:ByteArray} {s types:List Ty} {sv:Value} (hs:RowC W s sv) (hT:RowC W types (.slice ta tl tc)) (hc:sFq s [10] = true) (hf0:sFq s [6] = false) (hgd:s.all gYq = true) (hn:s.length <= 1000) :
 Calls Tryz.prog 84 #[insV 59 n ta tl tc ra rl rc dk dn dp ds da dl dc,sv] W (LPq (pFq (s.drop 1) [(.nd 4 [])]) W):=by
 obtain ⟨sa,sl,sc,e1⟩:=hs.form3
 subst e1
 unfold insV
 obtain ⟨hg3,hI3,hR3⟩:=start2 W (.cells #[.int .i64 59,.int .i64 n,.slice ta tl tc,.slice ra rl rc,.int .i64 dk,.int .i64 dn,.int .i64 dp,.string ds,.slice da dl dc] 115) (.cells #[.slice none 0 0,.bool false] 62)
 have hs3:=hs.grow hg3
 have hT3:=hT.grow hg3
 have hlen:1 <= s.length:=slq hc
 obtain ⟨hsl,hsc,_⟩:=hs3.len
 obtain ⟨b,o,t0,a0,l0,k0,rfl,x0a,x0b,hA0⟩:=hs3.at 0 (by omega)
 have HA0:=jh hA0
 have bz1:(1:Int) <= (sl:Int):=by omega
 have by0:0 < sl:=by omega
 have b1:(sl:Int) <= (sc:Int):=by omega
 have HSL:=jh hsl
 have HG3:=jh hg3
 have HI3:=jh hI3
 have HR3:=jh hR3
 have HS3:=jh hs3
 have HLEN:=jh hlen
 simp only [Nat.reduceMul,Nat.reduceAdd,Nat.add_zero,Nat.mul_zero,Nat.zero_add] at x0a x0b
 obtain ⟨i0,i1,i2,i3,_⟩:=box9 hI3
 clear hg3 hI3 hR3 hs hs3 hT hT3 hsl hlen hgd hA0
 go_enter Tryz.func84,Tryz.ntmps84
 go_wp2_with fail
 generalize (W.alloc _).alloc _ = W3 at *
 have yx0a:=fun (w':World) (h:W3.grownBy w' none)=>aI (kNq h x0a) (aI (kNq h x0b) (aI (kNq h i0) (kNq h i2)))
 have hS0:W3.grownBy W3 none:=gRf _ _
 refine wp_region_held_drew (S:=fun w'=>W3.grownBy w' none) (by kernel_rfl) ?_ (fun hHeld=>?_)
 ·exact gDr (gRf _ _)
 refine rGq 0 26 ?_
 refine rGq 1 27 ?_
 refine rGq 2 28 ?_
 refine rGq 3 29 ?_
 refine rNq 4 30 ?_
 refine rNq 5 31 ?_
 refine rNq 6 32 ?_
 refine rGq 7 33 ?_
 refine rGq 8 34 ?_
 refine rNq 9 35 ?_
 refine rNq 10 36 ?_
 refine rNq 11 37 ?_
 refine rNq 12 38 ?_
 refine rNq 13 39 ?_
 refine rNq 14 40 ?_
 refine rNq 15 41 ?_
 refine rNq 16 42 ?_
 refine rNq 17 43 ?_
 refine rNq 18 44 ?_
 refine rGq 19 45 ?_
 refine rGq 20 25 ?_
 refine wpAnyH_done (by kernel_rfl) ?_ _
 clear hHeld
 clear yx0a hS0
 have hg:W3.grownBy W3.drew none:=gDr (gRf _ _)
 replace x0a:=kNq hg x0a
 replace x0b:=kNq hg x0b
 replace i0:=kNq hg i0
 replace i2:=kNq hg i2
 replace HI3:=bCq HI3 hg
 replace HR3:=bCq HR3 hg
 replace HS3:=rCq HS3 hg
 replace HG3:=gCq HG3 hg
 replace HA0:=tCq HA0 hg
 clear hg
 generalize W3.drew = wd0 at *
 go_wp2_with fail
 have hg:=gBq (w:=wd0) (.cells #[.int .i64 6] 3)
 have hK3:=heap_alloc_new wd0 (.cells #[.int .i64 6] 3)
 have HST:=jh (sTq (ks:=[6]) (kc:=1) (HS3.out.grow hg) (kinds1 hK3) (by decide))
 rw [hf0] at HST
 refine HST.out.mono ?_;rintro e w1 ⟨rfl,rfl⟩
 clear HST hK3
 replace x0a:=kNq hg x0a
 replace x0b:=kNq hg x0b
 replace i0:=kNq hg i0
 replace i2:=kNq hg i2
 replace HI3:=bCq HI3 hg
 replace HR3:=bCq HR3 hg
 replace HS3:=rCq HS3 hg
 replace HG3:=gCq HG3 hg
 replace HA0:=tCq HA0 hg
 clear hg
 generalize wd0.alloc _ = wa0 at *
 go_wp2_with fail
 have hg:=gBq (w:=wa0) (.cells #[.int .i64 10] 3)
 have hK3:=heap_alloc_new wa0 (.cells #[.int .i64 10] 3)
 have HST:=jh (sTq (ks:=[10]) (kc:=1) (HS3.out.grow hg) (kinds1 hK3) (by decide))
 rw [hc] at HST
 refine HST.out.mono ?_;rintro e w2 ⟨rfl,rfl⟩
 clear HST hK3
 replace x0a:=kNq hg x0a
 replace x0b:=kNq hg x0b
 replace i0:=kNq hg i0
 replace i2:=kNq hg i2
 replace HI3:=bCq HI3 hg
 replace HR3:=bCq HR3 hg
 replace HS3:=rCq HS3 hg
 replace HG3:=gCq HG3 hg
 replace HA0:=tCq HA0 hg
 clear hg
 generalize wa0.alloc _ = wk at *
 have yx0a:=fun (w':World) (h:wk.grownBy w' (some (W.heap.size + 1)))=>aI (kDq HR3.out h x0a x0a) (kDq HR3.out h x0a x0b)
 have hS3:wk.grownBy wk (some (W.heap.size + 1)):=gRf _ _
 rcases (show (sc = 1 /\ sl = 1) \/ (¬ sc = 1 /\ ¬ sc - 1 = 0) by omega) with ⟨rfl,rfl⟩ | ⟨hc2,hc3⟩
 have HD:=jh (HS3.out.dropAll 1 (by have:=HSL.out;omega) (some ⟨b,o,none⟩) 0)
 rotate_left
 have HD:=jh (HS3.out.drop 1 (by have:=HLEN.out;omega))
 all_goals
  go_wp2_with fail
  go_region_held3 (fun w'=>wk.grownBy w' (some (W.heap.size + 1))) (first | with_reducible assumption | with_reducible exact gDr (gRf _ _) | with_reducible exact grow_setR (by assumption) | with_reducible exact gTr (by assumption) (gAq (gBq _)) | with_reducible exact gDr (gAq (gBq _))) (first
   | (go_at_call 29;refine (of_any 4 _ _ _ _).mono ?_;rintro e w10 ⟨rfl,hg⟩;have HU0:=jh (LiesT.oq (t:=4) ⟨by decide,by decide⟩ (RowC.grow (RowC.nil _ none 0) (undrew hg)));have HG10:Hid (wk.grownBy w10 none):=gTq (gRf _ _) (undrew hg);have hS:wk.grownBy w10 (some (W.heap.size + 1)):=gAq HG10.out;clear hg)
   | (go_at_call 108;have hprev:=HG10.out;clear hprev;refine (pAq (HD.out.grow (gTq HG10.out (gBq _))) (RowC.one (heap_alloc_new w10 _) (HU0.out.same (sAl (gBq _)))) (by simp;omega)).mono ?_;rintro e w5 hp;obtain ⟨a5,l5,c5,f5,er5,rfl,hS5,q0,q1,q2,HB5,HL5⟩:=lFq hp HG3.out (gTq HG10.out (gBq _)) HR3.out;clear hp))
  go_wp2_with fail
  exact eLq (fun w z0 z1=>by simp [results,Tryz.results84,go_sem,z0,z1]) rfl HB5.out HL5.out
theorem gathers_59c {W:World} {n:Int} {ta ra da:Option Addr} {tl tc rl rc dl dc:Nat} {dk dn dp:Int} {ds:ByteArray} {s types:List Ty} {sv:Value} (hs:RowC W s sv) (hT:RowC W types (.slice ta tl tc)) (hc:sFq s [13] = true) (hf0:sFq s [6] = false) (hf1:sFq s [10] = false) (hgd:s.all gYq = true) (hn:s.length <= 1000) :
 Calls Tryz.prog 84 #[insV 59 n ta tl tc ra rl rc dk dn dp ds da dl dc,sv] W (LPq (pFq (s.drop 1) [(.nd 4 [])]) W):=by
 obtain ⟨sa,sl,sc,e1⟩:=hs.form3
 subst e1
 unfold insV
 obtain ⟨hg3,hI3,hR3⟩:=start2 W (.cells #[.int .i64 59,.int .i64 n,.slice ta tl tc,.slice ra rl rc,.int .i64 dk,.int .i64 dn,.int .i64 dp,.string ds,.slice da dl dc] 115) (.cells #[.slice none 0 0,.bool false] 62)
 have hs3:=hs.grow hg3
 have hT3:=hT.grow hg3
 have hlen:1 <= s.length:=slq hc
 obtain ⟨hsl,hsc,_⟩:=hs3.len
 obtain ⟨b,o,t0,a0,l0,k0,rfl,x0a,x0b,hA0⟩:=hs3.at 0 (by omega)
 have HA0:=jh hA0
 have bz1:(1:Int) <= (sl:Int):=by omega
 have by0:0 < sl:=by omega
 have b1:(sl:Int) <= (sc:Int):=by omega
 have HSL:=jh hsl
 have HG3:=jh hg3
 have HI3:=jh hI3
 have HR3:=jh hR3
 have HS3:=jh hs3
 have HLEN:=jh hlen
 simp only [Nat.reduceMul,Nat.reduceAdd,Nat.add_zero,Nat.mul_zero,Nat.zero_add] at x0a x0b
 obtain ⟨i0,i1,i2,i3,_⟩:=box9 hI3
 clear hg3 hI3 hR3 hs hs3 hT hT3 hsl hlen hgd hA0
 go_enter Tryz.func84,Tryz.ntmps84
 go_wp2_with fail
 generalize (W.alloc _).alloc _ = W3 at *
 have yx0a:=fun (w':World) (h:W3.grownBy w' none)=>aI (kNq h x0a) (aI (kNq h x0b) (aI (kNq h i0) (kNq h i2)))
 have hS0:W3.grownBy W3 none:=gRf _ _
 refine wp_region_held_drew (S:=fun w'=>W3.grownBy w' none) (by kernel_rfl) ?_ (fun hHeld=>?_)
 ·exact gDr (gRf _ _)
 refine rGq 0 26 ?_
 refine rGq 1 27 ?_
 refine rGq 2 28 ?_
 refine rGq 3 29 ?_
 refine rNq 4 30 ?_
 refine rNq 5 31 ?_
 refine rNq 6 32 ?_
 refine rGq 7 33 ?_
 refine rGq 8 34 ?_
 refine rNq 9 35 ?_
 refine rNq 10 36 ?_
 refine rNq 11 37 ?_
 refine rNq 12 38 ?_
 refine rNq 13 39 ?_
 refine rNq 14 40 ?_
 refine rNq 15 41 ?_
 refine rNq 16 42 ?_
 refine rNq 17 43 ?_
 refine rNq 18 44 ?_
 refine rGq 19 45 ?_
 refine rGq 20 25 ?_
 refine wpAnyH_done (by kernel_rfl) ?_ _
 clear hHeld
 clear yx0a hS0
 have hg:W3.grownBy W3.drew none:=gDr (gRf _ _)
 replace x0a:=kNq hg x0a
 replace x0b:=kNq hg x0b
 replace i0:=kNq hg i0
 replace i2:=kNq hg i2
 replace HI3:=bCq HI3 hg
 replace HR3:=bCq HR3 hg
 replace HS3:=rCq HS3 hg
 replace HG3:=gCq HG3 hg
 replace HA0:=tCq HA0 hg
 clear hg
 generalize W3.drew = wd0 at *
 go_wp2_with fail
 have hg:=gBq (w:=wd0) (.cells #[.int .i64 6] 3)
 have hK3:=heap_alloc_new wd0 (.cells #[.int .i64 6] 3)
 have HST:=jh (sTq (ks:=[6]) (kc:=1) (HS3.out.grow hg) (kinds1 hK3) (by decide))
 rw [hf0] at HST
 refine HST.out.mono ?_;rintro e w1 ⟨rfl,rfl⟩
 clear HST hK3
 replace x0a:=kNq hg x0a
 replace x0b:=kNq hg x0b
 replace i0:=kNq hg i0
 replace i2:=kNq hg i2
 replace HI3:=bCq HI3 hg
 replace HR3:=bCq HR3 hg
 replace HS3:=rCq HS3 hg
 replace HG3:=gCq HG3 hg
 replace HA0:=tCq HA0 hg
 clear hg
 generalize wd0.alloc _ = wa0 at *
 go_wp2_with fail
 have hg:=gBq (w:=wa0) (.cells #[.int .i64 10] 3)
 have hK3:=heap_alloc_new wa0 (.cells #[.int .i64 10] 3)
 have HST:=jh (sTq (ks:=[10]) (kc:=1) (HS3.out.grow hg) (kinds1 hK3) (by decide))
 rw [hf1] at HST
 refine HST.out.mono ?_;rintro e w1 ⟨rfl,rfl⟩
 clear HST hK3
 replace x0a:=kNq hg x0a
 replace x0b:=kNq hg x0b
 replace i0:=kNq hg i0
 replace i2:=kNq hg i2
 replace HI3:=bCq HI3 hg
 replace HR3:=bCq HR3 hg
 replace HS3:=rCq HS3 hg
 replace HG3:=gCq HG3 hg
 replace HA0:=tCq HA0 hg
 clear hg
 generalize wa0.alloc _ = wa1 at *
 go_wp2_with fail
 have hg:=gBq (w:=wa1) (.cells #[.int .i64 13] 3)
 have hK3:=heap_alloc_new wa1 (.cells #[.int .i64 13] 3)
 have HST:=jh (sTq (ks:=[13]) (kc:=1) (HS3.out.grow hg) (kinds1 hK3) (by decide))
 rw [hc] at HST
 refine HST.out.mono ?_;rintro e w2 ⟨rfl,rfl⟩
 clear HST hK3
 replace x0a:=kNq hg x0a
 replace x0b:=kNq hg x0b
 replace i0:=kNq hg i0
 replace i2:=kNq hg i2
 replace HI3:=bCq HI3 hg
 replace HR3:=bCq HR3 hg
 replace HS3:=rCq HS3 hg
 replace HG3:=gCq HG3 hg
 replace HA0:=tCq HA0 hg
 clear hg
 generalize wa1.alloc _ = wk at *
 have yx0a:=fun (w':World) (h:wk.grownBy w' (some (W.heap.size + 1)))=>aI (kDq HR3.out h x0a x0a) (kDq HR3.out h x0a x0b)
 have hS3:wk.grownBy wk (some (W.heap.size + 1)):=gRf _ _
 rcases (show (sc = 1 /\ sl = 1) \/ (¬ sc = 1 /\ ¬ sc - 1 = 0) by omega) with ⟨rfl,rfl⟩ | ⟨hc2,hc3⟩
 have HD:=jh (HS3.out.dropAll 1 (by have:=HSL.out;omega) (some ⟨b,o,none⟩) 0)
 rotate_left
 have HD:=jh (HS3.out.drop 1 (by have:=HLEN.out;omega))
 all_goals
  go_wp2_with fail
  go_region_held3 (fun w'=>wk.grownBy w' (some (W.heap.size + 1))) (first | with_reducible assumption | with_reducible exact gDr (gRf _ _) | with_reducible exact grow_setR (by assumption) | with_reducible exact gTr (by assumption) (gAq (gBq _)) | with_reducible exact gDr (gAq (gBq _))) (first
   | (go_at_call 29;refine (of_any 4 _ _ _ _).mono ?_;rintro e w10 ⟨rfl,hg⟩;have HU0:=jh (LiesT.oq (t:=4) ⟨by decide,by decide⟩ (RowC.grow (RowC.nil _ none 0) (undrew hg)));have HG10:Hid (wk.grownBy w10 none):=gTq (gRf _ _) (undrew hg);have hS:wk.grownBy w10 (some (W.heap.size + 1)):=gAq HG10.out;clear hg)
   | (go_at_call 108;have hprev:=HG10.out;clear hprev;refine (pAq (HD.out.grow (gTq HG10.out (gBq _))) (RowC.one (heap_alloc_new w10 _) (HU0.out.same (sAl (gBq _)))) (by simp;omega)).mono ?_;rintro e w5 hp;obtain ⟨a5,l5,c5,f5,er5,rfl,hS5,q0,q1,q2,HB5,HL5⟩:=lFq hp HG3.out (gTq HG10.out (gBq _)) HR3.out;clear hp))
  go_wp2_with fail
  exact eLq (fun w z0 z1=>by simp [results,Tryz.results84,go_sem,z0,z1]) rfl HB5.out HL5.out
theorem gathers_59n {W:World} {n:Int} {ta ra da:Option Addr} {tl tc rl rc dl dc:Nat} {dk dn dp:Int} {ds:ByteArray} {s types:List Ty} {sv:Value} (hs:RowC W s sv) (hT:RowC W types (.slice ta tl tc)) (hc:sFq s [13] = false) (hf0:sFq s [6] = false) (hf1:sFq s [10] = false) (hgd:s.all gYq = true) (hn:s.length <= 1000) :
 Calls Tryz.prog 84 #[insV 59 n ta tl tc ra rl rc dk dn dp ds da dl dc,sv] W (LPq (.no 5) W):=by
 obtain ⟨sa,sl,sc,e1⟩:=hs.form3
 subst e1
 unfold insV
 obtain ⟨hg3,hI3,hR3⟩:=start2 W (.cells #[.int .i64 59,.int .i64 n,.slice ta tl tc,.slice ra rl rc,.int .i64 dk,.int .i64 dn,.int .i64 dp,.string ds,.slice da dl dc] 115) (.cells #[.slice none 0 0,.bool false] 62)
 have hs3:=hs.grow hg3
 have hT3:=hT.grow hg3
 have hlen:0 <= s.length:=Nat.zero_le _
 obtain ⟨hsl,hsc,_⟩:=hs3.len
 have b1:(sl:Int) <= (sc:Int):=by omega
 have HSL:=jh hsl
 have HG3:=jh hg3
 have HI3:=jh hI3
 have HR3:=jh hR3
 have HS3:=jh hs3
 have HLEN:=jh hlen
 obtain ⟨i0,i1,i2,i3,_⟩:=box9 hI3
 clear hg3 hI3 hR3 hs hs3 hT hT3 hsl hlen hgd
 go_enter Tryz.func84,Tryz.ntmps84
 go_wp2_with fail
 generalize (W.alloc _).alloc _ = W3 at *
 have yi0:=fun (w':World) (h:W3.grownBy w' none)=>aI (kNq h i0) (kNq h i2)
 have hS0:W3.grownBy W3 none:=gRf _ _
 refine wp_region_held_drew (S:=fun w'=>W3.grownBy w' none) (by kernel_rfl) ?_ (fun hHeld=>?_)
 ·exact gDr (gRf _ _)
 refine rGq 0 26 ?_
 refine rGq 1 27 ?_
 refine rGq 2 28 ?_
 refine rGq 3 29 ?_
 refine rNq 4 30 ?_
 refine rNq 5 31 ?_
 refine rNq 6 32 ?_
 refine rGq 7 33 ?_
 refine rGq 8 34 ?_
 refine rNq 9 35 ?_
 refine rNq 10 36 ?_
 refine rNq 11 37 ?_
 refine rNq 12 38 ?_
 refine rNq 13 39 ?_
 refine rNq 14 40 ?_
 refine rNq 15 41 ?_
 refine rNq 16 42 ?_
 refine rNq 17 43 ?_
 refine rNq 18 44 ?_
 refine rGq 19 45 ?_
 refine rGq 20 25 ?_
 refine wpAnyH_done (by kernel_rfl) ?_ _
 clear hHeld
 clear yi0 hS0
 have hg:W3.grownBy W3.drew none:=gDr (gRf _ _)
 replace i0:=kNq hg i0
 replace i2:=kNq hg i2
 replace HI3:=bCq HI3 hg
 replace HR3:=bCq HR3 hg
 replace HS3:=rCq HS3 hg
 replace HG3:=gCq HG3 hg
 clear hg
 generalize W3.drew = wd0 at *
 go_wp2_with fail
 have hg:=gBq (w:=wd0) (.cells #[.int .i64 6] 3)
 have hK3:=heap_alloc_new wd0 (.cells #[.int .i64 6] 3)
 have HST:=jh (sTq (ks:=[6]) (kc:=1) (HS3.out.grow hg) (kinds1 hK3) (by decide))
 rw [hf0] at HST
 refine HST.out.mono ?_;rintro e w1 ⟨rfl,rfl⟩
 clear HST hK3
 replace i0:=kNq hg i0
 replace i2:=kNq hg i2
 replace HI3:=bCq HI3 hg
 replace HR3:=bCq HR3 hg
 replace HS3:=rCq HS3 hg
 replace HG3:=gCq HG3 hg
 clear hg
 generalize wd0.alloc _ = wa0 at *
 go_wp2_with fail
 have hg:=gBq (w:=wa0) (.cells #[.int .i64 10] 3)
 have hK3:=heap_alloc_new wa0 (.cells #[.int .i64 10] 3)
 have HST:=jh (sTq (ks:=[10]) (kc:=1) (HS3.out.grow hg) (kinds1 hK3) (by decide))
 rw [hf1] at HST
 refine HST.out.mono ?_;rintro e w1 ⟨rfl,rfl⟩
 clear HST hK3
 replace i0:=kNq hg i0
 replace i2:=kNq hg i2
 replace HI3:=bCq HI3 hg
 replace HR3:=bCq HR3 hg
 replace HS3:=rCq HS3 hg
 replace HG3:=gCq HG3 hg
 clear hg
 generalize wa0.alloc _ = wa1 at *
 go_wp2_with fail
 have hg:=gBq (w:=wa1) (.cells #[.int .i64 13] 3)
 have hK3:=heap_alloc_new wa1 (.cells #[.int .i64 13] 3)
 have HST:=jh (sTq (ks:=[13]) (kc:=1) (HS3.out.grow hg) (kinds1 hK3) (by decide))
 rw [hc] at HST
 refine HST.out.mono ?_;rintro e w2 ⟨rfl,rfl⟩
 clear HST hK3
 replace i0:=kNq hg i0
 replace i2:=kNq hg i2
 replace HI3:=bCq HI3 hg
 replace HR3:=bCq HR3 hg
 replace HS3:=rCq HS3 hg
 replace HG3:=gCq HG3 hg
 clear hg
 generalize wa1.alloc _ = wk at *
 have hS3:wk.grownBy wk (some (W.heap.size + 1)):=gRf _ _
 go_wp2_with fail
 refine (rLq 5 (by decide) _).mono ?_
 rintro e w5 hp
 obtain ⟨a5,l5,c5,f5,er5,rfl,hS5,q0,q1,q2,HB5,HL5⟩:=lFq hp HG3.out (gRf _ _) HR3.out
 clear hp
 go_wp2_with fail
 exact eLq (fun w z0 z1=>by simp [results,Tryz.results84,go_sem,z0,z1]) rfl HB5.out HL5.out
end Go.Proofs.YtkglnoimbekhhaaGreat
