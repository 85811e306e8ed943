import Derived.Test.YtkglnoimbekhhaaGreatKZd
import Derived.Test.YtkglnoimbekhhaaGreatKZb
namespace Go.Proofs.YtkglnoimbekhhaaGreat
set_option maxRecDepth 100000
set_option maxHeartbeats 4000000
open Go.ChangeShapes Go.WideShapes Go.ChangeAt Go.RowKit
set_option linter.unusedVariables false
set_option linter.unusedSimpArgs false
theorem asks_73 {W:World} {n:Int} {ta ra da:Option Addr} {tl tc rl rc dl dc:Nat} {dk dn dp:Int} {ds:ByteArray} {s types:List Ty} {sv:Value} (hs:RowC W s sv) (hT:RowC W types (.slice ta tl tc)) (hc:sFq s [0,0] = true) (ht0:sameT (tAq s 0) (tAq s 1) = true) (hz0:(tAq s 0).size <= 50000000) (ht1:compT (tAq s 0) = true) (hz1:(tAq s 0).size <= 50000000) (hgd:s.all gYq = true) (hn:s.length <= 1000) :
 Calls Tryz.prog 88 #[insV 73 n ta tl tc ra rl rc dk dn dp ds da dl dc,sv] W (LPq (pFq (s.drop 2) [(.nd 3 [])]) W):=by
 obtain ⟨sa,sl,sc,e1⟩:=hs.form3
 subst e1
 unfold insV
 obtain ⟨hg3,hI3,hR3⟩:=start2 W (.cells #[.int .i64 73,.int .i64 n,.slice ta tl tc,.slice ra rl rc,.int .i64 dk,.int .i64 dn,.int .i64 dp,.string ds,.slice da dl dc] 115) (.cells #[.slice none 0 0,.bool false] 62)
 have hs3:=hs.grow hg3
 have hT3:=hT.grow hg3
 have hlen:2 <= s.length:=slq hc
 obtain ⟨hsl,hsc,_⟩:=hs3.len
 obtain ⟨b,o,t0,a0,l0,k0,rfl,x0a,x0b,hA0⟩:=hs3.at 0 (by omega)
 have HA0:=jh hA0
 obtain ⟨_,_,t1,a1,l1,k1,eb,x1a,x1b,hA1⟩:=hs3.at 1 (by omega)
 simp only [Option.some.injEq,Addr.mk.injEq,and_true] at eb
 obtain ⟨rfl,rfl⟩:=eb
 have HA1:=jh hA1
 have bz1:(1:Int) <= (sl:Int):=by omega
 have by0:0 < sl:=by omega
 have bz2:(2:Int) <= (sl:Int):=by omega
 have by1:(1:Int) < (sl:Int):=by omega
 have b1:(sl:Int) <= (sc:Int):=by omega
 have HSL:=jh hsl
 have HG3:=jh hg3
 have HI3:=jh hI3
 have HR3:=jh hR3
 have HS3:=jh hs3
 have HLEN:=jh hlen
 simp only [Nat.reduceMul,Nat.reduceAdd,Nat.add_zero,Nat.mul_zero,Nat.zero_add] at x0a x0b x1a x1b
 obtain ⟨i0,i1,i2,i3,_⟩:=box9 hI3
 clear hg3 hI3 hR3 hs hs3 hT hT3 hsl hlen hgd hA0 hA1
 go_enter Tryz.func88,Tryz.ntmps88
 go_wp2_with fail
 generalize (W.alloc _).alloc _ = W3 at *
 have yx0a:=fun (w':World) (h:W3.grownBy w' none)=>aI (kNq h x0a) (aI (kNq h x0b) (aI (kNq h x1a) (aI (kNq h x1b) (aI (kNq h i0) (kNq h i2)))))
 have hS0:W3.grownBy W3 none:=gRf _ _
 have HST:=jh (sTq (W:=(W3.alloc (.cells #[.int .i64 0,.int .i64 0] 3)).drew) (ks:=[0,0]) (kc:=2) (HS3.out.grow (gDr (gBq _))) (kinds2 (heap_alloc_new W3 _)) (by decide))
 rw [hc] at HST
 first
  | (go_region_held3 (fun w'=>W3.grownBy w' none) (first | with_reducible assumption | with_reducible exact gDr (gRf _ _) | with_reducible exact gTq (by assumption) (gBq _) | with_reducible exact gDr (gBq _)) (first
   | (go_at_call 107;refine HST.out.mono ?_;rintro e w1 ⟨rfl,rfl⟩)
   | (go_at_call 16;refine (same_any (HA0.out.same (sAl (gDr (gBq _)))).low (HA1.out.same (sAl (gDr (gBq _)))).low hz0).mono ?_;rintro e wt0 ⟨rfl,hg⟩;rw [ht0];have HGT0:Hid (W3.grownBy wt0 none):=gTq (gDr (gBq _)) hg;have hST0:=HGT0.out;clear hg)
   | (go_at_call 77;have hprev:=HGT0.out;clear hprev;refine (comparable_any (HA0.out.same (sAl HGT0.out)).low hz1).mono ?_;rintro e wt1 ⟨rfl,hg⟩;rw [ht1];have HGT1:Hid (W3.grownBy wt1 none):=gTq HGT0.out hg;have hST1:=HGT1.out;clear hg)))
  | fail
 clear yx0a hS0
 have hg:=HGT1.out
 replace x0a:=kNq hg x0a
 replace x0b:=kNq hg x0b
 replace x1a:=kNq hg x1a
 replace x1b:=kNq hg x1b
 replace i0:=kNq hg i0
 replace i2:=kNq hg i2
 replace HI3:=bCq HI3 hg
 replace HR3:=bCq HR3 hg
 replace HS3:=rCq HS3 hg
 replace HG3:=gCq HG3 hg
 replace HA0:=tCq HA0 hg
 replace HA1:=tCq HA1 hg
 clear hg
 clear hST0 hST1 HST
 have yx0a:=fun (w':World) (h:wt1.grownBy w' (some (W.heap.size + 1)))=>aI (kDq HR3.out h x0a x0a) (aI (kDq HR3.out h x0a x0b) (aI (kDq HR3.out h x1a x1a) (kDq HR3.out h x1a x1b)))
 have hS3:wt1.grownBy wt1 (some (W.heap.size + 1)):=gRf _ _
 rcases (show (sc = 2 /\ sl = 2) \/ (¬ sc = 2 /\ ¬ sc - 2 = 0) by omega) with ⟨rfl,rfl⟩ | ⟨hc2,hc3⟩
 have HD:=jh (HS3.out.dropAll 2 (by have:=HSL.out;omega) (some ⟨b,o,none⟩) 0)
 rotate_left
 have HD:=jh (HS3.out.drop 2 (by have:=HLEN.out;omega))
 all_goals
  go_wp2_with fail
  go_region_held3 (fun w'=>wt1.grownBy w' (some (W.heap.size + 1))) (first | with_reducible assumption | with_reducible exact gDr (gRf _ _) | with_reducible exact grow_setR (by assumption) | with_reducible exact gTr (by assumption) (gAq (gBq _)) | with_reducible exact gDr (gAq (gBq _))) (first
   | (go_at_call 29;refine (of_any 3 _ _ _ _).mono ?_;rintro e w10 ⟨rfl,hg⟩;have HU0:=jh (LiesT.oq (t:=3) ⟨by decide,by decide⟩ (RowC.grow (RowC.nil _ none 0) (undrew hg)));have HG10:Hid (wt1.grownBy w10 none):=gTq (gRf _ _) (undrew hg);have hS:wt1.grownBy w10 (some (W.heap.size + 1)):=gAq HG10.out;clear hg)
   | (go_at_call 108;have hprev:=HG10.out;clear hprev;refine (pAq (HD.out.grow (gTq HG10.out (gBq _))) (RowC.one (heap_alloc_new w10 _) (HU0.out.same (sAl (gBq _)))) (by simp;omega)).mono ?_;rintro e w5 hp;obtain ⟨a5,l5,c5,f5,er5,rfl,hS5,q0,q1,q2,HB5,HL5⟩:=lFq hp HG3.out (gTq HG10.out (gBq _)) HR3.out;clear hp))
  go_wp2_with fail
  exact eLq (fun w z0 z1=>by simp [results,Tryz.results88,go_sem,z0,z1]) rfl HB5.out HL5.out
theorem asks_73n {W:World} {n:Int} {ta ra da:Option Addr} {tl tc rl rc dl dc:Nat} {dk dn dp:Int} {ds:ByteArray} {s types:List Ty} {sv:Value} (hs:RowC W s sv) (hT:RowC W types (.slice ta tl tc)) (hc:sFq s [0,0] = false) (hgd:s.all gYq = true) (hn:s.length <= 1000) :
 Calls Tryz.prog 88 #[insV 73 n ta tl tc ra rl rc dk dn dp ds da dl dc,sv] W (LPq (.no 5) W):=by
 obtain ⟨sa,sl,sc,e1⟩:=hs.form3
 subst e1
 unfold insV
 obtain ⟨hg3,hI3,hR3⟩:=start2 W (.cells #[.int .i64 73,.int .i64 n,.slice ta tl tc,.slice ra rl rc,.int .i64 dk,.int .i64 dn,.int .i64 dp,.string ds,.slice da dl dc] 115) (.cells #[.slice none 0 0,.bool false] 62)
 have hs3:=hs.grow hg3
 have hT3:=hT.grow hg3
 have hlen:0 <= s.length:=Nat.zero_le _
 obtain ⟨hsl,hsc,_⟩:=hs3.len
 have b1:(sl:Int) <= (sc:Int):=by omega
 have HSL:=jh hsl
 have HG3:=jh hg3
 have HI3:=jh hI3
 have HR3:=jh hR3
 have HS3:=jh hs3
 have HLEN:=jh hlen
 obtain ⟨i0,i1,i2,i3,_⟩:=box9 hI3
 clear hg3 hI3 hR3 hs hs3 hT hT3 hsl hlen hgd
 go_enter Tryz.func88,Tryz.ntmps88
 go_wp2_with fail
 generalize (W.alloc _).alloc _ = W3 at *
 have yi0:=fun (w':World) (h:W3.grownBy w' none)=>aI (kNq h i0) (kNq h i2)
 have hS0:W3.grownBy W3 none:=gRf _ _
 have HST:=jh (sTq (W:=W3.drew.alloc (.cells #[.int .i64 0,.int .i64 0] 3)) (ks:=[0,0]) (kc:=2) (HS3.out.grow (gTq (gDr (gRf _ _)) (gBq _))) (kinds2 (heap_alloc_new W3.drew _)) (by decide))
 rw [hc] at HST
 refine wp_region_held_drew (S:=fun w'=>W3.grownBy w' none) (by kernel_rfl) ?_ (fun hHeld=>?_)
 ·exact gDr (gRf _ _)
 refine rGq 0 7 ?_
 refine rGq 1 8 ?_
 refine rGq 2 9 ?_
 refine rGq 3 10 ?_
 refine rGq 4 11 ?_
 refine wpAnyH_ready (rs:=[5]) (by kernel_rfl) (by simp) ?_
 refine AllReadyH.cons rfl (fun K hK=>?_) AllReadyH.nil
 go_simp
 refine hK.out _ _ (gTq hHeld (gBq _)) (fun _=>?_)
 clear hK K
 replace hHeld:=gTq hHeld (gBq (w:=W3.drew) (.cells #[.int .i64 0,.int .i64 0] 3))
 refine wpAnyH_ready (rs:=[6]) (by kernel_rfl) (by simp) ?_
 refine AllReadyH.cons rfl (fun K hK=>?_) AllReadyH.nil
 go_simp
 go_at_call 107
 refine HST.out.mono ?_;rintro e w1 ⟨rfl,rfl⟩
 refine hK.out _ _ hHeld (fun _=>?_)
 clear hK K
 refine rGq 7 14 ?_
 refine rGq 8 15 ?_
 refine rNq 9 16 ?_
 refine rNq 10 17 ?_
 refine rNq 11 18 ?_
 refine rNq 12 19 ?_
 refine rNq 13 20 ?_
 refine rNq 14 21 ?_
 refine rNq 15 22 ?_
 refine rGq 16 23 ?_
 refine rGq 17 24 ?_
 refine rNq 18 25 ?_
 refine rNq 19 26 ?_
 refine rNq 20 27 ?_
 refine rNq 21 28 ?_
 refine rGq 22 29 ?_
 refine rGq 23 6 ?_
 refine wpAnyH_done (by kernel_rfl) ?_ _
 clear hHeld
 clear HST yi0 hS0
 have hg:W3.grownBy (W3.drew.alloc (.cells #[.int .i64 0,.int .i64 0] 3)) none:=gTq (gDr (gRf _ _)) (gBq _)
 replace i0:=kNq hg i0
 replace i2:=kNq hg i2
 replace HI3:=bCq HI3 hg
 replace HR3:=bCq HR3 hg
 replace HS3:=rCq HS3 hg
 replace HG3:=gCq HG3 hg
 clear hg
 generalize W3.drew.alloc _ = wk at *
 have hS3:wk.grownBy wk (some (W.heap.size + 1)):=gRf _ _
 go_wp2_with fail
 refine (rLq 5 (by decide) _).mono ?_
 rintro e w5 hp
 obtain ⟨a5,l5,c5,f5,er5,rfl,hS5,q0,q1,q2,HB5,HL5⟩:=lFq hp HG3.out (gRf _ _) HR3.out
 clear hp
 go_wp2_with fail
 exact eLq (fun w z0 z1=>by simp [results,Tryz.results88,go_sem,z0,z1]) rfl HB5.out HL5.out
theorem asks_73n1 {W:World} {n:Int} {ta ra da:Option Addr} {tl tc rl rc dl dc:Nat} {dk dn dp:Int} {ds:ByteArray} {s types:List Ty} {sv:Value} (hs:RowC W s sv) (hT:RowC W types (.slice ta tl tc)) (hc:sFq s [0,0] = true) (ht0:sameT (tAq s 0) (tAq s 1) = false) (hz0:(tAq s 0).size <= 50000000) (hgd:s.all gYq = true) (hn:s.length <= 1000) :
 Calls Tryz.prog 88 #[insV 73 n ta tl tc ra rl rc dk dn dp ds da dl dc,sv] W (LPq (.no 5) W):=by
 obtain ⟨sa,sl,sc,e1⟩:=hs.form3
 subst e1
 unfold insV
 obtain ⟨hg3,hI3,hR3⟩:=start2 W (.cells #[.int .i64 73,.int .i64 n,.slice ta tl tc,.slice ra rl rc,.int .i64 dk,.int .i64 dn,.int .i64 dp,.string ds,.slice da dl dc] 115) (.cells #[.slice none 0 0,.bool false] 62)
 have hs3:=hs.grow hg3
 have hT3:=hT.grow hg3
 have hlen:2 <= s.length:=slq hc
 obtain ⟨hsl,hsc,_⟩:=hs3.len
 obtain ⟨b,o,t0,a0,l0,k0,rfl,x0a,x0b,hA0⟩:=hs3.at 0 (by omega)
 have HA0:=jh hA0
 obtain ⟨_,_,t1,a1,l1,k1,eb,x1a,x1b,hA1⟩:=hs3.at 1 (by omega)
 simp only [Option.some.injEq,Addr.mk.injEq,and_true] at eb
 obtain ⟨rfl,rfl⟩:=eb
 have HA1:=jh hA1
 have bz1:(1:Int) <= (sl:Int):=by omega
 have by0:0 < sl:=by omega
 have bz2:(2:Int) <= (sl:Int):=by omega
 have by1:(1:Int) < (sl:Int):=by omega
 have b1:(sl:Int) <= (sc:Int):=by omega
 have HSL:=jh hsl
 have HG3:=jh hg3
 have HI3:=jh hI3
 have HR3:=jh hR3
 have HS3:=jh hs3
 have HLEN:=jh hlen
 simp only [Nat.reduceMul,Nat.reduceAdd,Nat.add_zero,Nat.mul_zero,Nat.zero_add] at x0a x0b x1a x1b
 obtain ⟨i0,i1,i2,i3,_⟩:=box9 hI3
 clear hg3 hI3 hR3 hs hs3 hT hT3 hsl hlen hgd hA0 hA1
 go_enter Tryz.func88,Tryz.ntmps88
 go_wp2_with fail
 generalize (W.alloc _).alloc _ = W3 at *
 have yx0a:=fun (w':World) (h:W3.grownBy w' none)=>aI (kNq h x0a) (aI (kNq h x0b) (aI (kNq h x1a) (aI (kNq h x1b) (aI (kNq h i0) (kNq h i2)))))
 have hS0:W3.grownBy W3 none:=gRf _ _
 have HST:=jh (sTq (W:=W3.drew.alloc (.cells #[.int .i64 0,.int .i64 0] 3)) (ks:=[0,0]) (kc:=2) (HS3.out.grow (gTq (gDr (gRf _ _)) (gBq _))) (kinds2 (heap_alloc_new W3.drew _)) (by decide))
 rw [hc] at HST
 refine wp_region_held_drew (S:=fun w'=>W3.grownBy w' none) (by kernel_rfl) ?_ (fun hHeld=>?_)
 ·exact gDr (gRf _ _)
 refine rGq 0 7 ?_
 refine rGq 1 8 ?_
 refine rGq 2 9 ?_
 refine rGq 3 10 ?_
 refine rGq 4 11 ?_
 refine wpAnyH_ready (rs:=[5]) (by kernel_rfl) (by simp) ?_
 refine AllReadyH.cons rfl (fun K hK=>?_) AllReadyH.nil
 go_simp
 refine hK.out _ _ (gTq hHeld (gBq _)) (fun _=>?_)
 clear hK K
 replace hHeld:=gTq hHeld (gBq (w:=W3.drew) (.cells #[.int .i64 0,.int .i64 0] 3))
 refine wpAnyH_ready (rs:=[6]) (by kernel_rfl) (by simp) ?_
 refine AllReadyH.cons rfl (fun K hK=>?_) AllReadyH.nil
 go_simp
 go_at_call 107
 refine HST.out.mono ?_;rintro e w1 ⟨rfl,rfl⟩
 refine hK.out _ _ hHeld (fun _=>?_)
 clear hK K
 refine rGq 7 14 ?_
 refine rGq 8 15 ?_
 refine rGq 9 16 ?_
 refine rGq 10 17 ?_
 refine rGq 11 18 ?_
 refine rGq 12 19 ?_
 refine rGq 13 20 ?_
 refine rGq 14 21 ?_
 refine wpAnyH_ready (rs:=[15]) (by kernel_rfl) (by simp) ?_
 refine AllReadyH.cons rfl (fun K hK=>?_) AllReadyH.nil
 go_simp
 go_at_call 16
 refine (same_any (HA0.out.same (sAl hHeld)).low (HA1.out.same (sAl hHeld)).low hz0).mono ?_;rintro e wt0 ⟨rfl,hg⟩
 rw [ht0]
 have hH9:=gTq hHeld hg
 refine hK.out _ _ hH9 (fun _=>?_)
 have HGT0:=jh hH9
 have hST0:=hH9
 clear hK K hHeld hg
 have hHeld:=hH9
 clear hH9
 refine rGq 16 23 ?_
 refine rGq 17 24 ?_
 refine rNq 18 25 ?_
 refine rNq 19 26 ?_
 refine rNq 20 27 ?_
 refine rNq 21 28 ?_
 refine rGq 22 29 ?_
 refine rGq 23 6 ?_
 refine wpAnyH_done (by kernel_rfl) ?_ _
 clear hHeld
 clear yx0a hS0
 have hg:=HGT0.out
 replace x0a:=kNq hg x0a
 replace x0b:=kNq hg x0b
 replace x1a:=kNq hg x1a
 replace x1b:=kNq hg x1b
 replace i0:=kNq hg i0
 replace i2:=kNq hg i2
 replace HI3:=bCq HI3 hg
 replace HR3:=bCq HR3 hg
 replace HS3:=rCq HS3 hg
 replace HG3:=gCq HG3 hg
 replace HA0:=tCq HA0 hg
 replace HA1:=tCq HA1 hg
 clear hg
 clear hST0 HST
 have yx0a:=fun (w':World) (h:wt0.grownBy w' (some (W.heap.size + 1)))=>aI (kDq HR3.out h x0a x0a) (aI (kDq HR3.out h x0a x0b) (aI (kDq HR3.out h x1a x1a) (kDq HR3.out h x1a x1b)))
 have hS3:wt0.grownBy wt0 (some (W.heap.size + 1)):=gRf _ _
 go_wp2_with fail
 refine (rLq 5 (by decide) _).mono ?_
 rintro e w5 hp
 obtain ⟨a5,l5,c5,f5,er5,rfl,hS5,q0,q1,q2,HB5,HL5⟩:=lFq hp HG3.out (gRf _ _) HR3.out
 clear hp
 go_wp2_with fail
 exact eLq (fun w z0 z1=>by simp [results,Tryz.results88,go_sem,z0,z1]) rfl HB5.out HL5.out
theorem asks_73n2 {W:World} {n:Int} {ta ra da:Option Addr} {tl tc rl rc dl dc:Nat} {dk dn dp:Int} {ds:ByteArray} {s types:List Ty} {sv:Value} (hs:RowC W s sv) (hT:RowC W types (.slice ta tl tc)) (hc:sFq s [0,0] = true) (ht0:sameT (tAq s 0) (tAq s 1) = true) (hz0:(tAq s 0).size <= 50000000) (ht1:compT (tAq s 0) = false) (hz1:(tAq s 0).size <= 50000000) (hgd:s.all gYq = true) (hn:s.length <= 1000) :
 Calls Tryz.prog 88 #[insV 73 n ta tl tc ra rl rc dk dn dp ds da dl dc,sv] W (LPq (.no 5) W):=by
 obtain ⟨sa,sl,sc,e1⟩:=hs.form3
 subst e1
 unfold insV
 obtain ⟨hg3,hI3,hR3⟩:=start2 W (.cells #[.int .i64 73,.int .i64 n,.slice ta tl tc,.slice ra rl rc,.int .i64 dk,.int .i64 dn,.int .i64 dp,.string ds,.slice da dl dc] 115) (.cells #[.slice none 0 0,.bool false] 62)
 have hs3:=hs.grow hg3
 have hT3:=hT.grow hg3
 have hlen:2 <= s.length:=slq hc
 obtain ⟨hsl,hsc,_⟩:=hs3.len
 obtain ⟨b,o,t0,a0,l0,k0,rfl,x0a,x0b,hA0⟩:=hs3.at 0 (by omega)
 have HA0:=jh hA0
 obtain ⟨_,_,t1,a1,l1,k1,eb,x1a,x1b,hA1⟩:=hs3.at 1 (by omega)
 simp only [Option.some.injEq,Addr.mk.injEq,and_true] at eb
 obtain ⟨rfl,rfl⟩:=eb
 have HA1:=jh hA1
 have bz1:(1:Int) <= (sl:Int):=by omega
 have by0:0 < sl:=by omega
 have bz2:(2:Int) <= (sl:Int):=by omega
 have by1:(1:Int) < (sl:Int):=by omega
 have b1:(sl:Int) <= (sc:Int):=by omega
 have HSL:=jh hsl
 have HG3:=jh hg3
 have HI3:=jh hI3
 have HR3:=jh hR3
 have HS3:=jh hs3
 have HLEN:=jh hlen
 simp only [Nat.reduceMul,Nat.reduceAdd,Nat.add_zero,Nat.mul_zero,Nat.zero_add] at x0a x0b x1a x1b
 obtain ⟨i0,i1,i2,i3,_⟩:=box9 hI3
 clear hg3 hI3 hR3 hs hs3 hT hT3 hsl hlen hgd hA0 hA1
 go_enter Tryz.func88,Tryz.ntmps88
 go_wp2_with fail
 generalize (W.alloc _).alloc _ = W3 at *
 have yx0a:=fun (w':World) (h:W3.grownBy w' none)=>aI (kNq h x0a) (aI (kNq h x0b) (aI (kNq h x1a) (aI (kNq h x1b) (aI (kNq h i0) (kNq h i2)))))
 have hS0:W3.grownBy W3 none:=gRf _ _
 have HST:=jh (sTq (W:=W3.drew.alloc (.cells #[.int .i64 0,.int .i64 0] 3)) (ks:=[0,0]) (kc:=2) (HS3.out.grow (gTq (gDr (gRf _ _)) (gBq _))) (kinds2 (heap_alloc_new W3.drew _)) (by decide))
 rw [hc] at HST
 refine wp_region_held_drew (S:=fun w'=>W3.grownBy w' none) (by kernel_rfl) ?_ (fun hHeld=>?_)
 ·exact gDr (gRf _ _)
 refine rGq 0 7 ?_
 refine rGq 1 8 ?_
 refine rGq 2 9 ?_
 refine rGq 3 10 ?_
 refine rGq 4 11 ?_
 refine wpAnyH_ready (rs:=[5]) (by kernel_rfl) (by simp) ?_
 refine AllReadyH.cons rfl (fun K hK=>?_) AllReadyH.nil
 go_simp
 refine hK.out _ _ (gTq hHeld (gBq _)) (fun _=>?_)
 clear hK K
 replace hHeld:=gTq hHeld (gBq (w:=W3.drew) (.cells #[.int .i64 0,.int .i64 0] 3))
 refine wpAnyH_ready (rs:=[6]) (by kernel_rfl) (by simp) ?_
 refine AllReadyH.cons rfl (fun K hK=>?_) AllReadyH.nil
 go_simp
 go_at_call 107
 refine HST.out.mono ?_;rintro e w1 ⟨rfl,rfl⟩
 refine hK.out _ _ hHeld (fun _=>?_)
 clear hK K
 refine rGq 7 14 ?_
 refine rGq 8 15 ?_
 refine rGq 9 16 ?_
 refine rGq 10 17 ?_
 refine rGq 11 18 ?_
 refine rGq 12 19 ?_
 refine rGq 13 20 ?_
 refine rGq 14 21 ?_
 refine wpAnyH_ready (rs:=[15]) (by kernel_rfl) (by simp) ?_
 refine AllReadyH.cons rfl (fun K hK=>?_) AllReadyH.nil
 go_simp
 go_at_call 16
 refine (same_any (HA0.out.same (sAl hHeld)).low (HA1.out.same (sAl hHeld)).low hz0).mono ?_;rintro e wt0 ⟨rfl,hg⟩
 rw [ht0]
 have hH9:=gTq hHeld hg
 refine hK.out _ _ hH9 (fun _=>?_)
 have HGT0:=jh hH9
 have hST0:=hH9
 clear hK K hHeld hg
 have hHeld:=hH9
 clear hH9
 refine rGq 16 23 ?_
 refine rGq 17 24 ?_
 refine rGq 18 25 ?_
 refine rGq 19 26 ?_
 refine rGq 20 27 ?_
 refine wpAnyH_ready (rs:=[21]) (by kernel_rfl) (by simp) ?_
 refine AllReadyH.cons rfl (fun K hK=>?_) AllReadyH.nil
 go_simp
 go_at_call 77
 refine (comparable_any (HA0.out.same (sAl hHeld)).low hz1).mono ?_;rintro e wt1 ⟨rfl,hg⟩
 rw [ht1]
 have hH9:=gTq hHeld hg
 refine hK.out _ _ hH9 (fun _=>?_)
 have HGT1:=jh hH9
 have hST1:=hH9
 clear hK K hHeld hg
 have hHeld:=hH9
 clear hH9
 refine rGq 22 29 ?_
 refine rGq 23 6 ?_
 refine wpAnyH_done (by kernel_rfl) ?_ _
 clear hHeld
 clear yx0a hS0
 have hg:=HGT1.out
 replace x0a:=kNq hg x0a
 replace x0b:=kNq hg x0b
 replace x1a:=kNq hg x1a
 replace x1b:=kNq hg x1b
 replace i0:=kNq hg i0
 replace i2:=kNq hg i2
 replace HI3:=bCq HI3 hg
 replace HR3:=bCq HR3 hg
 replace HS3:=rCq HS3 hg
 replace HG3:=gCq HG3 hg
 replace HA0:=tCq HA0 hg
 replace HA1:=tCq HA1 hg
 clear hg
 clear hST0 hST1 HST
 have yx0a:=fun (w':World) (h:wt1.grownBy w' (some (W.heap.size + 1)))=>aI (kDq HR3.out h x0a x0a) (aI (kDq HR3.out h x0a x0b) (aI (kDq HR3.out h x1a x1a) (kDq HR3.out h x1a x1b)))
 have hS3:wt1.grownBy wt1 (some (W.heap.size + 1)):=gRf _ _
 go_wp2_with fail
 refine (rLq 5 (by decide) _).mono ?_
 rintro e w5 hp
 obtain ⟨a5,l5,c5,f5,er5,rfl,hS5,q0,q1,q2,HB5,HL5⟩:=lFq hp HG3.out (gRf _ _) HR3.out
 clear hp
 go_wp2_with fail
 exact eLq (fun w z0 z1=>by simp [results,Tryz.results88,go_sem,z0,z1]) rfl HB5.out HL5.out
theorem asks_74 {W:World} {p n:Int} {ta ra da:Option Addr} {tl tc rl rc dl dc:Nat} {dk dn dp:Int} {ds:ByteArray} {s types:List Ty} {sv:Value} (hp:p = 74 \/ p = 75 \/ p = 76) (hs:RowC W s sv) (hT:RowC W types (.slice ta tl tc)) (hc:sFq s [3] = true) (hgd:s.all gYq = true) (hn:s.length <= 1000) :
 Calls Tryz.prog 88 #[insV p n ta tl tc ra rl rc dk dn dp ds da dl dc,sv] W (LPq (pFq (s.drop 1) [(.nd 2 [])]) W):=by
 obtain ⟨sa,sl,sc,e1⟩:=hs.form3
 subst e1
 unfold insV
 obtain ⟨hg3,hI3,hR3⟩:=start2 W (.cells #[.int .i64 p,.int .i64 n,.slice ta tl tc,.slice ra rl rc,.int .i64 dk,.int .i64 dn,.int .i64 dp,.string ds,.slice da dl dc] 115) (.cells #[.slice none 0 0,.bool false] 62)
 have hs3:=hs.grow hg3
 have hT3:=hT.grow hg3
 have hlen:1 <= s.length:=slq hc
 obtain ⟨hsl,hsc,_⟩:=hs3.len
 obtain ⟨b,o,t0,a0,l0,k0,rfl,x0a,x0b,hA0⟩:=hs3.at 0 (by omega)
 have HA0:=jh hA0
 have bz1:(1:Int) <= (sl:Int):=by omega
 have by0:0 < sl:=by omega
 have b1:(sl:Int) <= (sc:Int):=by omega
 have HSL:=jh hsl
 have HG3:=jh hg3
 have HI3:=jh hI3
 have HR3:=jh hR3
 have HS3:=jh hs3
 have HLEN:=jh hlen
 simp only [Nat.reduceMul,Nat.reduceAdd,Nat.add_zero,Nat.mul_zero,Nat.zero_add] at x0a x0b
 obtain ⟨i0,i1,i2,i3,_⟩:=box9 hI3
 clear hg3 hI3 hR3 hs hs3 hT hT3 hsl hlen hgd hA0
 rcases hp with rfl | rfl | rfl
 all_goals
  go_enter Tryz.func88,Tryz.ntmps88
  go_wp2_with fail
  generalize (W.alloc _).alloc _ = W3 at *
  have yx0a:=fun (w':World) (h:W3.grownBy w' none)=>aI (kNq h x0a) (aI (kNq h x0b) (aI (kNq h i0) (kNq h i2)))
  have hS0:W3.grownBy W3 none:=gRf _ _
  refine wp_region_held_drew (S:=fun w'=>W3.grownBy w' none) (by kernel_rfl) ?_ (fun hHeld=>?_)
  ·exact gDr (gRf _ _)
  refine rGq 0 7 ?_
  refine rGq 1 8 ?_
  refine rGq 2 9 ?_
  refine rGq 3 10 ?_
  refine rNq 4 11 ?_
  refine rNq 5 12 ?_
  refine rNq 6 13 ?_
  refine rGq 7 14 ?_
  refine rGq 8 15 ?_
  refine rNq 9 16 ?_
  refine rNq 10 17 ?_
  refine rNq 11 18 ?_
  refine rNq 12 19 ?_
  refine rNq 13 20 ?_
  refine rNq 14 21 ?_
  refine rNq 15 22 ?_
  refine rGq 16 23 ?_
  refine rGq 17 24 ?_
  refine rNq 18 25 ?_
  refine rNq 19 26 ?_
  refine rNq 20 27 ?_
  refine rNq 21 28 ?_
  refine rGq 22 29 ?_
  refine rGq 23 6 ?_
  refine wpAnyH_done (by kernel_rfl) ?_ _
  clear hHeld
  clear yx0a hS0
  have hg:W3.grownBy W3.drew none:=gDr (gRf _ _)
  replace x0a:=kNq hg x0a
  replace x0b:=kNq hg x0b
  replace i0:=kNq hg i0
  replace i2:=kNq hg i2
  replace HI3:=bCq HI3 hg
  replace HR3:=bCq HR3 hg
  replace HS3:=rCq HS3 hg
  replace HG3:=gCq HG3 hg
  replace HA0:=tCq HA0 hg
  clear hg
  generalize W3.drew = wd0 at *
  go_wp2_with fail
  have hg:=gBq (w:=wd0) (.cells #[.int .i64 3] 3)
  have hK3:=heap_alloc_new wd0 (.cells #[.int .i64 3] 3)
  have HST:=jh (sTq (ks:=[3]) (kc:=1) (HS3.out.grow hg) (kinds1 hK3) (by decide))
  rw [hc] at HST
  refine HST.out.mono ?_;rintro e w2 ⟨rfl,rfl⟩
  clear HST hK3
  replace x0a:=kNq hg x0a
  replace x0b:=kNq hg x0b
  replace i0:=kNq hg i0
  replace i2:=kNq hg i2
  replace HI3:=bCq HI3 hg
  replace HR3:=bCq HR3 hg
  replace HS3:=rCq HS3 hg
  replace HG3:=gCq HG3 hg
  replace HA0:=tCq HA0 hg
  clear hg
  generalize wd0.alloc _ = wk at *
  have yx0a:=fun (w':World) (h:wk.grownBy w' (some (W.heap.size + 1)))=>aI (kDq HR3.out h x0a x0a) (kDq HR3.out h x0a x0b)
  have hS3:wk.grownBy wk (some (W.heap.size + 1)):=gRf _ _
  rcases (show (sc = 1 /\ sl = 1) \/ (¬ sc = 1 /\ ¬ sc - 1 = 0) by omega) with ⟨rfl,rfl⟩ | ⟨hc2,hc3⟩
  have HD:=jh (HS3.out.dropAll 1 (by have:=HSL.out;omega) (some ⟨b,o,none⟩) 0)
  rotate_left
  have HD:=jh (HS3.out.drop 1 (by have:=HLEN.out;omega))
  all_goals
   go_wp2_with fail
   go_region_held3 (fun w'=>wk.grownBy w' (some (W.heap.size + 1))) (first | with_reducible assumption | with_reducible exact gDr (gRf _ _) | with_reducible exact grow_setR (by assumption) | with_reducible exact gTr (by assumption) (gAq (gBq _)) | with_reducible exact gDr (gAq (gBq _))) (first
    | (go_at_call 29;refine (of_any 2 _ _ _ _).mono ?_;rintro e w10 ⟨rfl,hg⟩;have HU0:=jh (LiesT.oq (t:=2) ⟨by decide,by decide⟩ (RowC.grow (RowC.nil _ none 0) (undrew hg)));have HG10:Hid (wk.grownBy w10 none):=gTq (gRf _ _) (undrew hg);have hS:wk.grownBy w10 (some (W.heap.size + 1)):=gAq HG10.out;clear hg)
    | (go_at_call 108;have hprev:=HG10.out;clear hprev;refine (pAq (HD.out.grow (gTq HG10.out (gBq _))) (RowC.one (heap_alloc_new w10 _) (HU0.out.same (sAl (gBq _)))) (by simp;omega)).mono ?_;rintro e w5 hp;obtain ⟨a5,l5,c5,f5,er5,rfl,hS5,q0,q1,q2,HB5,HL5⟩:=lFq hp HG3.out (gTq HG10.out (gBq _)) HR3.out;clear hp))
   go_wp2_with fail
   exact eLq (fun w z0 z1=>by simp [results,Tryz.results88,go_sem,z0,z1]) rfl HB5.out HL5.out
theorem asks_74n {W:World} {p n:Int} {ta ra da:Option Addr} {tl tc rl rc dl dc:Nat} {dk dn dp:Int} {ds:ByteArray} {s types:List Ty} {sv:Value} (hp:p = 74 \/ p = 75 \/ p = 76) (hs:RowC W s sv) (hT:RowC W types (.slice ta tl tc)) (hc:sFq s [3] = false) (hgd:s.all gYq = true) (hn:s.length <= 1000) :
 Calls Tryz.prog 88 #[insV p n ta tl tc ra rl rc dk dn dp ds da dl dc,sv] W (LPq (.no 5) W):=by
 obtain ⟨sa,sl,sc,e1⟩:=hs.form3
 subst e1
 unfold insV
 obtain ⟨hg3,hI3,hR3⟩:=start2 W (.cells #[.int .i64 p,.int .i64 n,.slice ta tl tc,.slice ra rl rc,.int .i64 dk,.int .i64 dn,.int .i64 dp,.string ds,.slice da dl dc] 115) (.cells #[.slice none 0 0,.bool false] 62)
 have hs3:=hs.grow hg3
 have hT3:=hT.grow hg3
 have hlen:0 <= s.length:=Nat.zero_le _
 obtain ⟨hsl,hsc,_⟩:=hs3.len
 have b1:(sl:Int) <= (sc:Int):=by omega
 have HSL:=jh hsl
 have HG3:=jh hg3
 have HI3:=jh hI3
 have HR3:=jh hR3
 have HS3:=jh hs3
 have HLEN:=jh hlen
 obtain ⟨i0,i1,i2,i3,_⟩:=box9 hI3
 clear hg3 hI3 hR3 hs hs3 hT hT3 hsl hlen hgd
 rcases hp with rfl | rfl | rfl
 all_goals
  go_enter Tryz.func88,Tryz.ntmps88
  go_wp2_with fail
  generalize (W.alloc _).alloc _ = W3 at *
  have yi0:=fun (w':World) (h:W3.grownBy w' none)=>aI (kNq h i0) (kNq h i2)
  have hS0:W3.grownBy W3 none:=gRf _ _
  refine wp_region_held_drew (S:=fun w'=>W3.grownBy w' none) (by kernel_rfl) ?_ (fun hHeld=>?_)
  ·exact gDr (gRf _ _)
  refine rGq 0 7 ?_
  refine rGq 1 8 ?_
  refine rGq 2 9 ?_
  refine rGq 3 10 ?_
  refine rNq 4 11 ?_
  refine rNq 5 12 ?_
  refine rNq 6 13 ?_
  refine rGq 7 14 ?_
  refine rGq 8 15 ?_
  refine rNq 9 16 ?_
  refine rNq 10 17 ?_
  refine rNq 11 18 ?_
  refine rNq 12 19 ?_
  refine rNq 13 20 ?_
  refine rNq 14 21 ?_
  refine rNq 15 22 ?_
  refine rGq 16 23 ?_
  refine rGq 17 24 ?_
  refine rNq 18 25 ?_
  refine rNq 19 26 ?_
  refine rNq 20 27 ?_
  refine rNq 21 28 ?_
  refine rGq 22 29 ?_
  refine rGq 23 6 ?_
  refine wpAnyH_done (by kernel_rfl) ?_ _
  clear hHeld
  clear yi0 hS0
  have hg:W3.grownBy W3.drew none:=gDr (gRf _ _)
  replace i0:=kNq hg i0
  replace i2:=kNq hg i2
  replace HI3:=bCq HI3 hg
  replace HR3:=bCq HR3 hg
  replace HS3:=rCq HS3 hg
  replace HG3:=gCq HG3 hg
  clear hg
  generalize W3.drew = wd0 at *
  go_wp2_with fail
  have hg:=gBq (w:=wd0) (.cells #[.int .i64 3] 3)
  have hK3:=heap_alloc_new wd0 (.cells #[.int .i64 3] 3)
  have HST:=jh (sTq (ks:=[3]) (kc:=1) (HS3.out.grow hg) (kinds1 hK3) (by decide))
  rw [hc] at HST
  refine HST.out.mono ?_;rintro e w2 ⟨rfl,rfl⟩
  clear HST hK3
  replace i0:=kNq hg i0
  replace i2:=kNq hg i2
  replace HI3:=bCq HI3 hg
  replace HR3:=bCq HR3 hg
  replace HS3:=rCq HS3 hg
  replace HG3:=gCq HG3 hg
  clear hg
  generalize wd0.alloc _ = wk at *
  have hS3:wk.grownBy wk (some (W.heap.size + 1)):=gRf _ _
  go_wp2_with fail
  refine (rLq 5 (by decide) _).mono ?_
  rintro e w5 hp
  obtain ⟨a5,l5,c5,f5,er5,rfl,hS5,q0,q1,q2,HB5,HL5⟩:=lFq hp HG3.out (gRf _ _) HR3.out
  clear hp
  go_wp2_with fail
  exact eLq (fun w z0 z1=>by simp [results,Tryz.results88,go_sem,z0,z1]) rfl HB5.out HL5.out
theorem asks_77 {W:World} {n:Int} {ta ra da:Option Addr} {tl tc rl rc dl dc:Nat} {dk dn dp:Int} {ds:ByteArray} {s types:List Ty} {sv:Value} (hs:RowC W s sv) (hT:RowC W types (.slice ta tl tc)) (hc:sFq s [2] = true) (hgd:s.all gYq = true) (hn:s.length <= 1000) :
 Calls Tryz.prog 88 #[insV 77 n ta tl tc ra rl rc dk dn dp ds da dl dc,sv] W (LPq (pFq (s.drop 1) [(.nd 2 [])]) W):=by
 obtain ⟨sa,sl,sc,e1⟩:=hs.form3
 subst e1
 unfold insV
 obtain ⟨hg3,hI3,hR3⟩:=start2 W (.cells #[.int .i64 77,.int .i64 n,.slice ta tl tc,.slice ra rl rc,.int .i64 dk,.int .i64 dn,.int .i64 dp,.string ds,.slice da dl dc] 115) (.cells #[.slice none 0 0,.bool false] 62)
 have hs3:=hs.grow hg3
 have hT3:=hT.grow hg3
 have hlen:1 <= s.length:=slq hc
 obtain ⟨hsl,hsc,_⟩:=hs3.len
 obtain ⟨b,o,t0,a0,l0,k0,rfl,x0a,x0b,hA0⟩:=hs3.at 0 (by omega)
 have HA0:=jh hA0
 have bz1:(1:Int) <= (sl:Int):=by omega
 have by0:0 < sl:=by omega
 have b1:(sl:Int) <= (sc:Int):=by omega
 have HSL:=jh hsl
 have HG3:=jh hg3
 have HI3:=jh hI3
 have HR3:=jh hR3
 have HS3:=jh hs3
 have HLEN:=jh hlen
 simp only [Nat.reduceMul,Nat.reduceAdd,Nat.add_zero,Nat.mul_zero,Nat.zero_add] at x0a x0b
 obtain ⟨i0,i1,i2,i3,_⟩:=box9 hI3
 clear hg3 hI3 hR3 hs hs3 hT hT3 hsl hlen hgd hA0
 go_enter Tryz.func88,Tryz.ntmps88
 go_wp2_with fail
 generalize (W.alloc _).alloc _ = W3 at *
 have yx0a:=fun (w':World) (h:W3.grownBy w' none)=>aI (kNq h x0a) (aI (kNq h x0b) (aI (kNq h i0) (kNq h i2)))
 have hS0:W3.grownBy W3 none:=gRf _ _
 refine wp_region_held_drew (S:=fun w'=>W3.grownBy w' none) (by kernel_rfl) ?_ (fun hHeld=>?_)
 ·exact gDr (gRf _ _)
 refine rGq 0 7 ?_
 refine rGq 1 8 ?_
 refine rGq 2 9 ?_
 refine rGq 3 10 ?_
 refine rNq 4 11 ?_
 refine rNq 5 12 ?_
 refine rNq 6 13 ?_
 refine rGq 7 14 ?_
 refine rGq 8 15 ?_
 refine rNq 9 16 ?_
 refine rNq 10 17 ?_
 refine rNq 11 18 ?_
 refine rNq 12 19 ?_
 refine rNq 13 20 ?_
 refine rNq 14 21 ?_
 refine rNq 15 22 ?_
 refine rGq 16 23 ?_
 refine rGq 17 24 ?_
 refine rNq 18 25 ?_
 refine rNq 19 26 ?_
 refine rNq 20 27 ?_
 refine rNq 21 28 ?_
 refine rGq 22 29 ?_
 refine rGq 23 6 ?_
 refine wpAnyH_done (by kernel_rfl) ?_ _
 clear hHeld
 clear yx0a hS0
 have hg:W3.grownBy W3.drew none:=gDr (gRf _ _)
 replace x0a:=kNq hg x0a
 replace x0b:=kNq hg x0b
 replace i0:=kNq hg i0
 replace i2:=kNq hg i2
 replace HI3:=bCq HI3 hg
 replace HR3:=bCq HR3 hg
 replace HS3:=rCq HS3 hg
 replace HG3:=gCq HG3 hg
 replace HA0:=tCq HA0 hg
 clear hg
 generalize W3.drew = wd0 at *
 go_wp2_with fail
 have hg:=gBq (w:=wd0) (.cells #[.int .i64 2] 3)
 have hK3:=heap_alloc_new wd0 (.cells #[.int .i64 2] 3)
 have HST:=jh (sTq (ks:=[2]) (kc:=1) (HS3.out.grow hg) (kinds1 hK3) (by decide))
 rw [hc] at HST
 refine HST.out.mono ?_;rintro e w2 ⟨rfl,rfl⟩
 clear HST hK3
 replace x0a:=kNq hg x0a
 replace x0b:=kNq hg x0b
 replace i0:=kNq hg i0
 replace i2:=kNq hg i2
 replace HI3:=bCq HI3 hg
 replace HR3:=bCq HR3 hg
 replace HS3:=rCq HS3 hg
 replace HG3:=gCq HG3 hg
 replace HA0:=tCq HA0 hg
 clear hg
 generalize wd0.alloc _ = wk at *
 have yx0a:=fun (w':World) (h:wk.grownBy w' (some (W.heap.size + 1)))=>aI (kDq HR3.out h x0a x0a) (kDq HR3.out h x0a x0b)
 have hS3:wk.grownBy wk (some (W.heap.size + 1)):=gRf _ _
 rcases (show (sc = 1 /\ sl = 1) \/ (¬ sc = 1 /\ ¬ sc - 1 = 0) by omega) with ⟨rfl,rfl⟩ | ⟨hc2,hc3⟩
 have HD:=jh (HS3.out.dropAll 1 (by have:=HSL.out;omega) (some ⟨b,o,none⟩) 0)
 rotate_left
 have HD:=jh (HS3.out.drop 1 (by have:=HLEN.out;omega))
 all_goals
  go_wp2_with fail
  go_region_held3 (fun w'=>wk.grownBy w' (some (W.heap.size + 1))) (first | with_reducible assumption | with_reducible exact gDr (gRf _ _) | with_reducible exact grow_setR (by assumption) | with_reducible exact gTr (by assumption) (gAq (gBq _)) | with_reducible exact gDr (gAq (gBq _))) (first
   | (go_at_call 29;refine (of_any 2 _ _ _ _).mono ?_;rintro e w10 ⟨rfl,hg⟩;have HU0:=jh (LiesT.oq (t:=2) ⟨by decide,by decide⟩ (RowC.grow (RowC.nil _ none 0) (undrew hg)));have HG10:Hid (wk.grownBy w10 none):=gTq (gRf _ _) (undrew hg);have hS:wk.grownBy w10 (some (W.heap.size + 1)):=gAq HG10.out;clear hg)
   | (go_at_call 108;have hprev:=HG10.out;clear hprev;refine (pAq (HD.out.grow (gTq HG10.out (gBq _))) (RowC.one (heap_alloc_new w10 _) (HU0.out.same (sAl (gBq _)))) (by simp;omega)).mono ?_;rintro e w5 hp;obtain ⟨a5,l5,c5,f5,er5,rfl,hS5,q0,q1,q2,HB5,HL5⟩:=lFq hp HG3.out (gTq HG10.out (gBq _)) HR3.out;clear hp))
  go_wp2_with fail
  exact eLq (fun w z0 z1=>by simp [results,Tryz.results88,go_sem,z0,z1]) rfl HB5.out HL5.out
theorem asks_77n {W:World} {n:Int} {ta ra da:Option Addr} {tl tc rl rc dl dc:Nat} {dk dn dp:Int} {ds:ByteArray} {s types:List Ty} {sv:Value} (hs:RowC W s sv) (hT:RowC W types (.slice ta tl tc)) (hc:sFq s [2] = false) (hgd:s.all gYq = true) (hn:s.length <= 1000) :
 Calls Tryz.prog 88 #[insV 77 n ta tl tc ra rl rc dk dn dp ds da dl dc,sv] W (LPq (.no 5) W):=by
 obtain ⟨sa,sl,sc,e1⟩:=hs.form3
 subst e1
 unfold insV
 obtain ⟨hg3,hI3,hR3⟩:=start2 W (.cells #[.int .i64 77,.int .i64 n,.slice ta tl tc,.slice ra rl rc,.int .i64 dk,.int .i64 dn,.int .i64 dp,.string ds,.slice da dl dc] 115) (.cells #[.slice none 0 0,.bool false] 62)
 have hs3:=hs.grow hg3
 have hT3:=hT.grow hg3
 have hlen:0 <= s.length:=Nat.zero_le _
 obtain ⟨hsl,hsc,_⟩:=hs3.len
 have b1:(sl:Int) <= (sc:Int):=by omega
 have HSL:=jh hsl
 have HG3:=jh hg3
 have HI3:=jh hI3
 have HR3:=jh hR3
 have HS3:=jh hs3
 have HLEN:=jh hlen
 obtain ⟨i0,i1,i2,i3,_⟩:=box9 hI3
 clear hg3 hI3 hR3 hs hs3 hT hT3 hsl hlen hgd
 go_enter Tryz.func88,Tryz.ntmps88
 go_wp2_with fail
 generalize (W.alloc _).alloc _ = W3 at *
 have yi0:=fun (w':World) (h:W3.grownBy w' none)=>aI (kNq h i0) (kNq h i2)
 have hS0:W3.grownBy W3 none:=gRf _ _
 refine wp_region_held_drew (S:=fun w'=>W3.grownBy w' none) (by kernel_rfl) ?_ (fun hHeld=>?_)
 ·exact gDr (gRf _ _)
 refine rGq 0 7 ?_
 refine rGq 1 8 ?_
 refine rGq 2 9 ?_
 refine rGq 3 10 ?_
 refine rNq 4 11 ?_
 refine rNq 5 12 ?_
 refine rNq 6 13 ?_
 refine rGq 7 14 ?_
 refine rGq 8 15 ?_
 refine rNq 9 16 ?_
 refine rNq 10 17 ?_
 refine rNq 11 18 ?_
 refine rNq 12 19 ?_
 refine rNq 13 20 ?_
 refine rNq 14 21 ?_
 refine rNq 15 22 ?_
 refine rGq 16 23 ?_
 refine rGq 17 24 ?_
 refine rNq 18 25 ?_
 refine rNq 19 26 ?_
 refine rNq 20 27 ?_
 refine rNq 21 28 ?_
 refine rGq 22 29 ?_
 refine rGq 23 6 ?_
 refine wpAnyH_done (by kernel_rfl) ?_ _
 clear hHeld
 clear yi0 hS0
 have hg:W3.grownBy W3.drew none:=gDr (gRf _ _)
 replace i0:=kNq hg i0
 replace i2:=kNq hg i2
 replace HI3:=bCq HI3 hg
 replace HR3:=bCq HR3 hg
 replace HS3:=rCq HS3 hg
 replace HG3:=gCq HG3 hg
 clear hg
 generalize W3.drew = wd0 at *
 go_wp2_with fail
 have hg:=gBq (w:=wd0) (.cells #[.int .i64 2] 3)
 have hK3:=heap_alloc_new wd0 (.cells #[.int .i64 2] 3)
 have HST:=jh (sTq (ks:=[2]) (kc:=1) (HS3.out.grow hg) (kinds1 hK3) (by decide))
 rw [hc] at HST
 refine HST.out.mono ?_;rintro e w2 ⟨rfl,rfl⟩
 clear HST hK3
 replace i0:=kNq hg i0
 replace i2:=kNq hg i2
 replace HI3:=bCq HI3 hg
 replace HR3:=bCq HR3 hg
 replace HS3:=rCq HS3 hg
 replace HG3:=gCq HG3 hg
 clear hg
 generalize wd0.alloc _ = wk at *
 have hS3:wk.grownBy wk (some (W.heap.size + 1)):=gRf _ _
 go_wp2_with fail
 refine (rLq 5 (by decide) _).mono ?_
 rintro e w5 hp
 obtain ⟨a5,l5,c5,f5,er5,rfl,hS5,q0,q1,q2,HB5,HL5⟩:=lFq hp HG3.out (gRf _ _) HR3.out
 clear hp
 go_wp2_with fail
 exact eLq (fun w z0 z1=>by simp [results,Tryz.results88,go_sem,z0,z1]) rfl HB5.out HL5.out
theorem asks_78 {W:World} {p n:Int} {ta ra da:Option Addr} {tl tc rl rc dl dc:Nat} {dk dn dp:Int} {ds:ByteArray} {s types:List Ty} {sv:Value} (hp:p = 78 \/ p = 79) (hs:RowC W s sv) (hT:RowC W types (.slice ta tl tc)) (hc:sFq s [2,2] = true) (hgd:s.all gYq = true) (hn:s.length <= 1000) :
 Calls Tryz.prog 88 #[insV p n ta tl tc ra rl rc dk dn dp ds da dl dc,sv] W (LPq (pFq (s.drop 2) [(.nd 2 [])]) W):=by
 obtain ⟨sa,sl,sc,e1⟩:=hs.form3
 subst e1
 unfold insV
 obtain ⟨hg3,hI3,hR3⟩:=start2 W (.cells #[.int .i64 p,.int .i64 n,.slice ta tl tc,.slice ra rl rc,.int .i64 dk,.int .i64 dn,.int .i64 dp,.string ds,.slice da dl dc] 115) (.cells #[.slice none 0 0,.bool false] 62)
 have hs3:=hs.grow hg3
 have hT3:=hT.grow hg3
 have hlen:2 <= s.length:=slq hc
 obtain ⟨hsl,hsc,_⟩:=hs3.len
 obtain ⟨b,o,t0,a0,l0,k0,rfl,x0a,x0b,hA0⟩:=hs3.at 0 (by omega)
 have HA0:=jh hA0
 have bz1:(1:Int) <= (sl:Int):=by omega
 have by0:0 < sl:=by omega
 have bz2:(2:Int) <= (sl:Int):=by omega
 have by1:(1:Int) < (sl:Int):=by omega
 have b1:(sl:Int) <= (sc:Int):=by omega
 have HSL:=jh hsl
 have HG3:=jh hg3
 have HI3:=jh hI3
 have HR3:=jh hR3
 have HS3:=jh hs3
 have HLEN:=jh hlen
 simp only [Nat.reduceMul,Nat.reduceAdd,Nat.add_zero,Nat.mul_zero,Nat.zero_add] at x0a x0b
 obtain ⟨i0,i1,i2,i3,_⟩:=box9 hI3
 clear hg3 hI3 hR3 hs hs3 hT hT3 hsl hlen hgd hA0
 rcases hp with rfl | rfl
 all_goals
  go_enter Tryz.func88,Tryz.ntmps88
  go_wp2_with fail
  generalize (W.alloc _).alloc _ = W3 at *
  have yx0a:=fun (w':World) (h:W3.grownBy w' none)=>aI (kNq h x0a) (aI (kNq h x0b) (aI (kNq h i0) (kNq h i2)))
  have hS0:W3.grownBy W3 none:=gRf _ _
  refine wp_region_held_drew (S:=fun w'=>W3.grownBy w' none) (by kernel_rfl) ?_ (fun hHeld=>?_)
  ·exact gDr (gRf _ _)
  refine rGq 0 7 ?_
  refine rGq 1 8 ?_
  refine rGq 2 9 ?_
  refine rGq 3 10 ?_
  refine rNq 4 11 ?_
  refine rNq 5 12 ?_
  refine rNq 6 13 ?_
  refine rGq 7 14 ?_
  refine rGq 8 15 ?_
  refine rNq 9 16 ?_
  refine rNq 10 17 ?_
  refine rNq 11 18 ?_
  refine rNq 12 19 ?_
  refine rNq 13 20 ?_
  refine rNq 14 21 ?_
  refine rNq 15 22 ?_
  refine rGq 16 23 ?_
  refine rGq 17 24 ?_
  refine rNq 18 25 ?_
  refine rNq 19 26 ?_
  refine rNq 20 27 ?_
  refine rNq 21 28 ?_
  refine rGq 22 29 ?_
  refine rGq 23 6 ?_
  refine wpAnyH_done (by kernel_rfl) ?_ _
  clear hHeld
  clear yx0a hS0
  have hg:W3.grownBy W3.drew none:=gDr (gRf _ _)
  replace x0a:=kNq hg x0a
  replace x0b:=kNq hg x0b
  replace i0:=kNq hg i0
  replace i2:=kNq hg i2
  replace HI3:=bCq HI3 hg
  replace HR3:=bCq HR3 hg
  replace HS3:=rCq HS3 hg
  replace HG3:=gCq HG3 hg
  replace HA0:=tCq HA0 hg
  clear hg
  generalize W3.drew = wd0 at *
  go_wp2_with fail
  have hg:=gBq (w:=wd0) (.cells #[.int .i64 2,.int .i64 2] 3)
  have hK3:=heap_alloc_new wd0 (.cells #[.int .i64 2,.int .i64 2] 3)
  have HST:=jh (sTq (ks:=[2,2]) (kc:=2) (HS3.out.grow hg) (kinds2 hK3) (by decide))
  rw [hc] at HST
  refine HST.out.mono ?_;rintro e w2 ⟨rfl,rfl⟩
  clear HST hK3
  replace x0a:=kNq hg x0a
  replace x0b:=kNq hg x0b
  replace i0:=kNq hg i0
  replace i2:=kNq hg i2
  replace HI3:=bCq HI3 hg
  replace HR3:=bCq HR3 hg
  replace HS3:=rCq HS3 hg
  replace HG3:=gCq HG3 hg
  replace HA0:=tCq HA0 hg
  clear hg
  generalize wd0.alloc _ = wk at *
  have yx0a:=fun (w':World) (h:wk.grownBy w' (some (W.heap.size + 1)))=>aI (kDq HR3.out h x0a x0a) (kDq HR3.out h x0a x0b)
  have hS3:wk.grownBy wk (some (W.heap.size + 1)):=gRf _ _
  rcases (show (sc = 2 /\ sl = 2) \/ (¬ sc = 2 /\ ¬ sc - 2 = 0) by omega) with ⟨rfl,rfl⟩ | ⟨hc2,hc3⟩
  have HD:=jh (HS3.out.dropAll 2 (by have:=HSL.out;omega) (some ⟨b,o,none⟩) 0)
  rotate_left
  have HD:=jh (HS3.out.drop 2 (by have:=HLEN.out;omega))
  all_goals
   go_wp2_with fail
   go_region_held3 (fun w'=>wk.grownBy w' (some (W.heap.size + 1))) (first | with_reducible assumption | with_reducible exact gDr (gRf _ _) | with_reducible exact grow_setR (by assumption) | with_reducible exact gTr (by assumption) (gAq (gBq _)) | with_reducible exact gDr (gAq (gBq _))) (first
    | (go_at_call 29;refine (of_any 2 _ _ _ _).mono ?_;rintro e w10 ⟨rfl,hg⟩;have HU0:=jh (LiesT.oq (t:=2) ⟨by decide,by decide⟩ (RowC.grow (RowC.nil _ none 0) (undrew hg)));have HG10:Hid (wk.grownBy w10 none):=gTq (gRf _ _) (undrew hg);have hS:wk.grownBy w10 (some (W.heap.size + 1)):=gAq HG10.out;clear hg)
    | (go_at_call 108;have hprev:=HG10.out;clear hprev;refine (pAq (HD.out.grow (gTq HG10.out (gBq _))) (RowC.one (heap_alloc_new w10 _) (HU0.out.same (sAl (gBq _)))) (by simp;omega)).mono ?_;rintro e w5 hp;obtain ⟨a5,l5,c5,f5,er5,rfl,hS5,q0,q1,q2,HB5,HL5⟩:=lFq hp HG3.out (gTq HG10.out (gBq _)) HR3.out;clear hp))
   go_wp2_with fail
   exact eLq (fun w z0 z1=>by simp [results,Tryz.results88,go_sem,z0,z1]) rfl HB5.out HL5.out
theorem asks_78n {W:World} {p n:Int} {ta ra da:Option Addr} {tl tc rl rc dl dc:Nat} {dk dn dp:Int} {ds:ByteArray} {s types:List Ty} {sv:Value} (hp:p = 78 \/ p = 79) (hs:RowC W s sv) (hT:RowC W types (.slice ta tl tc)) (hc:sFq s [2,2] = false) (hgd:s.all gYq = true) (hn:s.length <= 1000) :
 Calls Tryz.prog 88 #[insV p n ta tl tc ra rl rc dk dn dp ds da dl dc,sv] W (LPq (.no 5) W):=by
 obtain ⟨sa,sl,sc,e1⟩:=hs.form3
 subst e1
 unfold insV
 obtain ⟨hg3,hI3,hR3⟩:=start2 W (.cells #[.int .i64 p,.int .i64 n,.slice ta tl tc,.slice ra rl rc,.int .i64 dk,.int .i64 dn,.int .i64 dp,.string ds,.slice da dl dc] 115) (.cells #[.slice none 0 0,.bool false] 62)
 have hs3:=hs.grow hg3
 have hT3:=hT.grow hg3
 have hlen:0 <= s.length:=Nat.zero_le _
 obtain ⟨hsl,hsc,_⟩:=hs3.len
 have b1:(sl:Int) <= (sc:Int):=by omega
 have HSL:=jh hsl
 have HG3:=jh hg3
 have HI3:=jh hI3
 have HR3:=jh hR3
 have HS3:=jh hs3
 have HLEN:=jh hlen
 obtain ⟨i0,i1,i2,i3,_⟩:=box9 hI3
 clear hg3 hI3 hR3 hs hs3 hT hT3 hsl hlen hgd
 rcases hp with rfl | rfl
 all_goals
  go_enter Tryz.func88,Tryz.ntmps88
  go_wp2_with fail
  generalize (W.alloc _).alloc _ = W3 at *
  have yi0:=fun (w':World) (h:W3.grownBy w' none)=>aI (kNq h i0) (kNq h i2)
  have hS0:W3.grownBy W3 none:=gRf _ _
  refine wp_region_held_drew (S:=fun w'=>W3.grownBy w' none) (by kernel_rfl) ?_ (fun hHeld=>?_)
  ·exact gDr (gRf _ _)
  refine rGq 0 7 ?_
  refine rGq 1 8 ?_
  refine rGq 2 9 ?_
  refine rGq 3 10 ?_
  refine rNq 4 11 ?_
  refine rNq 5 12 ?_
  refine rNq 6 13 ?_
  refine rGq 7 14 ?_
  refine rGq 8 15 ?_
  refine rNq 9 16 ?_
  refine rNq 10 17 ?_
  refine rNq 11 18 ?_
  refine rNq 12 19 ?_
  refine rNq 13 20 ?_
  refine rNq 14 21 ?_
  refine rNq 15 22 ?_
  refine rGq 16 23 ?_
  refine rGq 17 24 ?_
  refine rNq 18 25 ?_
  refine rNq 19 26 ?_
  refine rNq 20 27 ?_
  refine rNq 21 28 ?_
  refine rGq 22 29 ?_
  refine rGq 23 6 ?_
  refine wpAnyH_done (by kernel_rfl) ?_ _
  clear hHeld
  clear yi0 hS0
  have hg:W3.grownBy W3.drew none:=gDr (gRf _ _)
  replace i0:=kNq hg i0
  replace i2:=kNq hg i2
  replace HI3:=bCq HI3 hg
  replace HR3:=bCq HR3 hg
  replace HS3:=rCq HS3 hg
  replace HG3:=gCq HG3 hg
  clear hg
  generalize W3.drew = wd0 at *
  go_wp2_with fail
  have hg:=gBq (w:=wd0) (.cells #[.int .i64 2,.int .i64 2] 3)
  have hK3:=heap_alloc_new wd0 (.cells #[.int .i64 2,.int .i64 2] 3)
  have HST:=jh (sTq (ks:=[2,2]) (kc:=2) (HS3.out.grow hg) (kinds2 hK3) (by decide))
  rw [hc] at HST
  refine HST.out.mono ?_;rintro e w2 ⟨rfl,rfl⟩
  clear HST hK3
  replace i0:=kNq hg i0
  replace i2:=kNq hg i2
  replace HI3:=bCq HI3 hg
  replace HR3:=bCq HR3 hg
  replace HS3:=rCq HS3 hg
  replace HG3:=gCq HG3 hg
  clear hg
  generalize wd0.alloc _ = wk at *
  have hS3:wk.grownBy wk (some (W.heap.size + 1)):=gRf _ _
  go_wp2_with fail
  refine (rLq 5 (by decide) _).mono ?_
  rintro e w5 hp
  obtain ⟨a5,l5,c5,f5,er5,rfl,hS5,q0,q1,q2,HB5,HL5⟩:=lFq hp HG3.out (gRf _ _) HR3.out
  clear hp
  go_wp2_with fail
  exact eLq (fun w z0 z1=>by simp [results,Tryz.results88,go_sem,z0,z1]) rfl HB5.out HL5.out
theorem tells_80 {W:World} {n:Int} {ta ra da:Option Addr} {tl tc rl rc dl dc:Nat} {dk dn dp:Int} {ds:ByteArray} {s types:List Ty} {sv:Value} (hs:RowC W s sv) (hT:RowC W types (.slice ta tl tc)) (hc:sFq s [6,6] = true) (hgd:s.all gYq = true) (hn:s.length <= 1000) :
 Calls Tryz.prog 89 #[insV 80 n ta tl tc ra rl rc dk dn dp ds da dl dc,sv] W (LPq (pFq (s.drop 2) [(.nd 6 [])]) W):=by
 obtain ⟨sa,sl,sc,e1⟩:=hs.form3
 subst e1
 unfold insV
 obtain ⟨hg3,hI3,hR3,hK3⟩:=start3 W (.cells #[.int .i64 80,.int .i64 n,.slice ta tl tc,.slice ra rl rc,.int .i64 dk,.int .i64 dn,.int .i64 dp,.string ds,.slice da dl dc] 115) (.cells #[.slice none 0 0,.bool false] 62) (.cells #[.int .i64 6,.int .i64 6] 3)
 have hs3:=hs.grow hg3
 have HST:=jh (sTq (ks:=[6,6]) (kc:=2) hs3 (kinds2 hK3) (by decide))
 rw [hc] at HST
 have hT3:=hT.grow hg3
 have hlen:2 <= s.length:=slq hc
 obtain ⟨hsl,hsc,_⟩:=hs3.len
 obtain ⟨b,o,t0,a0,l0,k0,rfl,x0a,x0b,hA0⟩:=hs3.at 0 (by omega)
 have HA0:=jh hA0
 have bz1:(1:Int) <= (sl:Int):=by omega
 have by0:0 < sl:=by omega
 have bz2:(2:Int) <= (sl:Int):=by omega
 have by1:(1:Int) < (sl:Int):=by omega
 have b1:(sl:Int) <= (sc:Int):=by omega
 have HSL:=jh hsl
 have HG3:=jh hg3
 have HI3:=jh hI3
 have HR3:=jh hR3
 have HS3:=jh hs3
 have HLEN:=jh hlen
 simp only [Nat.reduceMul,Nat.reduceAdd,Nat.add_zero,Nat.mul_zero,Nat.zero_add] at x0a x0b
 clear hg3 hI3 hR3 hs hs3 hT hT3 hsl hlen hgd hc hK3 hA0
 go_enter Tryz.func89,Tryz.ntmps89
 go_wp2_with fail
 refine HST.out.mono ?_;rintro e w1 ⟨rfl,rfl⟩
 clear HST
 generalize ((W.alloc _).alloc _).alloc _ = W3 at *
 obtain ⟨i0,i1,i2,i3,_⟩:=box9 HI3.out
 have yx0a:=fun (w':World) (h:W3.grownBy w' (some (W.heap.size + 1)))=>aI (kDq HR3.out h x0a x0a) (kDq HR3.out h x0a x0b)
 have hS3:W3.grownBy W3 (some (W.heap.size + 1)):=gRf _ _
 rcases (show (sc = 2 /\ sl = 2) \/ (¬ sc = 2 /\ ¬ sc - 2 = 0) by omega) with ⟨rfl,rfl⟩ | ⟨hc2,hc3⟩
 have HD:=jh (HS3.out.dropAll 2 (by have:=HSL.out;omega) (some ⟨b,o,none⟩) 0)
 rotate_left
 have HD:=jh (HS3.out.drop 2 (by have:=HLEN.out;omega))
 all_goals
  go_wp2_with fail
  go_region_held3 (fun w'=>W3.grownBy w' (some (W.heap.size + 1))) (first | with_reducible assumption | with_reducible exact gDr (gRf _ _) | with_reducible exact grow_setR (by assumption) | with_reducible exact gTr (by assumption) (gAq (gBq _)) | with_reducible exact gDr (gAq (gBq _))) (first
   | (go_at_call 29;refine (of_any 6 _ _ _ _).mono ?_;rintro e w10 ⟨rfl,hg⟩;have HU0:=jh (LiesT.oq (t:=6) ⟨by decide,by decide⟩ (RowC.grow (RowC.nil _ none 0) (undrew hg)));have HG10:Hid (W3.grownBy w10 none):=gTq (gRf _ _) (undrew hg);have hS:W3.grownBy w10 (some (W.heap.size + 1)):=gAq HG10.out;clear hg)
   | (go_at_call 108;have hprev:=HG10.out;clear hprev;refine (pAq (HD.out.grow (gTq HG10.out (gBq _))) (RowC.one (heap_alloc_new w10 _) (HU0.out.same (sAl (gBq _)))) (by simp;omega)).mono ?_;rintro e w5 hp;obtain ⟨a5,l5,c5,f5,er5,rfl,hS5,q0,q1,q2,HB5,HL5⟩:=lFq hp HG3.out (gTq HG10.out (gBq _)) HR3.out;clear hp))
  go_wp2_with fail
  exact eLq (fun w z0 z1=>by simp [results,Tryz.results89,go_sem,z0,z1]) rfl HB5.out HL5.out
theorem tells_80n {W:World} {n:Int} {ta ra da:Option Addr} {tl tc rl rc dl dc:Nat} {dk dn dp:Int} {ds:ByteArray} {s types:List Ty} {sv:Value} (hs:RowC W s sv) (hT:RowC W types (.slice ta tl tc)) (hc:sFq s [6,6] = false) (hgd:s.all gYq = true) (hn:s.length <= 1000) :
 Calls Tryz.prog 89 #[insV 80 n ta tl tc ra rl rc dk dn dp ds da dl dc,sv] W (LPq (.no 5) W):=by
 obtain ⟨sa,sl,sc,e1⟩:=hs.form3
 subst e1
 unfold insV
 obtain ⟨hg3,hI3,hR3,hK3⟩:=start3 W (.cells #[.int .i64 80,.int .i64 n,.slice ta tl tc,.slice ra rl rc,.int .i64 dk,.int .i64 dn,.int .i64 dp,.string ds,.slice da dl dc] 115) (.cells #[.slice none 0 0,.bool false] 62) (.cells #[.int .i64 6,.int .i64 6] 3)
 have hs3:=hs.grow hg3
 have HST:=jh (sTq (ks:=[6,6]) (kc:=2) hs3 (kinds2 hK3) (by decide))
 rw [hc] at HST
 have hT3:=hT.grow hg3
 have hlen:0 <= s.length:=Nat.zero_le _
 obtain ⟨hsl,hsc,_⟩:=hs3.len
 have b1:(sl:Int) <= (sc:Int):=by omega
 have HSL:=jh hsl
 have HG3:=jh hg3
 have HI3:=jh hI3
 have HR3:=jh hR3
 have HS3:=jh hs3
 have HLEN:=jh hlen
 clear hg3 hI3 hR3 hs hs3 hT hT3 hsl hlen hgd hc hK3
 go_enter Tryz.func89,Tryz.ntmps89
 go_wp2_with fail
 refine HST.out.mono ?_;rintro e w1 ⟨rfl,rfl⟩
 clear HST
 generalize ((W.alloc _).alloc _).alloc _ = W3 at *
 obtain ⟨i0,i1,i2,i3,_⟩:=box9 HI3.out
 have hS3:W3.grownBy W3 (some (W.heap.size + 1)):=gRf _ _
 go_wp2_with fail
 refine (rLq 5 (by decide) _).mono ?_
 rintro e w5 hp
 obtain ⟨a5,l5,c5,f5,er5,rfl,hS5,q0,q1,q2,HB5,HL5⟩:=lFq hp HG3.out (gRf _ _) HR3.out
 clear hp
 go_wp2_with fail
 exact eLq (fun w z0 z1=>by simp [results,Tryz.results89,go_sem,z0,z1]) rfl HB5.out HL5.out
theorem tells_81 {W:World} {n:Int} {ta ra da:Option Addr} {tl tc rl rc dl dc:Nat} {dk dn dp:Int} {ds:ByteArray} {s types:List Ty} {sv:Value} (hs:RowC W s sv) (hT:RowC W types (.slice ta tl tc)) (hc:sFq s [0] = true) (ht0:packT (tAq s 0) = true) (hz0:(tAq s 0).size <= 50000000) (hgd:s.all gYq = true) (hn:s.length <= 1000) :
 Calls Tryz.prog 89 #[insV 81 n ta tl tc ra rl rc dk dn dp ds da dl dc,sv] W (LPq (pFq (s.drop 1) [(.nd 6 [])]) W):=by
 obtain ⟨sa,sl,sc,e1⟩:=hs.form3
 subst e1
 unfold insV
 obtain ⟨hg3,hI3,hR3,hK3⟩:=start3 W (.cells #[.int .i64 81,.int .i64 n,.slice ta tl tc,.slice ra rl rc,.int .i64 dk,.int .i64 dn,.int .i64 dp,.string ds,.slice da dl dc] 115) (.cells #[.slice none 0 0,.bool false] 62) (.cells #[.int .i64 0] 3)
 have hs3:=hs.grow hg3
 have HST:=jh (sTq (ks:=[0]) (kc:=1) hs3 (kinds1 hK3) (by decide))
 rw [hc] at HST
 have hT3:=hT.grow hg3
 have hlen:1 <= s.length:=slq hc
 obtain ⟨hsl,hsc,_⟩:=hs3.len
 obtain ⟨b,o,t0,a0,l0,k0,rfl,x0a,x0b,hA0⟩:=hs3.at 0 (by omega)
 have HA0:=jh hA0
 have bz1:(1:Int) <= (sl:Int):=by omega
 have by0:0 < sl:=by omega
 have b1:(sl:Int) <= (sc:Int):=by omega
 have HSL:=jh hsl
 have HG3:=jh hg3
 have HI3:=jh hI3
 have HR3:=jh hR3
 have HS3:=jh hs3
 have HLEN:=jh hlen
 simp only [Nat.reduceMul,Nat.reduceAdd,Nat.add_zero,Nat.mul_zero,Nat.zero_add] at x0a x0b
 clear hg3 hI3 hR3 hs hs3 hT hT3 hsl hlen hgd hc hK3 hA0
 go_enter Tryz.func89,Tryz.ntmps89
 go_wp2_with fail
 refine HST.out.mono ?_;rintro e w1 ⟨rfl,rfl⟩
 clear HST
 generalize ((W.alloc _).alloc _).alloc _ = W3 at *
 obtain ⟨i0,i1,i2,i3,_⟩:=box9 HI3.out
 go_wp2_with fail
 refine (packed_any HA0.out.low hz0).mono ?_;rintro e wt0 ⟨rfl,hg⟩
 rw [ht0]
 replace x0a:=kNq hg x0a
 replace x0b:=kNq hg x0b
 replace i0:=kNq hg i0
 replace i2:=kNq hg i2
 replace HI3:=bCq HI3 hg
 replace HR3:=bCq HR3 hg
 replace HS3:=rCq HS3 hg
 replace HG3:=gCq HG3 hg
 replace HA0:=tCq HA0 hg
 clear hg
 have yx0a:=fun (w':World) (h:wt0.grownBy w' (some (W.heap.size + 1)))=>aI (kDq HR3.out h x0a x0a) (kDq HR3.out h x0a x0b)
 have hS3:wt0.grownBy wt0 (some (W.heap.size + 1)):=gRf _ _
 rcases (show (sc = 1 /\ sl = 1) \/ (¬ sc = 1 /\ ¬ sc - 1 = 0) by omega) with ⟨rfl,rfl⟩ | ⟨hc2,hc3⟩
 have HD:=jh (HS3.out.dropAll 1 (by have:=HSL.out;omega) (some ⟨b,o,none⟩) 0)
 rotate_left
 have HD:=jh (HS3.out.drop 1 (by have:=HLEN.out;omega))
 all_goals
  go_wp2_with fail
  go_region_held3 (fun w'=>wt0.grownBy w' (some (W.heap.size + 1))) (first | with_reducible assumption | with_reducible exact gDr (gRf _ _) | with_reducible exact grow_setR (by assumption) | with_reducible exact gTr (by assumption) (gAq (gBq _)) | with_reducible exact gDr (gAq (gBq _))) (first
   | (go_at_call 29;refine (of_any 6 _ _ _ _).mono ?_;rintro e w10 ⟨rfl,hg⟩;have HU0:=jh (LiesT.oq (t:=6) ⟨by decide,by decide⟩ (RowC.grow (RowC.nil _ none 0) (undrew hg)));have HG10:Hid (wt0.grownBy w10 none):=gTq (gRf _ _) (undrew hg);have hS:wt0.grownBy w10 (some (W.heap.size + 1)):=gAq HG10.out;clear hg)
   | (go_at_call 108;have hprev:=HG10.out;clear hprev;refine (pAq (HD.out.grow (gTq HG10.out (gBq _))) (RowC.one (heap_alloc_new w10 _) (HU0.out.same (sAl (gBq _)))) (by simp;omega)).mono ?_;rintro e w5 hp;obtain ⟨a5,l5,c5,f5,er5,rfl,hS5,q0,q1,q2,HB5,HL5⟩:=lFq hp HG3.out (gTq HG10.out (gBq _)) HR3.out;clear hp))
  go_wp2_with fail
  exact eLq (fun w z0 z1=>by simp [results,Tryz.results89,go_sem,z0,z1]) rfl HB5.out HL5.out
theorem tells_81n {W:World} {n:Int} {ta ra da:Option Addr} {tl tc rl rc dl dc:Nat} {dk dn dp:Int} {ds:ByteArray} {s types:List Ty} {sv:Value} (hs:RowC W s sv) (hT:RowC W types (.slice ta tl tc)) (hc:sFq s [0] = false) (hgd:s.all gYq = true) (hn:s.length <= 1000) :
 Calls Tryz.prog 89 #[insV 81 n ta tl tc ra rl rc dk dn dp ds da dl dc,sv] W (LPq (.no 5) W):=by
 obtain ⟨sa,sl,sc,e1⟩:=hs.form3
 subst e1
 unfold insV
 obtain ⟨hg3,hI3,hR3,hK3⟩:=start3 W (.cells #[.int .i64 81,.int .i64 n,.slice ta tl tc,.slice ra rl rc,.int .i64 dk,.int .i64 dn,.int .i64 dp,.string ds,.slice da dl dc] 115) (.cells #[.slice none 0 0,.bool false] 62) (.cells #[.int .i64 0] 3)
 have hs3:=hs.grow hg3
 have HST:=jh (sTq (ks:=[0]) (kc:=1) hs3 (kinds1 hK3) (by decide))
 rw [hc] at HST
 have hT3:=hT.grow hg3
 have hlen:0 <= s.length:=Nat.zero_le _
 obtain ⟨hsl,hsc,_⟩:=hs3.len
 have b1:(sl:Int) <= (sc:Int):=by omega
 have HSL:=jh hsl
 have HG3:=jh hg3
 have HI3:=jh hI3
 have HR3:=jh hR3
 have HS3:=jh hs3
 have HLEN:=jh hlen
 clear hg3 hI3 hR3 hs hs3 hT hT3 hsl hlen hgd hc hK3
 go_enter Tryz.func89,Tryz.ntmps89
 go_wp2_with fail
 refine HST.out.mono ?_;rintro e w1 ⟨rfl,rfl⟩
 clear HST
 generalize ((W.alloc _).alloc _).alloc _ = W3 at *
 obtain ⟨i0,i1,i2,i3,_⟩:=box9 HI3.out
 have hS3:W3.grownBy W3 (some (W.heap.size + 1)):=gRf _ _
 go_wp2_with fail
 refine (rLq 5 (by decide) _).mono ?_
 rintro e w5 hp
 obtain ⟨a5,l5,c5,f5,er5,rfl,hS5,q0,q1,q2,HB5,HL5⟩:=lFq hp HG3.out (gRf _ _) HR3.out
 clear hp
 go_wp2_with fail
 exact eLq (fun w z0 z1=>by simp [results,Tryz.results89,go_sem,z0,z1]) rfl HB5.out HL5.out
theorem tells_81n1 {W:World} {n:Int} {ta ra da:Option Addr} {tl tc rl rc dl dc:Nat} {dk dn dp:Int} {ds:ByteArray} {s types:List Ty} {sv:Value} (hs:RowC W s sv) (hT:RowC W types (.slice ta tl tc)) (hc:sFq s [0] = true) (ht0:packT (tAq s 0) = false) (hz0:(tAq s 0).size <= 50000000) (hgd:s.all gYq = true) (hn:s.length <= 1000) :
 Calls Tryz.prog 89 #[insV 81 n ta tl tc ra rl rc dk dn dp ds da dl dc,sv] W (LPq (.no 5) W):=by
 obtain ⟨sa,sl,sc,e1⟩:=hs.form3
 subst e1
 unfold insV
 obtain ⟨hg3,hI3,hR3,hK3⟩:=start3 W (.cells #[.int .i64 81,.int .i64 n,.slice ta tl tc,.slice ra rl rc,.int .i64 dk,.int .i64 dn,.int .i64 dp,.string ds,.slice da dl dc] 115) (.cells #[.slice none 0 0,.bool false] 62) (.cells #[.int .i64 0] 3)
 have hs3:=hs.grow hg3
 have HST:=jh (sTq (ks:=[0]) (kc:=1) hs3 (kinds1 hK3) (by decide))
 rw [hc] at HST
 have hT3:=hT.grow hg3
 have hlen:1 <= s.length:=slq hc
 obtain ⟨hsl,hsc,_⟩:=hs3.len
 obtain ⟨b,o,t0,a0,l0,k0,rfl,x0a,x0b,hA0⟩:=hs3.at 0 (by omega)
 have HA0:=jh hA0
 have bz1:(1:Int) <= (sl:Int):=by omega
 have by0:0 < sl:=by omega
 have b1:(sl:Int) <= (sc:Int):=by omega
 have HSL:=jh hsl
 have HG3:=jh hg3
 have HI3:=jh hI3
 have HR3:=jh hR3
 have HS3:=jh hs3
 have HLEN:=jh hlen
 simp only [Nat.reduceMul,Nat.reduceAdd,Nat.add_zero,Nat.mul_zero,Nat.zero_add] at x0a x0b
 clear hg3 hI3 hR3 hs hs3 hT hT3 hsl hlen hgd hc hK3 hA0
 go_enter Tryz.func89,Tryz.ntmps89
 go_wp2_with fail
 refine HST.out.mono ?_;rintro e w1 ⟨rfl,rfl⟩
 clear HST
 generalize ((W.alloc _).alloc _).alloc _ = W3 at *
 obtain ⟨i0,i1,i2,i3,_⟩:=box9 HI3.out
 go_wp2_with fail
 refine (packed_any HA0.out.low hz0).mono ?_;rintro e wt0 ⟨rfl,hg⟩
 rw [ht0]
 replace x0a:=kNq hg x0a
 replace x0b:=kNq hg x0b
 replace i0:=kNq hg i0
 replace i2:=kNq hg i2
 replace HI3:=bCq HI3 hg
 replace HR3:=bCq HR3 hg
 replace HS3:=rCq HS3 hg
 replace HG3:=gCq HG3 hg
 replace HA0:=tCq HA0 hg
 clear hg
 have yx0a:=fun (w':World) (h:wt0.grownBy w' (some (W.heap.size + 1)))=>aI (kDq HR3.out h x0a x0a) (kDq HR3.out h x0a x0b)
 have hS3:wt0.grownBy wt0 (some (W.heap.size + 1)):=gRf _ _
 go_wp2_with fail
 refine (rLq 5 (by decide) _).mono ?_
 rintro e w5 hp
 obtain ⟨a5,l5,c5,f5,er5,rfl,hS5,q0,q1,q2,HB5,HL5⟩:=lFq hp HG3.out (gRf _ _) HR3.out
 clear hp
 go_wp2_with fail
 exact eLq (fun w z0 z1=>by simp [results,Tryz.results89,go_sem,z0,z1]) rfl HB5.out HL5.out
theorem tells_82 {W:World} {n:Int} {ta ra da:Option Addr} {tl tc rl rc dl dc:Nat} {dk dn dp:Int} {ds:ByteArray} {s types:List Ty} {sv:Value} (hs:RowC W s sv) (hT:RowC W types (.slice ta tl tc)) (hc:sFq s [6] = true) (ht0:packT (tAq types 0) = true) (hz0:(tAq types 0).size <= 50000000) (htl:types.length = 1) (hgd:s.all gYq = true) (hn:s.length <= 1000) :
 Calls Tryz.prog 89 #[insV 82 n ta tl tc ra rl rc dk dn dp ds da dl dc,sv] W (LPq (pFq (s.drop 1) [(.nd 9 [(tAq types 0)])]) W):=by
 obtain ⟨sa,sl,sc,e1⟩:=hs.form3
 subst e1
 unfold insV
 obtain ⟨hg3,hI3,hR3,hK3⟩:=start3 W (.cells #[.int .i64 82,.int .i64 n,.slice ta tl tc,.slice ra rl rc,.int .i64 dk,.int .i64 dn,.int .i64 dp,.string ds,.slice da dl dc] 115) (.cells #[.slice none 0 0,.bool false] 62) (.cells #[.int .i64 6] 3)
 have hs3:=hs.grow hg3
 have HST:=jh (sTq (ks:=[6]) (kc:=1) hs3 (kinds1 hK3) (by decide))
 rw [hc] at HST
 have hT3:=hT.grow hg3
 have hlen:1 <= s.length:=slq hc
 obtain ⟨hsl,hsc,_⟩:=hs3.len
 obtain ⟨b,o,t0,a0,l0,k0,rfl,x0a,x0b,hA0⟩:=hs3.at 0 (by omega)
 have HA0:=jh hA0
 obtain ⟨et,ect,_⟩:=hT3.len
 rw [htl] at et ect
 subst et
 have HTY:=jh hT3
 obtain ⟨bt,ot,ty0,ay0,ly0,ky0,rfl,xy0a,xy0b,hAy0⟩:=hT3.at 0 (by omega)
 have HAy0:=jh hAy0
 have bz1:(1:Int) <= (sl:Int):=by omega
 have by0:0 < sl:=by omega
 have b1:(sl:Int) <= (sc:Int):=by omega
 have HSL:=jh hsl
 have HG3:=jh hg3
 have HI3:=jh hI3
 have HR3:=jh hR3
 have HS3:=jh hs3
 have HLEN:=jh hlen
 simp only [Nat.reduceMul,Nat.reduceAdd,Nat.add_zero,Nat.mul_zero,Nat.zero_add] at x0a x0b xy0a xy0b
 clear hg3 hI3 hR3 hs hs3 hT hT3 hsl hlen hgd hc hK3 htl hA0 hAy0
 go_enter Tryz.func89,Tryz.ntmps89
 go_wp2_with fail
 refine HST.out.mono ?_;rintro e w1 ⟨rfl,rfl⟩
 clear HST
 generalize ((W.alloc _).alloc _).alloc _ = W3 at *
 obtain ⟨i0,i1,i2,i3,_⟩:=box9 HI3.out
 go_wp2_with fail
 refine (packed_any HAy0.out.low hz0).mono ?_;rintro e wt0 ⟨rfl,hg⟩
 rw [ht0]
 replace x0a:=kNq hg x0a
 replace x0b:=kNq hg x0b
 replace xy0a:=kNq hg xy0a
 replace xy0b:=kNq hg xy0b
 replace i0:=kNq hg i0
 replace i2:=kNq hg i2
 replace HI3:=bCq HI3 hg
 replace HR3:=bCq HR3 hg
 replace HS3:=rCq HS3 hg
 replace HG3:=gCq HG3 hg
 replace HA0:=tCq HA0 hg
 replace HAy0:=tCq HAy0 hg
 replace HTY:=jh (HTY.out.grow hg)
 clear hg
 have yx0a:=fun (w':World) (h:wt0.grownBy w' (some (W.heap.size + 1)))=>aI (kDq HR3.out h x0a x0a) (aI (kDq HR3.out h x0a x0b) (aI (kDq HR3.out h xy0a xy0a) (aI (kDq HR3.out h xy0a xy0b) ((box9 (keepI HI3.out h)).2.2.1))))
 have hS3:wt0.grownBy wt0 (some (W.heap.size + 1)):=gRf _ _
 rcases (show (sc = 1 /\ sl = 1) \/ (¬ sc = 1 /\ ¬ sc - 1 = 0) by omega) with ⟨rfl,rfl⟩ | ⟨hc2,hc3⟩
 have HD:=jh (HS3.out.dropAll 1 (by have:=HSL.out;omega) (some ⟨b,o,none⟩) 0)
 rotate_left
 have HD:=jh (HS3.out.drop 1 (by have:=HLEN.out;omega))
 all_goals
  go_wp2_with fail
  go_region_held3 (fun w'=>wt0.grownBy w' (some (W.heap.size + 1))) (first | with_reducible assumption | with_reducible exact gDr (gRf _ _) | with_reducible exact grow_setR (by assumption) | with_reducible exact gTr (by assumption) (gAq (gBq _)) | with_reducible exact gDr (gAq (gBq _))) (first
   | (go_at_call 29;refine (of_any 9 _ _ _ _).mono ?_;rintro e w10 ⟨rfl,hg⟩;have HU0:=jh (LiesT.oq (t:=9) ⟨by decide,by decide⟩ (RowC.grow (RowC.one (heap_alloc_new wt0 _) (HAy0.out.same (sAl (gBq _)))) (undrew hg)));have HG10:Hid (wt0.grownBy w10 none):=gTq (gBq _) (undrew hg);have hS:wt0.grownBy w10 (some (W.heap.size + 1)):=gAq HG10.out;clear hg)
   | (go_at_call 108;have hprev:=HG10.out;clear hprev;refine (pAq (HD.out.grow (gTq HG10.out (gBq _))) (RowC.one (heap_alloc_new w10 _) (HU0.out.same (sAl (gBq _)))) (by simp;omega)).mono ?_;rintro e w5 hp;obtain ⟨a5,l5,c5,f5,er5,rfl,hS5,q0,q1,q2,HB5,HL5⟩:=lFq hp HG3.out (gTq HG10.out (gBq _)) HR3.out;clear hp))
  go_wp2_with fail
  exact eLq (fun w z0 z1=>by simp [results,Tryz.results89,go_sem,z0,z1]) rfl HB5.out HL5.out
theorem tells_82n {W:World} {n:Int} {ta ra da:Option Addr} {tl tc rl rc dl dc:Nat} {dk dn dp:Int} {ds:ByteArray} {s types:List Ty} {sv:Value} (hs:RowC W s sv) (hT:RowC W types (.slice ta tl tc)) (hc:sFq s [6] = false) (hgd:s.all gYq = true) (hn:s.length <= 1000) :
 Calls Tryz.prog 89 #[insV 82 n ta tl tc ra rl rc dk dn dp ds da dl dc,sv] W (LPq (.no 5) W):=by
 obtain ⟨sa,sl,sc,e1⟩:=hs.form3
 subst e1
 unfold insV
 obtain ⟨hg3,hI3,hR3,hK3⟩:=start3 W (.cells #[.int .i64 82,.int .i64 n,.slice ta tl tc,.slice ra rl rc,.int .i64 dk,.int .i64 dn,.int .i64 dp,.string ds,.slice da dl dc] 115) (.cells #[.slice none 0 0,.bool false] 62) (.cells #[.int .i64 6] 3)
 have hs3:=hs.grow hg3
 have HST:=jh (sTq (ks:=[6]) (kc:=1) hs3 (kinds1 hK3) (by decide))
 rw [hc] at HST
 have hT3:=hT.grow hg3
 have hlen:0 <= s.length:=Nat.zero_le _
 obtain ⟨hsl,hsc,_⟩:=hs3.len
 have b1:(sl:Int) <= (sc:Int):=by omega
 have HSL:=jh hsl
 have HG3:=jh hg3
 have HI3:=jh hI3
 have HR3:=jh hR3
 have HS3:=jh hs3
 have HLEN:=jh hlen
 clear hg3 hI3 hR3 hs hs3 hT hT3 hsl hlen hgd hc hK3
 go_enter Tryz.func89,Tryz.ntmps89
 go_wp2_with fail
 refine HST.out.mono ?_;rintro e w1 ⟨rfl,rfl⟩
 clear HST
 generalize ((W.alloc _).alloc _).alloc _ = W3 at *
 obtain ⟨i0,i1,i2,i3,_⟩:=box9 HI3.out
 have hS3:W3.grownBy W3 (some (W.heap.size + 1)):=gRf _ _
 go_wp2_with fail
 refine (rLq 5 (by decide) _).mono ?_
 rintro e w5 hp
 obtain ⟨a5,l5,c5,f5,er5,rfl,hS5,q0,q1,q2,HB5,HL5⟩:=lFq hp HG3.out (gRf _ _) HR3.out
 clear hp
 go_wp2_with fail
 exact eLq (fun w z0 z1=>by simp [results,Tryz.results89,go_sem,z0,z1]) rfl HB5.out HL5.out
theorem tells_82n1 {W:World} {n:Int} {ta ra da:Option Addr} {tl tc rl rc dl dc:Nat} {dk dn dp:Int} {ds:ByteArray} {s types:List Ty} {sv:Value} (hs:RowC W s sv) (hT:RowC W types (.slice ta tl tc)) (hc:sFq s [6] = true) (ht0:packT (tAq types 0) = false) (hz0:(tAq types 0).size <= 50000000) (htl:types.length = 1) (hgd:s.all gYq = true) (hn:s.length <= 1000) :
 Calls Tryz.prog 89 #[insV 82 n ta tl tc ra rl rc dk dn dp ds da dl dc,sv] W (LPq (.no 5) W):=by
 obtain ⟨sa,sl,sc,e1⟩:=hs.form3
 subst e1
 unfold insV
 obtain ⟨hg3,hI3,hR3,hK3⟩:=start3 W (.cells #[.int .i64 82,.int .i64 n,.slice ta tl tc,.slice ra rl rc,.int .i64 dk,.int .i64 dn,.int .i64 dp,.string ds,.slice da dl dc] 115) (.cells #[.slice none 0 0,.bool false] 62) (.cells #[.int .i64 6] 3)
 have hs3:=hs.grow hg3
 have HST:=jh (sTq (ks:=[6]) (kc:=1) hs3 (kinds1 hK3) (by decide))
 rw [hc] at HST
 have hT3:=hT.grow hg3
 have hlen:1 <= s.length:=slq hc
 obtain ⟨hsl,hsc,_⟩:=hs3.len
 obtain ⟨et,ect,_⟩:=hT3.len
 rw [htl] at et ect
 subst et
 have HTY:=jh hT3
 obtain ⟨bt,ot,ty0,ay0,ly0,ky0,rfl,xy0a,xy0b,hAy0⟩:=hT3.at 0 (by omega)
 have HAy0:=jh hAy0
 have bz1:(1:Int) <= (sl:Int):=by omega
 have by0:0 < sl:=by omega
 have b1:(sl:Int) <= (sc:Int):=by omega
 have HSL:=jh hsl
 have HG3:=jh hg3
 have HI3:=jh hI3
 have HR3:=jh hR3
 have HS3:=jh hs3
 have HLEN:=jh hlen
 simp only [Nat.reduceMul,Nat.reduceAdd,Nat.add_zero,Nat.mul_zero,Nat.zero_add] at xy0a xy0b
 clear hg3 hI3 hR3 hs hs3 hT hT3 hsl hlen hgd hc hK3 htl hAy0
 go_enter Tryz.func89,Tryz.ntmps89
 go_wp2_with fail
 refine HST.out.mono ?_;rintro e w1 ⟨rfl,rfl⟩
 clear HST
 generalize ((W.alloc _).alloc _).alloc _ = W3 at *
 obtain ⟨i0,i1,i2,i3,_⟩:=box9 HI3.out
 go_wp2_with fail
 refine (packed_any HAy0.out.low hz0).mono ?_;rintro e wt0 ⟨rfl,hg⟩
 rw [ht0]
 replace xy0a:=kNq hg xy0a
 replace xy0b:=kNq hg xy0b
 replace i0:=kNq hg i0
 replace i2:=kNq hg i2
 replace HI3:=bCq HI3 hg
 replace HR3:=bCq HR3 hg
 replace HS3:=rCq HS3 hg
 replace HG3:=gCq HG3 hg
 replace HAy0:=tCq HAy0 hg
 replace HTY:=jh (HTY.out.grow hg)
 clear hg
 have yxy0a:=fun (w':World) (h:wt0.grownBy w' (some (W.heap.size + 1)))=>aI (kDq HR3.out h xy0a xy0a) (aI (kDq HR3.out h xy0a xy0b) ((box9 (keepI HI3.out h)).2.2.1))
 have hS3:wt0.grownBy wt0 (some (W.heap.size + 1)):=gRf _ _
 go_wp2_with fail
 refine (rLq 5 (by decide) _).mono ?_
 rintro e w5 hp
 obtain ⟨a5,l5,c5,f5,er5,rfl,hS5,q0,q1,q2,HB5,HL5⟩:=lFq hp HG3.out (gRf _ _) HR3.out
 clear hp
 go_wp2_with fail
 exact eLq (fun w z0 z1=>by simp [results,Tryz.results89,go_sem,z0,z1]) rfl HB5.out HL5.out
theorem tells_83 {W:World} {n:Int} {ta ra da:Option Addr} {tl tc rl rc dl dc:Nat} {dk dn dp:Int} {ds:ByteArray} {s types:List Ty} {sv:Value} (hs:RowC W s sv) (hT:RowC W types (.slice ta tl tc)) (hc:sFq s [0] = true) (ht0:packT (tAq s 0) = true) (hz0:(tAq s 0).size <= 50000000) (hgd:s.all gYq = true) (hn:s.length <= 1000) :
 Calls Tryz.prog 89 #[insV 83 n ta tl tc ra rl rc dk dn dp ds da dl dc,sv] W (LPq (.ok true []) W):=by
 obtain ⟨sa,sl,sc,e1⟩:=hs.form3
 subst e1
 unfold insV
 obtain ⟨hg3,hI3,hR3,hK3⟩:=start3 W (.cells #[.int .i64 83,.int .i64 n,.slice ta tl tc,.slice ra rl rc,.int .i64 dk,.int .i64 dn,.int .i64 dp,.string ds,.slice da dl dc] 115) (.cells #[.slice none 0 0,.bool false] 62) (.cells #[.int .i64 0] 3)
 have hs3:=hs.grow hg3
 have HST:=jh (sTq (ks:=[0]) (kc:=1) hs3 (kinds1 hK3) (by decide))
 rw [hc] at HST
 have hT3:=hT.grow hg3
 have hlen:1 <= s.length:=slq hc
 obtain ⟨hsl,hsc,_⟩:=hs3.len
 obtain ⟨b,o,t0,a0,l0,k0,rfl,x0a,x0b,hA0⟩:=hs3.at 0 (by omega)
 have HA0:=jh hA0
 have bz1:(1:Int) <= (sl:Int):=by omega
 have by0:0 < sl:=by omega
 have b1:(sl:Int) <= (sc:Int):=by omega
 have HSL:=jh hsl
 have HG3:=jh hg3
 have HI3:=jh hI3
 have HR3:=jh hR3
 have HS3:=jh hs3
 have HLEN:=jh hlen
 simp only [Nat.reduceMul,Nat.reduceAdd,Nat.add_zero,Nat.mul_zero,Nat.zero_add] at x0a x0b
 clear hg3 hI3 hR3 hs hs3 hT hT3 hsl hlen hgd hc hK3 hA0
 go_enter Tryz.func89,Tryz.ntmps89
 go_wp2_with fail
 refine HST.out.mono ?_;rintro e w1 ⟨rfl,rfl⟩
 clear HST
 generalize ((W.alloc _).alloc _).alloc _ = W3 at *
 obtain ⟨i0,i1,i2,i3,_⟩:=box9 HI3.out
 go_wp2_with fail
 refine (packed_any HA0.out.low hz0).mono ?_;rintro e wt0 ⟨rfl,hg⟩
 rw [ht0]
 replace x0a:=kNq hg x0a
 replace x0b:=kNq hg x0b
 replace i0:=kNq hg i0
 replace i2:=kNq hg i2
 replace HI3:=bCq HI3 hg
 replace HR3:=bCq HR3 hg
 replace HS3:=rCq HS3 hg
 replace HG3:=gCq HG3 hg
 replace HA0:=tCq HA0 hg
 clear hg
 have yx0a:=fun (w':World) (h:wt0.grownBy w' (some (W.heap.size + 1)))=>aI (kDq HR3.out h x0a x0a) (kDq HR3.out h x0a x0b)
 have hS3:wt0.grownBy wt0 (some (W.heap.size + 1)):=gRf _ _
 have q0:=c0q HR3.out
 have q1:=c1q HR3.out
 have q2:=free2_of HR3.out
 have HL5:=jh (fails_led HG3.out HR3.out)
 go_wp2_with fail
 change bodyPost _ _ _ _ _ (set2 wt0 (W.heap.size + 1) (.slice none 0 0) (.bool true))
 have hb':=set2_block HR3.out (.slice none 0 0) (.bool true)
 have hl':=HL5.out
 generalize set2 wt0 (W.heap.size + 1) (.slice none 0 0) (.bool true) = wf at *
 have z0:=c0q hb'
 have z1:=c1q hb'
 exact bodyPost_ret (v:=.tuple #[.agg #[.slice none 0 0,.bool true],.int .i64 0]) (by simp [results,Tryz.results89,go_sem,z0,z1]) rfl hl'
theorem tells_83n {W:World} {n:Int} {ta ra da:Option Addr} {tl tc rl rc dl dc:Nat} {dk dn dp:Int} {ds:ByteArray} {s types:List Ty} {sv:Value} (hs:RowC W s sv) (hT:RowC W types (.slice ta tl tc)) (hc:sFq s [0] = false) (hgd:s.all gYq = true) (hn:s.length <= 1000) :
 Calls Tryz.prog 89 #[insV 83 n ta tl tc ra rl rc dk dn dp ds da dl dc,sv] W (LPq (.no 5) W):=by
 obtain ⟨sa,sl,sc,e1⟩:=hs.form3
 subst e1
 unfold insV
 obtain ⟨hg3,hI3,hR3,hK3⟩:=start3 W (.cells #[.int .i64 83,.int .i64 n,.slice ta tl tc,.slice ra rl rc,.int .i64 dk,.int .i64 dn,.int .i64 dp,.string ds,.slice da dl dc] 115) (.cells #[.slice none 0 0,.bool false] 62) (.cells #[.int .i64 0] 3)
 have hs3:=hs.grow hg3
 have HST:=jh (sTq (ks:=[0]) (kc:=1) hs3 (kinds1 hK3) (by decide))
 rw [hc] at HST
 have hT3:=hT.grow hg3
 have hlen:0 <= s.length:=Nat.zero_le _
 obtain ⟨hsl,hsc,_⟩:=hs3.len
 have b1:(sl:Int) <= (sc:Int):=by omega
 have HSL:=jh hsl
 have HG3:=jh hg3
 have HI3:=jh hI3
 have HR3:=jh hR3
 have HS3:=jh hs3
 have HLEN:=jh hlen
 clear hg3 hI3 hR3 hs hs3 hT hT3 hsl hlen hgd hc hK3
 go_enter Tryz.func89,Tryz.ntmps89
 go_wp2_with fail
 refine HST.out.mono ?_;rintro e w1 ⟨rfl,rfl⟩
 clear HST
 generalize ((W.alloc _).alloc _).alloc _ = W3 at *
 obtain ⟨i0,i1,i2,i3,_⟩:=box9 HI3.out
 have hS3:W3.grownBy W3 (some (W.heap.size + 1)):=gRf _ _
 go_wp2_with fail
 refine (rLq 5 (by decide) _).mono ?_
 rintro e w5 hp
 obtain ⟨a5,l5,c5,f5,er5,rfl,hS5,q0,q1,q2,HB5,HL5⟩:=lFq hp HG3.out (gRf _ _) HR3.out
 clear hp
 go_wp2_with fail
 exact eLq (fun w z0 z1=>by simp [results,Tryz.results89,go_sem,z0,z1]) rfl HB5.out HL5.out
theorem tells_83n1 {W:World} {n:Int} {ta ra da:Option Addr} {tl tc rl rc dl dc:Nat} {dk dn dp:Int} {ds:ByteArray} {s types:List Ty} {sv:Value} (hs:RowC W s sv) (hT:RowC W types (.slice ta tl tc)) (hc:sFq s [0] = true) (ht0:packT (tAq s 0) = false) (hz0:(tAq s 0).size <= 50000000) (hgd:s.all gYq = true) (hn:s.length <= 1000) :
 Calls Tryz.prog 89 #[insV 83 n ta tl tc ra rl rc dk dn dp ds da dl dc,sv] W (LPq (.no 5) W):=by
 obtain ⟨sa,sl,sc,e1⟩:=hs.form3
 subst e1
 unfold insV
 obtain ⟨hg3,hI3,hR3,hK3⟩:=start3 W (.cells #[.int .i64 83,.int .i64 n,.slice ta tl tc,.slice ra rl rc,.int .i64 dk,.int .i64 dn,.int .i64 dp,.string ds,.slice da dl dc] 115) (.cells #[.slice none 0 0,.bool false] 62) (.cells #[.int .i64 0] 3)
 have hs3:=hs.grow hg3
 have HST:=jh (sTq (ks:=[0]) (kc:=1) hs3 (kinds1 hK3) (by decide))
 rw [hc] at HST
 have hT3:=hT.grow hg3
 have hlen:1 <= s.length:=slq hc
 obtain ⟨hsl,hsc,_⟩:=hs3.len
 obtain ⟨b,o,t0,a0,l0,k0,rfl,x0a,x0b,hA0⟩:=hs3.at 0 (by omega)
 have HA0:=jh hA0
 have bz1:(1:Int) <= (sl:Int):=by omega
 have by0:0 < sl:=by omega
 have b1:(sl:Int) <= (sc:Int):=by omega
 have HSL:=jh hsl
 have HG3:=jh hg3
 have HI3:=jh hI3
 have HR3:=jh hR3
 have HS3:=jh hs3
 have HLEN:=jh hlen
 simp only [Nat.reduceMul,Nat.reduceAdd,Nat.add_zero,Nat.mul_zero,Nat.zero_add] at x0a x0b
 clear hg3 hI3 hR3 hs hs3 hT hT3 hsl hlen hgd hc hK3 hA0
 go_enter Tryz.func89,Tryz.ntmps89
 go_wp2_with fail
 refine HST.out.mono ?_;rintro e w1 ⟨rfl,rfl⟩
 clear HST
 generalize ((W.alloc _).alloc _).alloc _ = W3 at *
 obtain ⟨i0,i1,i2,i3,_⟩:=box9 HI3.out
 go_wp2_with fail
 refine (packed_any HA0.out.low hz0).mono ?_;rintro e wt0 ⟨rfl,hg⟩
 rw [ht0]
 replace x0a:=kNq hg x0a
 replace x0b:=kNq hg x0b
 replace i0:=kNq hg i0
 replace i2:=kNq hg i2
 replace HI3:=bCq HI3 hg
 replace HR3:=bCq HR3 hg
 replace HS3:=rCq HS3 hg
 replace HG3:=gCq HG3 hg
 replace HA0:=tCq HA0 hg
 clear hg
 have yx0a:=fun (w':World) (h:wt0.grownBy w' (some (W.heap.size + 1)))=>aI (kDq HR3.out h x0a x0a) (kDq HR3.out h x0a x0b)
 have hS3:wt0.grownBy wt0 (some (W.heap.size + 1)):=gRf _ _
 go_wp2_with fail
 refine (rLq 5 (by decide) _).mono ?_
 rintro e w5 hp
 obtain ⟨a5,l5,c5,f5,er5,rfl,hS5,q0,q1,q2,HB5,HL5⟩:=lFq hp HG3.out (gRf _ _) HR3.out
 clear hp
 go_wp2_with fail
 exact eLq (fun w z0 z1=>by simp [results,Tryz.results89,go_sem,z0,z1]) rfl HB5.out HL5.out
end Go.Proofs.YtkglnoimbekhhaaGreat
