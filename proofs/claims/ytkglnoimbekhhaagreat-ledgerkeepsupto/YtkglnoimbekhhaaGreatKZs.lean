import Derived.Test.YtkglnoimbekhhaaGreatKZd
import Derived.Test.YtkglnoimbekhhaaGreatKZb
import Derived.Test.YtkglnoimbekhhaaGreatKZf
namespace Go.Proofs.YtkglnoimbekhhaaGreat
set_option maxRecDepth 100000
set_option maxHeartbeats 4000000
open Go.ChangeShapes Go.WideShapes Go.ChangeAt Go.RowKit
set_option linter.unusedVariables false
set_option linter.unusedSimpArgs false
theorem enters_67 {W:World} {n:Int} {ta ra da:Option Addr} {tl tc rl rc dl dc:Nat} {dk dn dp:Int} {ds:ByteArray} {s types:List Ty} {sv:Value} (hs:RowC W s sv) (hT:RowC W types (.slice ta tl tc)) (hc:sFq s [0,14] = true) (ht0:sameT (tAq s 0) (tAq (tAq s 1).args 0) = true) (hz0:(tAq s 0).size <= 50000000) (hgd:s.all gYq = true) (hn:s.length <= 1000) :
 Calls Tryz.prog 86 #[insV 67 n ta tl tc ra rl rc dk dn dp ds da dl dc,sv] W (LPq (pFq (s.drop 2) [(tAq (tAq s 1).args 1)]) W):=by
 obtain ⟨sa,sl,sc,e1⟩:=hs.form3
 subst e1
 unfold insV
 obtain ⟨hg3,hI3,hR3⟩:=start2 W (.cells #[.int .i64 67,.int .i64 n,.slice ta tl tc,.slice ra rl rc,.int .i64 dk,.int .i64 dn,.int .i64 dp,.string ds,.slice da dl dc] 115) (.cells #[.slice none 0 0,.bool false] 62)
 have hs3:=hs.grow hg3
 have hT3:=hT.grow hg3
 have hlen:2 <= s.length:=slq hc
 obtain ⟨hsl,hsc,_⟩:=hs3.len
 obtain ⟨b,o,t0,a0,l0,k0,rfl,x0a,x0b,hA0⟩:=hs3.at 0 (by omega)
 have HA0:=jh hA0
 obtain ⟨_,_,t1,a1,l1,k1,eb,x1a,x1b,hA1⟩:=hs3.at 1 (by omega)
 simp only [Option.some.injEq,Addr.mk.injEq,and_true] at eb
 obtain ⟨rfl,rfl⟩:=eb
 have HA1:=jh hA1
 have hq1:(tAq s 1).args.length = 2:=cAq hc hgd 1 14 2 rfl (by decide) (by decide)
 obtain ⟨_,hr1⟩:=hA1.args
 obtain ⟨el1,ec1,_⟩:=hr1.len
 rw [hq1] at el1 ec1
 subst el1
 have HQ1:=jh hr1
 have HQL:=jh hq1
 obtain ⟨nb1,no1,t10,a10,l10,k10,rfl,x10a,x10b,hA10⟩:=hr1.at 0 (by omega)
 have HA10:=jh hA10
 obtain ⟨_,_,t11,a11,l11,k11,eb,x11a,x11b,hA11⟩:=hr1.at 1 (by omega)
 simp only [Option.some.injEq,Addr.mk.injEq,and_true] at eb
 obtain ⟨rfl,rfl⟩:=eb
 have HA11:=jh hA11
 have bz1:(1:Int) <= (sl:Int):=by omega
 have by0:0 < sl:=by omega
 have bz2:(2:Int) <= (sl:Int):=by omega
 have by1:(1:Int) < (sl:Int):=by omega
 have b1:(sl:Int) <= (sc:Int):=by omega
 have HSL:=jh hsl
 have HG3:=jh hg3
 have HI3:=jh hI3
 have HR3:=jh hR3
 have HS3:=jh hs3
 have HLEN:=jh hlen
 simp only [Nat.reduceMul,Nat.reduceAdd,Nat.add_zero,Nat.mul_zero,Nat.zero_add] at x0a x0b x1a x1b x10a x10b x11a x11b
 obtain ⟨i0,i1,i2,i3,_⟩:=box9 hI3
 clear hg3 hI3 hR3 hs hs3 hT hT3 hsl hlen hgd hA0 hA1 hr1 hq1 hA10 hA11
 go_enter Tryz.func86,Tryz.ntmps86
 go_wp2_with fail
 generalize (W.alloc _).alloc _ = W3 at *
 have yx0a:=fun (w':World) (h:W3.grownBy w' none)=>aI (kNq h x0a) (aI (kNq h x0b) (aI (kNq h x1a) (aI (kNq h x1b) (aI (kNq h x10a) (aI (kNq h x10b) (aI (kNq h x11a) (aI (kNq h x11b) (aI (kNq h i0) (kNq h i2)))))))))
 have hS0:W3.grownBy W3 none:=gRf _ _
 have HST:=jh (sTq (W:=(W3.alloc (.cells #[.int .i64 0,.int .i64 14] 3)).drew) (ks:=[0,14]) (kc:=2) (HS3.out.grow (gDr (gBq _))) (kinds2 (heap_alloc_new W3 _)) (by decide))
 rw [hc] at HST
 first
  | (go_region_held3 (fun w'=>W3.grownBy w' none) (first | with_reducible assumption | with_reducible exact gDr (gRf _ _) | with_reducible exact gTq (by assumption) (gBq _) | with_reducible exact gDr (gBq _)) (first
   | (go_at_call 107;refine HST.out.mono ?_;rintro e w1 ⟨rfl,rfl⟩)
   | (go_at_call 16;refine (same_any (HA0.out.same (sAl (gDr (gBq _)))).low (HA10.out.same (sAl (gDr (gBq _)))).low hz0).mono ?_;rintro e wt0 ⟨rfl,hg⟩;rw [ht0];have HGT0:Hid (W3.grownBy wt0 none):=gTq (gDr (gBq _)) hg;have hST0:=HGT0.out;clear hg)))
  | fail
 clear yx0a hS0
 have hg:=HGT0.out
 replace x0a:=kNq hg x0a
 replace x0b:=kNq hg x0b
 replace x1a:=kNq hg x1a
 replace x1b:=kNq hg x1b
 replace x10a:=kNq hg x10a
 replace x10b:=kNq hg x10b
 replace x11a:=kNq hg x11a
 replace x11b:=kNq hg x11b
 replace i0:=kNq hg i0
 replace i2:=kNq hg i2
 replace HI3:=bCq HI3 hg
 replace HR3:=bCq HR3 hg
 replace HS3:=rCq HS3 hg
 replace HG3:=gCq HG3 hg
 replace HA0:=tCq HA0 hg
 replace HA1:=tCq HA1 hg
 replace HA10:=tCq HA10 hg
 replace HA11:=tCq HA11 hg
 replace HQ1:=rCq HQ1 hg
 clear hg
 clear hST0 HST
 have yx0a:=fun (w':World) (h:wt0.grownBy w' (some (W.heap.size + 1)))=>aI (kDq HR3.out h x0a x0a) (aI (kDq HR3.out h x0a x0b) (aI (kDq HR3.out h x1a x1a) (aI (kDq HR3.out h x1a x1b) (aI (kDq HR3.out h x10a x10a) (aI (kDq HR3.out h x10a x10b) (aI (kDq HR3.out h x11a x11a) (kDq HR3.out h x11a x11b)))))))
 have hS3:wt0.grownBy wt0 (some (W.heap.size + 1)):=gRf _ _
 rcases (show (sc = 2 /\ sl = 2) \/ (¬ sc = 2 /\ ¬ sc - 2 = 0) by omega) with ⟨rfl,rfl⟩ | ⟨hc2,hc3⟩
 have HD:=jh (HS3.out.dropAll 2 (by have:=HSL.out;omega) (some ⟨b,o,none⟩) 0)
 rotate_left
 have HD:=jh (HS3.out.drop 2 (by have:=HLEN.out;omega))
 all_goals
  go_wp2_with fail
  go_region_held3 (fun w'=>wt0.grownBy w' (some (W.heap.size + 1))) (first | with_reducible assumption | with_reducible exact gDr (gRf _ _) | with_reducible exact grow_setR (by assumption) | with_reducible exact gTr (by assumption) (gAq (gBq _)) | with_reducible exact gDr (gAq (gBq _))) (first
   | (go_at_call 108;refine (pAq (HD.out.grow (gDr (gBq _))) (RowC.dr (RowC.one (heap_alloc_new wt0 _) (HA11.out.same (sAl (gBq _))))) (by simp;omega)).mono ?_;rintro e w5 hp;obtain ⟨a5,l5,c5,f5,er5,rfl,hS5,q0,q1,q2,HB5,HL5⟩:=lFq hp HG3.out (gDr (gBq _)) HR3.out;clear hp))
  go_wp2_with fail
  exact eLq (fun w z0 z1=>by simp [results,Tryz.results86,go_sem,z0,z1]) rfl HB5.out HL5.out
theorem enters_67n {W:World} {n:Int} {ta ra da:Option Addr} {tl tc rl rc dl dc:Nat} {dk dn dp:Int} {ds:ByteArray} {s types:List Ty} {sv:Value} (hs:RowC W s sv) (hT:RowC W types (.slice ta tl tc)) (hc:sFq s [0,14] = false) (hgd:s.all gYq = true) (hn:s.length <= 1000) :
 Calls Tryz.prog 86 #[insV 67 n ta tl tc ra rl rc dk dn dp ds da dl dc,sv] W (LPq (.no 5) W):=by
 obtain ⟨sa,sl,sc,e1⟩:=hs.form3
 subst e1
 unfold insV
 obtain ⟨hg3,hI3,hR3⟩:=start2 W (.cells #[.int .i64 67,.int .i64 n,.slice ta tl tc,.slice ra rl rc,.int .i64 dk,.int .i64 dn,.int .i64 dp,.string ds,.slice da dl dc] 115) (.cells #[.slice none 0 0,.bool false] 62)
 have hs3:=hs.grow hg3
 have hT3:=hT.grow hg3
 have hlen:0 <= s.length:=Nat.zero_le _
 obtain ⟨hsl,hsc,_⟩:=hs3.len
 have b1:(sl:Int) <= (sc:Int):=by omega
 have HSL:=jh hsl
 have HG3:=jh hg3
 have HI3:=jh hI3
 have HR3:=jh hR3
 have HS3:=jh hs3
 have HLEN:=jh hlen
 obtain ⟨i0,i1,i2,i3,_⟩:=box9 hI3
 clear hg3 hI3 hR3 hs hs3 hT hT3 hsl hlen hgd
 go_enter Tryz.func86,Tryz.ntmps86
 go_wp2_with fail
 generalize (W.alloc _).alloc _ = W3 at *
 have yi0:=fun (w':World) (h:W3.grownBy w' none)=>aI (kNq h i0) (kNq h i2)
 have hS0:W3.grownBy W3 none:=gRf _ _
 have HST:=jh (sTq (W:=W3.drew.alloc (.cells #[.int .i64 0,.int .i64 14] 3)) (ks:=[0,14]) (kc:=2) (HS3.out.grow (gTq (gDr (gRf _ _)) (gBq _))) (kinds2 (heap_alloc_new W3.drew _)) (by decide))
 rw [hc] at HST
 refine wp_region_held_drew (S:=fun w'=>W3.grownBy w' none) (by kernel_rfl) ?_ (fun hHeld=>?_)
 ·exact gDr (gRf _ _)
 refine rGq 0 110 ?_
 refine rGq 1 111 ?_
 refine rGq 2 112 ?_
 refine rGq 3 113 ?_
 refine rGq 4 114 ?_
 refine wpAnyH_ready (rs:=[5]) (by kernel_rfl) (by simp) ?_
 refine AllReadyH.cons rfl (fun K hK=>?_) AllReadyH.nil
 go_simp
 refine hK.out _ _ (gTq hHeld (gBq _)) (fun _=>?_)
 clear hK K
 replace hHeld:=gTq hHeld (gBq (w:=W3.drew) (.cells #[.int .i64 0,.int .i64 14] 3))
 refine wpAnyH_ready (rs:=[6]) (by kernel_rfl) (by simp) ?_
 refine AllReadyH.cons rfl (fun K hK=>?_) AllReadyH.nil
 go_simp
 go_at_call 107
 refine HST.out.mono ?_;rintro e w1 ⟨rfl,rfl⟩
 refine hK.out _ _ hHeld (fun _=>?_)
 clear hK K
 refine rGq 7 117 ?_
 refine rGq 8 118 ?_
 refine rNq 9 119 ?_
 refine rNq 10 120 ?_
 refine rNq 11 121 ?_
 refine rNq 12 122 ?_
 refine rNq 13 123 ?_
 refine rNq 14 124 ?_
 refine rNq 15 125 ?_
 refine rNq 16 126 ?_
 refine rNq 17 127 ?_
 refine rNq 18 128 ?_
 refine rGq 19 129 ?_
 refine rGq 20 109 ?_
 refine wpAnyH_done (by kernel_rfl) ?_ _
 clear hHeld
 clear HST yi0 hS0
 have hg:W3.grownBy (W3.drew.alloc (.cells #[.int .i64 0,.int .i64 14] 3)) none:=gTq (gDr (gRf _ _)) (gBq _)
 replace i0:=kNq hg i0
 replace i2:=kNq hg i2
 replace HI3:=bCq HI3 hg
 replace HR3:=bCq HR3 hg
 replace HS3:=rCq HS3 hg
 replace HG3:=gCq HG3 hg
 clear hg
 generalize W3.drew.alloc _ = wk at *
 have hS3:wk.grownBy wk (some (W.heap.size + 1)):=gRf _ _
 go_wp2_with fail
 refine (rLq 5 (by decide) _).mono ?_
 rintro e w5 hp
 obtain ⟨a5,l5,c5,f5,er5,rfl,hS5,q0,q1,q2,HB5,HL5⟩:=lFq hp HG3.out (gRf _ _) HR3.out
 clear hp
 go_wp2_with fail
 exact eLq (fun w z0 z1=>by simp [results,Tryz.results86,go_sem,z0,z1]) rfl HB5.out HL5.out
theorem enters_67n1 {W:World} {n:Int} {ta ra da:Option Addr} {tl tc rl rc dl dc:Nat} {dk dn dp:Int} {ds:ByteArray} {s types:List Ty} {sv:Value} (hs:RowC W s sv) (hT:RowC W types (.slice ta tl tc)) (hc:sFq s [0,14] = true) (ht0:sameT (tAq s 0) (tAq (tAq s 1).args 0) = false) (hz0:(tAq s 0).size <= 50000000) (hgd:s.all gYq = true) (hn:s.length <= 1000) :
 Calls Tryz.prog 86 #[insV 67 n ta tl tc ra rl rc dk dn dp ds da dl dc,sv] W (LPq (.no 5) W):=by
 obtain ⟨sa,sl,sc,e1⟩:=hs.form3
 subst e1
 unfold insV
 obtain ⟨hg3,hI3,hR3⟩:=start2 W (.cells #[.int .i64 67,.int .i64 n,.slice ta tl tc,.slice ra rl rc,.int .i64 dk,.int .i64 dn,.int .i64 dp,.string ds,.slice da dl dc] 115) (.cells #[.slice none 0 0,.bool false] 62)
 have hs3:=hs.grow hg3
 have hT3:=hT.grow hg3
 have hlen:2 <= s.length:=slq hc
 obtain ⟨hsl,hsc,_⟩:=hs3.len
 obtain ⟨b,o,t0,a0,l0,k0,rfl,x0a,x0b,hA0⟩:=hs3.at 0 (by omega)
 have HA0:=jh hA0
 obtain ⟨_,_,t1,a1,l1,k1,eb,x1a,x1b,hA1⟩:=hs3.at 1 (by omega)
 simp only [Option.some.injEq,Addr.mk.injEq,and_true] at eb
 obtain ⟨rfl,rfl⟩:=eb
 have HA1:=jh hA1
 have hq1:(tAq s 1).args.length = 2:=cAq hc hgd 1 14 2 rfl (by decide) (by decide)
 obtain ⟨_,hr1⟩:=hA1.args
 obtain ⟨el1,ec1,_⟩:=hr1.len
 rw [hq1] at el1 ec1
 subst el1
 have HQ1:=jh hr1
 have HQL:=jh hq1
 obtain ⟨nb1,no1,t10,a10,l10,k10,rfl,x10a,x10b,hA10⟩:=hr1.at 0 (by omega)
 have HA10:=jh hA10
 have bz1:(1:Int) <= (sl:Int):=by omega
 have by0:0 < sl:=by omega
 have bz2:(2:Int) <= (sl:Int):=by omega
 have by1:(1:Int) < (sl:Int):=by omega
 have b1:(sl:Int) <= (sc:Int):=by omega
 have HSL:=jh hsl
 have HG3:=jh hg3
 have HI3:=jh hI3
 have HR3:=jh hR3
 have HS3:=jh hs3
 have HLEN:=jh hlen
 simp only [Nat.reduceMul,Nat.reduceAdd,Nat.add_zero,Nat.mul_zero,Nat.zero_add] at x0a x0b x1a x1b x10a x10b
 obtain ⟨i0,i1,i2,i3,_⟩:=box9 hI3
 clear hg3 hI3 hR3 hs hs3 hT hT3 hsl hlen hgd hA0 hA1 hr1 hq1 hA10
 go_enter Tryz.func86,Tryz.ntmps86
 go_wp2_with fail
 generalize (W.alloc _).alloc _ = W3 at *
 have yx0a:=fun (w':World) (h:W3.grownBy w' none)=>aI (kNq h x0a) (aI (kNq h x0b) (aI (kNq h x1a) (aI (kNq h x1b) (aI (kNq h x10a) (aI (kNq h x10b) (aI (kNq h i0) (kNq h i2)))))))
 have hS0:W3.grownBy W3 none:=gRf _ _
 have HST:=jh (sTq (W:=W3.drew.alloc (.cells #[.int .i64 0,.int .i64 14] 3)) (ks:=[0,14]) (kc:=2) (HS3.out.grow (gTq (gDr (gRf _ _)) (gBq _))) (kinds2 (heap_alloc_new W3.drew _)) (by decide))
 rw [hc] at HST
 refine wp_region_held_drew (S:=fun w'=>W3.grownBy w' none) (by kernel_rfl) ?_ (fun hHeld=>?_)
 ·exact gDr (gRf _ _)
 refine rGq 0 110 ?_
 refine rGq 1 111 ?_
 refine rGq 2 112 ?_
 refine rGq 3 113 ?_
 refine rGq 4 114 ?_
 refine wpAnyH_ready (rs:=[5]) (by kernel_rfl) (by simp) ?_
 refine AllReadyH.cons rfl (fun K hK=>?_) AllReadyH.nil
 go_simp
 refine hK.out _ _ (gTq hHeld (gBq _)) (fun _=>?_)
 clear hK K
 replace hHeld:=gTq hHeld (gBq (w:=W3.drew) (.cells #[.int .i64 0,.int .i64 14] 3))
 refine wpAnyH_ready (rs:=[6]) (by kernel_rfl) (by simp) ?_
 refine AllReadyH.cons rfl (fun K hK=>?_) AllReadyH.nil
 go_simp
 go_at_call 107
 refine HST.out.mono ?_;rintro e w1 ⟨rfl,rfl⟩
 refine hK.out _ _ hHeld (fun _=>?_)
 clear hK K
 refine rGq 7 117 ?_
 refine rGq 8 118 ?_
 refine rGq 9 119 ?_
 refine rGq 10 120 ?_
 refine rGq 11 121 ?_
 refine rGq 12 122 ?_
 refine rGq 13 123 ?_
 refine rGq 14 124 ?_
 refine rGq 15 125 ?_
 refine rGq 16 126 ?_
 refine rGq 17 127 ?_
 refine wpAnyH_ready (rs:=[18]) (by kernel_rfl) (by simp) ?_
 refine AllReadyH.cons rfl (fun K hK=>?_) AllReadyH.nil
 go_simp
 go_at_call 16
 refine (same_any (HA0.out.same (sAl hHeld)).low (HA10.out.same (sAl hHeld)).low hz0).mono ?_;rintro e wt0 ⟨rfl,hg⟩
 rw [ht0]
 have hH9:=gTq hHeld hg
 refine hK.out _ _ hH9 (fun _=>?_)
 have HGT0:=jh hH9
 have hST0:=hH9
 clear hK K hHeld hg
 have hHeld:=hH9
 clear hH9
 refine rGq 19 129 ?_
 refine rGq 20 109 ?_
 refine wpAnyH_done (by kernel_rfl) ?_ _
 clear hHeld
 clear yx0a hS0
 have hg:=HGT0.out
 replace x0a:=kNq hg x0a
 replace x0b:=kNq hg x0b
 replace x1a:=kNq hg x1a
 replace x1b:=kNq hg x1b
 replace x10a:=kNq hg x10a
 replace x10b:=kNq hg x10b
 replace i0:=kNq hg i0
 replace i2:=kNq hg i2
 replace HI3:=bCq HI3 hg
 replace HR3:=bCq HR3 hg
 replace HS3:=rCq HS3 hg
 replace HG3:=gCq HG3 hg
 replace HA0:=tCq HA0 hg
 replace HA1:=tCq HA1 hg
 replace HA10:=tCq HA10 hg
 replace HQ1:=rCq HQ1 hg
 clear hg
 clear hST0 HST
 have yx0a:=fun (w':World) (h:wt0.grownBy w' (some (W.heap.size + 1)))=>aI (kDq HR3.out h x0a x0a) (aI (kDq HR3.out h x0a x0b) (aI (kDq HR3.out h x1a x1a) (aI (kDq HR3.out h x1a x1b) (aI (kDq HR3.out h x10a x10a) (kDq HR3.out h x10a x10b)))))
 have hS3:wt0.grownBy wt0 (some (W.heap.size + 1)):=gRf _ _
 go_wp2_with fail
 refine (rLq 5 (by decide) _).mono ?_
 rintro e w5 hp
 obtain ⟨a5,l5,c5,f5,er5,rfl,hS5,q0,q1,q2,HB5,HL5⟩:=lFq hp HG3.out (gRf _ _) HR3.out
 clear hp
 go_wp2_with fail
 exact eLq (fun w z0 z1=>by simp [results,Tryz.results86,go_sem,z0,z1]) rfl HB5.out HL5.out
theorem enters_60a {W:World} {n:Int} {ta ra da:Option Addr} {tl tc rl rc dl dc:Nat} {dk dn dp:Int} {ds:ByteArray} {s:List Ty} {sv:Value} {Th:List Ty -> List Ty -> List Ty -> Led} (hs:RowC W s sv) (hc:sFq s [10] = true) (hgd:s.all gYq = true) (hn:s.length <= 1000)
 (hT:∀ (W2:World) (x y z:List Ty) (xv yv zv:Value),W.grownBy W2 none -> RowC W2 x xv -> RowC W2 y yv -> RowC W2 z zv -> x.length <= s.length + 1 -> y.length <= 1001 -> z.length <= 1001 -> x.all gYq = true -> Calls Tryz.prog 112 #[insV 60 n ta tl tc ra rl rc dk dn dp ds da dl dc,xv,yv,zv] W2 (LPq (Th x y z) W2)) :
 Calls Tryz.prog 86 #[insV 60 n ta tl tc ra rl rc dk dn dp ds da dl dc,sv] W (LPq (Th ((tAq s 0).args ++ s.drop 1) (s.drop 1) (s.drop 1)) W):=by
 obtain ⟨sa,sl,sc,e1⟩:=hs.form3
 subst e1
 unfold insV at hT ⊢
 obtain ⟨hg3,hI3,hR3,hK3⟩:=start3 W (.cells #[.int .i64 60,.int .i64 n,.slice ta tl tc,.slice ra rl rc,.int .i64 dk,.int .i64 dn,.int .i64 dp,.string ds,.slice da dl dc] 115) (.cells #[.slice none 0 0,.bool false] 62) (.cells #[.int .i64 10] 3)
 have hs3:=hs.grow hg3
 have HST:=jh (sTq (ks:=[10]) (kc:=1) hs3 (kinds1 hK3) (by decide))
 rw [hc] at HST
 obtain ⟨hsl,hsc,_⟩:=hs3.len
 have HH:=jh hT
 have hlen:1 <= s.length:=slq hc
 have HLEN:=jh hlen
 obtain ⟨b,o,t0,a0,l0,k0,rfl,x0a,x0b,hA0⟩:=hs3.at 0 (by omega)
 have HA0:=jh hA0
 have HGG:=jh (good_at hgd (i:=0) (by omega))
 have HGD:=jh hgd
 have hq0:(tAq s 0).args.length = 1:=cAq hc hgd 0 10 1 rfl (by decide) (by decide)
 obtain ⟨_,hr0⟩:=hA0.args
 obtain ⟨el0,ec0,_⟩:=hr0.len
 rw [hq0] at el0 ec0
 subst el0
 have HQ0:=jh hr0
 have HQL:=jh hq0
 have bz1:(1:Int) <= (sl:Int):=by omega
 have by0:0 < sl:=by omega
 simp only [Nat.reduceMul,Nat.reduceAdd,Nat.add_zero,Nat.mul_zero,Nat.zero_add] at x0a x0b
 have b1:(sl:Int) <= (sc:Int):=by omega
 have HSL:=jh hsl
 have HG3:=jh hg3
 have HI3:=jh hI3
 have HR3:=jh hR3
 have HS3:=jh hs3
 clear hg3 hI3 hR3 hs hs3 hsl hgd hK3 hc hT hlen hA0 hr0 hq0
 obtain ⟨q,hq⟩:∃ q:Led,q = (Th ((tAq s 0).args ++ s.drop 1) (s.drop 1) (s.drop 1)):=⟨_,rfl⟩
 rw [← hq]
 have HQ:=jh hq
 clear hq
 go_enter Tryz.func86,Tryz.ntmps86
 go_wp2_with fail
 refine HST.out.mono ?_;rintro e w1 ⟨rfl,rfl⟩
 clear HST
 generalize ((W.alloc _).alloc _).alloc _ = W3 at *
 obtain ⟨i0,i1,i2,i3,i4,i5,i6,i7,i8⟩:=box9 HI3.out
 have yx0a:=fun (w':World) (h:W3.grownBy w' (some (W.heap.size + 1)))=>aI (kDq HR3.out h x0a x0a) (aI (kDq HR3.out h x0a x0b) (aI ((box9 (keepI HI3.out h)).1) (aI ((box9 (keepI HI3.out h)).2.1) (aI ((box9 (keepI HI3.out h)).2.2.1) (aI ((box9 (keepI HI3.out h)).2.2.2.1) (aI ((box9 (keepI HI3.out h)).2.2.2.2.1) (aI ((box9 (keepI HI3.out h)).2.2.2.2.2.1) (aI ((box9 (keepI HI3.out h)).2.2.2.2.2.2.1) (aI ((box9 (keepI HI3.out h)).2.2.2.2.2.2.2.1) ((box9 (keepI HI3.out h)).2.2.2.2.2.2.2.2))))))))))
 have hS3:W3.grownBy W3 (some (W.heap.size + 1)):=gRf _ _
 rcases (show (sc = 1 /\ sl = 1) \/ (¬ sc = 1 /\ ¬ sc - 1 = 0) by omega) with ⟨rfl,rfl⟩ | ⟨hc2,hc3⟩
 have HD:=jh (HS3.out.dropAll 1 (by have:=HSL.out;omega) (some ⟨b,o,none⟩) 0)
 rotate_left
 have HD:=jh (HS3.out.drop 1 (by have:=HLEN.out;omega))
 all_goals
  go_wp2_with fail
  go_region_held3 (fun w'=>W3.grownBy w' (some (W.heap.size + 1))) (first | with_reducible assumption | with_reducible exact gDr (gRf _ _) | with_reducible exact grow_setR (by assumption) | with_reducible exact gTr (by assumption) (gAq (gBq _)) | with_reducible exact gDr (gAq (gBq _))) (first
   | (go_at_call 110;with_reducible refine (concat_w1 HQ0.out HD.out (by have:=HQL.out;rw [List.length_drop];omega)).mono ?_;rintro e w4 ⟨v4,rfl,hr4,hg4⟩;obtain ⟨a4,l4,c4,e4⟩:=hr4.form3;subst e4;have HR4:=jh hr4;have HG4:=jh hg4;have hS4:=gAq (r:=some (W.heap.size + 1)) HG4.out;clear hr4 hg4)
   | (go_at_call 112;refine (HH.out _ _ _ _ _ _ _ (gTq HG3.out HG4.out) HR4.out (HD.out.grow HG4.out) (HD.out.grow HG4.out) (by have:=HQL.out;rw [List.length_append,List.length_drop];omega) (by rw [List.length_drop];omega) (by rw [List.length_drop];omega) (good_app (good_args HGG.out) (good_drop HGD.out 1))).mono ?_;rintro e w5 hp;rw [← HQ.out] at hp;obtain ⟨a5,l5,c5,f5,er5,rfl,hS5,q0,q1,q2,HB5,HL5⟩:=lFq hp HG3.out HG4.out HR3.out;clear hp))
  go_wp2_with fail
  exact eLq (fun w z0 z1=>by simp [results,Tryz.results86,go_sem,z0,z1]) rfl HB5.out HL5.out
theorem enters_60b {W:World} {n:Int} {ta ra da:Option Addr} {tl tc rl rc dl dc:Nat} {dk dn dp:Int} {ds:ByteArray} {s:List Ty} {sv:Value} {Th:List Ty -> List Ty -> List Ty -> Led} (hs:RowC W s sv) (hf0:sFq s [10] = false) (hc:sFq s [13] = true) (hgd:s.all gYq = true) (hn:s.length <= 1000)
 (hT:∀ (W2:World) (x y z:List Ty) (xv yv zv:Value),W.grownBy W2 none -> RowC W2 x xv -> RowC W2 y yv -> RowC W2 z zv -> x.length <= s.length + 1 -> y.length <= 1001 -> z.length <= 1001 -> x.all gYq = true -> Calls Tryz.prog 112 #[insV 60 n ta tl tc ra rl rc dk dn dp ds da dl dc,xv,yv,zv] W2 (LPq (Th x y z) W2)) :
 Calls Tryz.prog 86 #[insV 60 n ta tl tc ra rl rc dk dn dp ds da dl dc,sv] W (LPq (Th ([.nd 11 (tAq s 0).args] ++ s.drop 1) (s.drop 1) (s.drop 1)) W):=by
 obtain ⟨sa,sl,sc,e1⟩:=hs.form3
 subst e1
 unfold insV at hT ⊢
 obtain ⟨hg3,hI3,hR3,hK3⟩:=start3 W (.cells #[.int .i64 60,.int .i64 n,.slice ta tl tc,.slice ra rl rc,.int .i64 dk,.int .i64 dn,.int .i64 dp,.string ds,.slice da dl dc] 115) (.cells #[.slice none 0 0,.bool false] 62) (.cells #[.int .i64 10] 3)
 have hs3:=hs.grow hg3
 have HST:=jh (sTq (ks:=[10]) (kc:=1) hs3 (kinds1 hK3) (by decide))
 rw [hf0] at HST
 obtain ⟨hsl,hsc,_⟩:=hs3.len
 have HH:=jh hT
 have hlen:1 <= s.length:=slq hc
 have HLEN:=jh hlen
 obtain ⟨b,o,t0,a0,l0,k0,rfl,x0a,x0b,hA0⟩:=hs3.at 0 (by omega)
 have HA0:=jh hA0
 have HGG:=jh (good_at hgd (i:=0) (by omega))
 have HGD:=jh hgd
 have HGP:=jh (good_pairT HGG.out (stand_at hc 0 13 rfl (by decide)))
 have hq0:(tAq s 0).args.length = 2:=cAq hc hgd 0 13 2 rfl (by decide) (by decide)
 obtain ⟨_,hr0⟩:=hA0.args
 obtain ⟨el0,ec0,_⟩:=hr0.len
 rw [hq0] at el0 ec0
 subst el0
 have HQ0:=jh hr0
 have HQL:=jh hq0
 have bz1:(1:Int) <= (sl:Int):=by omega
 have by0:0 < sl:=by omega
 simp only [Nat.reduceMul,Nat.reduceAdd,Nat.add_zero,Nat.mul_zero,Nat.zero_add] at x0a x0b
 have b1:(sl:Int) <= (sc:Int):=by omega
 have HSL:=jh hsl
 have HG3:=jh hg3
 have HI3:=jh hI3
 have HR3:=jh hR3
 have HS3:=jh hs3
 clear hg3 hI3 hR3 hs hs3 hsl hgd hK3 hf0 hT hlen hA0 hr0 hq0
 obtain ⟨q,hq⟩:∃ q:Led,q = (Th ([.nd 11 (tAq s 0).args] ++ s.drop 1) (s.drop 1) (s.drop 1)):=⟨_,rfl⟩
 rw [← hq]
 have HQ:=jh hq
 clear hq
 go_enter Tryz.func86,Tryz.ntmps86
 go_wp2_with fail
 refine HST.out.mono ?_;rintro e w1 ⟨rfl,rfl⟩
 clear HST
 generalize ((W.alloc _).alloc _).alloc _ = W3 at *
 obtain ⟨i0,i1,i2,i3,i4,i5,i6,i7,i8⟩:=box9 HI3.out
 go_wp2_with fail
 have hK3:=heap_alloc_new W3 (.cells #[.int .i64 13] 3)
 have hg:=gBq (w:=W3) (.cells #[.int .i64 13] 3)
 have HST:=jh (sTq (ks:=[13]) (kc:=1) (HS3.out.grow hg) (kinds1 hK3) (by decide))
 rw [hc] at HST
 replace i0:=kNq hg i0
 replace i1:=kNq hg i1
 replace i2:=kNq hg i2
 replace i3:=kNq hg i3
 replace i4:=kNq hg i4
 replace i5:=kNq hg i5
 replace i6:=kNq hg i6
 replace i7:=kNq hg i7
 replace i8:=kNq hg i8
 replace x0a:=kNq hg x0a
 replace x0b:=kNq hg x0b
 replace HG3:=gCq HG3 hg
 replace HI3:=bCq HI3 hg
 replace HR3:=bCq HR3 hg
 replace HS3:=rCq HS3 hg
 replace HA0:=tCq HA0 hg
 replace HQ0:=rCq HQ0 hg
 clear hK3 hg hc
 refine HST.out.mono ?_;rintro e w1 ⟨rfl,rfl⟩
 clear HST
 generalize W3.alloc _ = Wk at *
 go_wp2_with fail
 refine (of_any 11 _ _ _ _).mono ?_;rintro e w2 ⟨rfl,hg⟩
 have HU:=jh (LiesT.oq (t:=11) ⟨by decide,by decide⟩ (HQ0.out.grow hg))
 replace i0:=kNq hg i0
 replace i1:=kNq hg i1
 replace i2:=kNq hg i2
 replace i3:=kNq hg i3
 replace i4:=kNq hg i4
 replace i5:=kNq hg i5
 replace i6:=kNq hg i6
 replace i7:=kNq hg i7
 replace i8:=kNq hg i8
 replace x0a:=kNq hg x0a
 replace x0b:=kNq hg x0b
 replace HG3:=gCq HG3 hg
 replace HI3:=bCq HI3 hg
 replace HR3:=bCq HR3 hg
 replace HS3:=rCq HS3 hg
 replace HA0:=tCq HA0 hg
 replace HQ0:=rCq HQ0 hg
 clear hg
 have hg:=gBq (w:=w2) (.cells #[.int .i64 11,.slice a0 2 k0] 24)
 have HIT:=jh (RowC.one (heap_alloc_new w2 (.cells #[.int .i64 11,.slice a0 2 k0] 24)) (HU.out.same (sAl hg)))
 replace i0:=kNq hg i0
 replace i1:=kNq hg i1
 replace i2:=kNq hg i2
 replace i3:=kNq hg i3
 replace i4:=kNq hg i4
 replace i5:=kNq hg i5
 replace i6:=kNq hg i6
 replace i7:=kNq hg i7
 replace i8:=kNq hg i8
 replace x0a:=kNq hg x0a
 replace x0b:=kNq hg x0b
 replace HG3:=gCq HG3 hg
 replace HI3:=bCq HI3 hg
 replace HR3:=bCq HR3 hg
 replace HS3:=rCq HS3 hg
 replace HA0:=tCq HA0 hg
 replace HQ0:=rCq HQ0 hg
 clear hg HU
 go_wp2_with fail
 generalize w2.alloc _ = Wm at *
 have yx0a:=fun (w':World) (h:Wm.grownBy w' (some (W.heap.size + 1)))=>aI (kDq HR3.out h x0a x0a) (aI (kDq HR3.out h x0a x0b) (aI ((box9 (keepI HI3.out h)).1) (aI ((box9 (keepI HI3.out h)).2.1) (aI ((box9 (keepI HI3.out h)).2.2.1) (aI ((box9 (keepI HI3.out h)).2.2.2.1) (aI ((box9 (keepI HI3.out h)).2.2.2.2.1) (aI ((box9 (keepI HI3.out h)).2.2.2.2.2.1) (aI ((box9 (keepI HI3.out h)).2.2.2.2.2.2.1) (aI ((box9 (keepI HI3.out h)).2.2.2.2.2.2.2.1) ((box9 (keepI HI3.out h)).2.2.2.2.2.2.2.2))))))))))
 have hS3:Wm.grownBy Wm (some (W.heap.size + 1)):=gRf _ _
 rcases (show (sc = 1 /\ sl = 1) \/ (¬ sc = 1 /\ ¬ sc - 1 = 0) by omega) with ⟨rfl,rfl⟩ | ⟨hc2,hc3⟩
 have HD:=jh (HS3.out.dropAll 1 (by have:=HSL.out;omega) (some ⟨b,o,none⟩) 0)
 rotate_left
 have HD:=jh (HS3.out.drop 1 (by have:=HLEN.out;omega))
 all_goals
  go_wp2_with fail
  go_region_held3 (fun w'=>Wm.grownBy w' (some (W.heap.size + 1))) (first | with_reducible assumption | with_reducible exact gDr (gRf _ _) | with_reducible exact grow_setR (by assumption) | with_reducible exact gTr (by assumption) (gAq (gBq _)) | with_reducible exact gDr (gAq (gBq _))) (first
   | (go_at_call 110;with_reducible refine (concat_w1 HIT.out HD.out (by rw [List.length_drop];simp;omega)).mono ?_;rintro e w4 ⟨v4,rfl,hr4,hg4⟩;obtain ⟨a4,l4,c4,e4⟩:=hr4.form3;subst e4;have HR4:=jh hr4;have HG4:=jh hg4;have hS4:=gAq (r:=some (W.heap.size + 1)) HG4.out;clear hr4 hg4)
   | (go_at_call 112;refine (HH.out _ _ _ _ _ _ _ (gTq HG3.out HG4.out) HR4.out (HD.out.grow HG4.out) (HD.out.grow HG4.out) (by rw [List.length_append,List.length_drop];simp;omega) (by rw [List.length_drop];omega) (by rw [List.length_drop];omega) (good_app (by have h1:=HGP.out;simp [h1]) (good_drop HGD.out 1))).mono ?_;rintro e w5 hp;rw [← HQ.out] at hp;obtain ⟨a5,l5,c5,f5,er5,rfl,hS5,q0,q1,q2,HB5,HL5⟩:=lFq hp HG3.out HG4.out HR3.out;clear hp))
  go_wp2_with fail
  exact eLq (fun w z0 z1=>by simp [results,Tryz.results86,go_sem,z0,z1]) rfl HB5.out HL5.out
theorem enters_65 {W:World} {n:Int} {ta ra da:Option Addr} {tl tc rl rc dl dc:Nat} {dk dn dp:Int} {ds:ByteArray} {s:List Ty} {sv:Value} {Th:List Ty -> List Ty -> List Ty -> Led} (hs:RowC W s sv) (hc:sFq s [2] = true) (hgd:s.all gYq = true) (hn:s.length <= 1000)
 (hT:∀ (W2:World) (x y z:List Ty) (xv yv zv:Value),W.grownBy W2 none -> RowC W2 x xv -> RowC W2 y yv -> RowC W2 z zv -> x.length <= s.length + 1 -> y.length <= 1001 -> z.length <= 1001 -> x.all gYq = true -> Calls Tryz.prog 112 #[insV 65 n ta tl tc ra rl rc dk dn dp ds da dl dc,xv,yv,zv] W2 (LPq (Th x y z) W2)) :
 Calls Tryz.prog 86 #[insV 65 n ta tl tc ra rl rc dk dn dp ds da dl dc,sv] W (LPq (Th (s.drop 1) s (s.drop 1)) W):=by
 obtain ⟨sa,sl,sc,e1⟩:=hs.form3
 subst e1
 unfold insV at hT ⊢
 obtain ⟨hg3,hI3,hR3,hK3⟩:=start3 W (.cells #[.int .i64 65,.int .i64 n,.slice ta tl tc,.slice ra rl rc,.int .i64 dk,.int .i64 dn,.int .i64 dp,.string ds,.slice da dl dc] 115) (.cells #[.slice none 0 0,.bool false] 62) (.cells #[.int .i64 2] 3)
 have hs3:=hs.grow hg3
 have HST:=jh (sTq (ks:=[2]) (kc:=1) hs3 (kinds1 hK3) (by decide))
 rw [hc] at HST
 obtain ⟨hsl,hsc,_⟩:=hs3.len
 have HH:=jh hT
 have hlen:1 <= s.length:=slq hc
 have HLEN:=jh hlen
 obtain ⟨b,o,t0,a0,l0,k0,rfl,x0a,x0b,hA0⟩:=hs3.at 0 (by omega)
 have HA0:=jh hA0
 have HGG:=jh (good_at hgd (i:=0) (by omega))
 have HGD:=jh hgd
 have bz1:(1:Int) <= (sl:Int):=by omega
 have by0:0 < sl:=by omega
 simp only [Nat.reduceMul,Nat.reduceAdd,Nat.add_zero,Nat.mul_zero,Nat.zero_add] at x0a x0b
 have b1:(sl:Int) <= (sc:Int):=by omega
 have HSL:=jh hsl
 have HG3:=jh hg3
 have HI3:=jh hI3
 have HR3:=jh hR3
 have HS3:=jh hs3
 clear hg3 hI3 hR3 hs hs3 hsl hgd hK3 hc hT hlen hA0
 obtain ⟨q,hq⟩:∃ q:Led,q = (Th (s.drop 1) s (s.drop 1)):=⟨_,rfl⟩
 rw [← hq]
 have HQ:=jh hq
 clear hq
 go_enter Tryz.func86,Tryz.ntmps86
 go_wp2_with fail
 refine HST.out.mono ?_;rintro e w1 ⟨rfl,rfl⟩
 clear HST
 generalize ((W.alloc _).alloc _).alloc _ = W3 at *
 obtain ⟨i0,i1,i2,i3,i4,i5,i6,i7,i8⟩:=box9 HI3.out
 have yx0a:=fun (w':World) (h:W3.grownBy w' (some (W.heap.size + 1)))=>aI (kDq HR3.out h x0a x0a) (aI (kDq HR3.out h x0a x0b) (aI ((box9 (keepI HI3.out h)).1) (aI ((box9 (keepI HI3.out h)).2.1) (aI ((box9 (keepI HI3.out h)).2.2.1) (aI ((box9 (keepI HI3.out h)).2.2.2.1) (aI ((box9 (keepI HI3.out h)).2.2.2.2.1) (aI ((box9 (keepI HI3.out h)).2.2.2.2.2.1) (aI ((box9 (keepI HI3.out h)).2.2.2.2.2.2.1) (aI ((box9 (keepI HI3.out h)).2.2.2.2.2.2.2.1) ((box9 (keepI HI3.out h)).2.2.2.2.2.2.2.2))))))))))
 have hS3:W3.grownBy W3 (some (W.heap.size + 1)):=gRf _ _
 rcases (show (sc = 1 /\ sl = 1) \/ (¬ sc = 1 /\ ¬ sc - 1 = 0) by omega) with ⟨rfl,rfl⟩ | ⟨hc2,hc3⟩
 have HD:=jh (HS3.out.dropAll 1 (by have:=HSL.out;omega) (some ⟨b,o,none⟩) 0)
 rotate_left
 have HD:=jh (HS3.out.drop 1 (by have:=HLEN.out;omega))
 all_goals
  go_wp2_with fail
  go_region_held3 (fun w'=>W3.grownBy w' (some (W.heap.size + 1))) (first | with_reducible assumption | with_reducible exact gDr (gRf _ _) | with_reducible exact grow_setR (by assumption) | with_reducible exact gTr (by assumption) (gAq (gBq _)) | with_reducible exact gDr (gAq (gBq _))) (first
   | (go_at_call 112;refine (HH.out _ _ _ _ _ _ _ (gTq HG3.out (gDr (gRf _ _))) (HD.out.grow (gDr (gRf _ _))) (HS3.out.grow (gDr (gRf _ _))) (HD.out.grow (gDr (gRf _ _))) (by rw [List.length_drop];omega) (by omega) (by rw [List.length_drop];omega) (good_drop HGD.out 1)).mono ?_;rintro e w5 hp;rw [← HQ.out] at hp;obtain ⟨a5,l5,c5,f5,er5,rfl,hS5,q0,q1,q2,HB5,HL5⟩:=lFq hp HG3.out (gDr (gRf _ _)) HR3.out;clear hp))
  go_wp2_with fail
  exact eLq (fun w z0 z1=>by simp [results,Tryz.results86,go_sem,z0,z1]) rfl HB5.out HL5.out
theorem enters_60n {W:World} {n:Int} {ta ra da:Option Addr} {tl tc rl rc dl dc:Nat} {dk dn dp:Int} {ds:ByteArray} {s:List Ty} {sv:Value} (hs:RowC W s sv) (hf0:sFq s [10] = false) (hc:sFq s [13] = false) (hgd:s.all gYq = true) (hn:s.length <= 1000)
 :
 Calls Tryz.prog 86 #[insV 60 n ta tl tc ra rl rc dk dn dp ds da dl dc,sv] W (LPq (.no 5) W):=by
 obtain ⟨sa,sl,sc,e1⟩:=hs.form3
 subst e1
 unfold insV
 obtain ⟨hg3,hI3,hR3,hK3⟩:=start3 W (.cells #[.int .i64 60,.int .i64 n,.slice ta tl tc,.slice ra rl rc,.int .i64 dk,.int .i64 dn,.int .i64 dp,.string ds,.slice da dl dc] 115) (.cells #[.slice none 0 0,.bool false] 62) (.cells #[.int .i64 10] 3)
 have hs3:=hs.grow hg3
 have HST:=jh (sTq (ks:=[10]) (kc:=1) hs3 (kinds1 hK3) (by decide))
 rw [hf0] at HST
 obtain ⟨hsl,hsc,_⟩:=hs3.len
 have b1:(sl:Int) <= (sc:Int):=by omega
 have HSL:=jh hsl
 have HG3:=jh hg3
 have HI3:=jh hI3
 have HR3:=jh hR3
 have HS3:=jh hs3
 clear hg3 hI3 hR3 hs hs3 hsl hgd hK3 hf0
 go_enter Tryz.func86,Tryz.ntmps86
 go_wp2_with fail
 refine HST.out.mono ?_;rintro e w1 ⟨rfl,rfl⟩
 clear HST
 generalize ((W.alloc _).alloc _).alloc _ = W3 at *
 obtain ⟨i0,i1,i2,i3,i4,i5,i6,i7,i8⟩:=box9 HI3.out
 go_wp2_with fail
 have hK3:=heap_alloc_new W3 (.cells #[.int .i64 13] 3)
 have hg:=gBq (w:=W3) (.cells #[.int .i64 13] 3)
 have HST:=jh (sTq (ks:=[13]) (kc:=1) (HS3.out.grow hg) (kinds1 hK3) (by decide))
 rw [hc] at HST
 replace i0:=kNq hg i0
 replace i1:=kNq hg i1
 replace i2:=kNq hg i2
 replace i3:=kNq hg i3
 replace i4:=kNq hg i4
 replace i5:=kNq hg i5
 replace i6:=kNq hg i6
 replace i7:=kNq hg i7
 replace i8:=kNq hg i8
 replace HG3:=gCq HG3 hg
 replace HI3:=bCq HI3 hg
 replace HR3:=bCq HR3 hg
 replace HS3:=rCq HS3 hg
 clear hK3 hg hc
 refine HST.out.mono ?_;rintro e w1 ⟨rfl,rfl⟩
 clear HST
 generalize W3.alloc _ = Wk at *
 go_wp2_with fail
 have yi0:=fun (w':World) (h:Wk.grownBy w' none)=>kNq h i0
 have hS0:Wk.grownBy Wk none:=gRf _ _
 refine wp_region_held_drew (S:=fun w'=>Wk.grownBy w' none) (by kernel_rfl) ?_ (fun hHeld=>?_)
 ·exact gDr (gRf _ _)
 refine rGq 0 110 ?_
 refine rGq 1 111 ?_
 refine rGq 2 112 ?_
 refine rGq 3 113 ?_
 refine rNq 4 114 ?_
 refine rNq 5 115 ?_
 refine rNq 6 116 ?_
 refine rGq 7 117 ?_
 refine rGq 8 118 ?_
 refine rNq 9 119 ?_
 refine rNq 10 120 ?_
 refine rNq 11 121 ?_
 refine rNq 12 122 ?_
 refine rNq 13 123 ?_
 refine rNq 14 124 ?_
 refine rNq 15 125 ?_
 refine rNq 16 126 ?_
 refine rNq 17 127 ?_
 refine rNq 18 128 ?_
 refine rGq 19 129 ?_
 refine rGq 20 109 ?_
 refine wpAnyH_done (by kernel_rfl) ?_ _
 clear hHeld hS0 yi0
 have hg:Wk.grownBy Wk.drew none:=gDr (gRf _ _)
 replace i0:=kNq hg i0
 replace i1:=kNq hg i1
 replace i2:=kNq hg i2
 replace i3:=kNq hg i3
 replace i4:=kNq hg i4
 replace i5:=kNq hg i5
 replace i6:=kNq hg i6
 replace i7:=kNq hg i7
 replace i8:=kNq hg i8
 replace HG3:=gCq HG3 hg
 replace HI3:=bCq HI3 hg
 replace HR3:=bCq HR3 hg
 replace HS3:=rCq HS3 hg
 clear hg
 generalize Wk.drew = Wd at *
 go_wp2_with fail
 refine (rLq 5 (by decide) _).mono ?_
 rintro e w5 hp
 obtain ⟨a5,l5,c5,f5,er5,rfl,hS5,q0,q1,q2,HB5,HL5⟩:=lFq hp HG3.out (gRf _ _) HR3.out
 clear hp
 go_wp2_with fail
 exact eLq (fun w z0 z1=>by simp [results,Tryz.results86,go_sem,z0,z1]) rfl HB5.out HL5.out
theorem enters_65n {W:World} {n:Int} {ta ra da:Option Addr} {tl tc rl rc dl dc:Nat} {dk dn dp:Int} {ds:ByteArray} {s:List Ty} {sv:Value} (hs:RowC W s sv) (hc:sFq s [2] = false) (hgd:s.all gYq = true) (hn:s.length <= 1000)
 :
 Calls Tryz.prog 86 #[insV 65 n ta tl tc ra rl rc dk dn dp ds da dl dc,sv] W (LPq (.no 5) W):=by
 obtain ⟨sa,sl,sc,e1⟩:=hs.form3
 subst e1
 unfold insV
 obtain ⟨hg3,hI3,hR3,hK3⟩:=start3 W (.cells #[.int .i64 65,.int .i64 n,.slice ta tl tc,.slice ra rl rc,.int .i64 dk,.int .i64 dn,.int .i64 dp,.string ds,.slice da dl dc] 115) (.cells #[.slice none 0 0,.bool false] 62) (.cells #[.int .i64 2] 3)
 have hs3:=hs.grow hg3
 have HST:=jh (sTq (ks:=[2]) (kc:=1) hs3 (kinds1 hK3) (by decide))
 rw [hc] at HST
 obtain ⟨hsl,hsc,_⟩:=hs3.len
 have b1:(sl:Int) <= (sc:Int):=by omega
 have HSL:=jh hsl
 have HG3:=jh hg3
 have HI3:=jh hI3
 have HR3:=jh hR3
 have HS3:=jh hs3
 clear hg3 hI3 hR3 hs hs3 hsl hgd hK3 hc
 go_enter Tryz.func86,Tryz.ntmps86
 go_wp2_with fail
 refine HST.out.mono ?_;rintro e w1 ⟨rfl,rfl⟩
 clear HST
 generalize ((W.alloc _).alloc _).alloc _ = W3 at *
 obtain ⟨i0,i1,i2,i3,i4,i5,i6,i7,i8⟩:=box9 HI3.out
 go_wp2_with fail
 have yi0:=fun (w':World) (h:W3.grownBy w' none)=>kNq h i0
 have hS0:W3.grownBy W3 none:=gRf _ _
 refine wp_region_held_drew (S:=fun w'=>W3.grownBy w' none) (by kernel_rfl) ?_ (fun hHeld=>?_)
 ·exact gDr (gRf _ _)
 refine rGq 0 110 ?_
 refine rGq 1 111 ?_
 refine rGq 2 112 ?_
 refine rGq 3 113 ?_
 refine rNq 4 114 ?_
 refine rNq 5 115 ?_
 refine rNq 6 116 ?_
 refine rGq 7 117 ?_
 refine rGq 8 118 ?_
 refine rNq 9 119 ?_
 refine rNq 10 120 ?_
 refine rNq 11 121 ?_
 refine rNq 12 122 ?_
 refine rNq 13 123 ?_
 refine rNq 14 124 ?_
 refine rNq 15 125 ?_
 refine rNq 16 126 ?_
 refine rNq 17 127 ?_
 refine rNq 18 128 ?_
 refine rGq 19 129 ?_
 refine rGq 20 109 ?_
 refine wpAnyH_done (by kernel_rfl) ?_ _
 clear hHeld hS0 yi0
 have hg:W3.grownBy W3.drew none:=gDr (gRf _ _)
 replace i0:=kNq hg i0
 replace i1:=kNq hg i1
 replace i2:=kNq hg i2
 replace i3:=kNq hg i3
 replace i4:=kNq hg i4
 replace i5:=kNq hg i5
 replace i6:=kNq hg i6
 replace i7:=kNq hg i7
 replace i8:=kNq hg i8
 replace HG3:=gCq HG3 hg
 replace HI3:=bCq HI3 hg
 replace HR3:=bCq HR3 hg
 replace HS3:=rCq HS3 hg
 clear hg
 generalize W3.drew = Wd at *
 go_wp2_with fail
 refine (rLq 5 (by decide) _).mono ?_
 rintro e w5 hp
 obtain ⟨a5,l5,c5,f5,er5,rfl,hS5,q0,q1,q2,HB5,HL5⟩:=lFq hp HG3.out (gRf _ _) HR3.out
 clear hp
 go_wp2_with fail
 exact eLq (fun w z0 z1=>by simp [results,Tryz.results86,go_sem,z0,z1]) rfl HB5.out HL5.out
end Go.Proofs.YtkglnoimbekhhaaGreat
