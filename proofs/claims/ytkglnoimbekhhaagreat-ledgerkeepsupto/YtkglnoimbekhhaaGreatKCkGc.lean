import Derived.Test.YtkglnoimbekhhaaGreatKZd
import Derived.Test.YtkglnoimbekhhaaGreatKZb
namespace Go.Proofs.YtkglnoimbekhhaaGreat
set_option maxRecDepth 100000
set_option maxHeartbeats 4000000
open Go.ChangeShapes Go.WideShapes Go.ChangeAt Go.RowKit
set_option linter.unusedVariables false
set_option linter.unusedSimpArgs false
theorem gathers_62 {W:World} {n:Int} {ta ra da:Option Addr} {tl tc rl rc dl dc:Nat} {dk dn dp:Int} {ds:ByteArray} {s types:List Ty} {sv:Value} (hs:RowC W s sv) (hT:RowC W types (.slice ta tl tc)) (hc:sFq s [0,13] = true) (ht0:sameT (tAq s 0) (tAq (tAq s 1).args 0) = true) (hz0:(tAq s 0).size <= 50000000) (ht1:copyT (tAq (tAq s 1).args 1) = true) (hz1:(tAq (tAq s 1).args 1).size <= 50000000) (hgd:s.all gYq = true) (hn:s.length <= 1000) :
 Calls Tryz.prog 84 #[insV 62 n ta tl tc ra rl rc dk dn dp ds da dl dc,sv] W (LPq (pFq (s.drop 2) [(.nd 9 [(tAq (tAq s 1).args 1)])]) W):=by
 obtain ⟨sa,sl,sc,e1⟩:=hs.form3
 subst e1
 unfold insV
 obtain ⟨hg3,hI3,hR3⟩:=start2 W (.cells #[.int .i64 62,.int .i64 n,.slice ta tl tc,.slice ra rl rc,.int .i64 dk,.int .i64 dn,.int .i64 dp,.string ds,.slice da dl dc] 115) (.cells #[.slice none 0 0,.bool false] 62)
 have hs3:=hs.grow hg3
 have hT3:=hT.grow hg3
 have hlen:2 <= s.length:=slq hc
 obtain ⟨hsl,hsc,_⟩:=hs3.len
 obtain ⟨b,o,t0,a0,l0,k0,rfl,x0a,x0b,hA0⟩:=hs3.at 0 (by omega)
 have HA0:=jh hA0
 obtain ⟨_,_,t1,a1,l1,k1,eb,x1a,x1b,hA1⟩:=hs3.at 1 (by omega)
 simp only [Option.some.injEq,Addr.mk.injEq,and_true] at eb
 obtain ⟨rfl,rfl⟩:=eb
 have HA1:=jh hA1
 have hq1:(tAq s 1).args.length = 2:=cAq hc hgd 1 13 2 rfl (by decide) (by decide)
 obtain ⟨_,hr1⟩:=hA1.args
 obtain ⟨el1,ec1,_⟩:=hr1.len
 rw [hq1] at el1 ec1
 subst el1
 have HQ1:=jh hr1
 have HQL:=jh hq1
 obtain ⟨nb1,no1,t10,a10,l10,k10,rfl,x10a,x10b,hA10⟩:=hr1.at 0 (by omega)
 have HA10:=jh hA10
 obtain ⟨_,_,t11,a11,l11,k11,eb,x11a,x11b,hA11⟩:=hr1.at 1 (by omega)
 simp only [Option.some.injEq,Addr.mk.injEq,and_true] at eb
 obtain ⟨rfl,rfl⟩:=eb
 have HA11:=jh hA11
 have bz1:(1:Int) <= (sl:Int):=by omega
 have by0:0 < sl:=by omega
 have bz2:(2:Int) <= (sl:Int):=by omega
 have by1:(1:Int) < (sl:Int):=by omega
 have b1:(sl:Int) <= (sc:Int):=by omega
 have HSL:=jh hsl
 have HG3:=jh hg3
 have HI3:=jh hI3
 have HR3:=jh hR3
 have HS3:=jh hs3
 have HLEN:=jh hlen
 simp only [Nat.reduceMul,Nat.reduceAdd,Nat.add_zero,Nat.mul_zero,Nat.zero_add] at x0a x0b x1a x1b x10a x10b x11a x11b
 obtain ⟨i0,i1,i2,i3,_⟩:=box9 hI3
 clear hg3 hI3 hR3 hs hs3 hT hT3 hsl hlen hgd hA0 hA1 hr1 hq1 hA10 hA11
 go_enter Tryz.func84,Tryz.ntmps84
 go_wp2_with fail
 generalize (W.alloc _).alloc _ = W3 at *
 have yx0a:=fun (w':World) (h:W3.grownBy w' none)=>aI (kNq h x0a) (aI (kNq h x0b) (aI (kNq h x1a) (aI (kNq h x1b) (aI (kNq h x10a) (aI (kNq h x10b) (aI (kNq h x11a) (aI (kNq h x11b) (aI (kNq h i0) (kNq h i2)))))))))
 have hS0:W3.grownBy W3 none:=gRf _ _
 refine wp_region_held_drew (S:=fun w'=>W3.grownBy w' none) (by kernel_rfl) ?_ (fun hHeld=>?_)
 ·exact gDr (gRf _ _)
 refine rGq 0 26 ?_
 refine rGq 1 27 ?_
 refine rGq 2 28 ?_
 refine rGq 3 29 ?_
 refine rNq 4 30 ?_
 refine rNq 5 31 ?_
 refine rNq 6 32 ?_
 refine rGq 7 33 ?_
 refine rGq 8 34 ?_
 refine rNq 9 35 ?_
 refine rNq 10 36 ?_
 refine rNq 11 37 ?_
 refine rNq 12 38 ?_
 refine rNq 13 39 ?_
 refine rNq 14 40 ?_
 refine rNq 15 41 ?_
 refine rNq 16 42 ?_
 refine rNq 17 43 ?_
 refine rNq 18 44 ?_
 refine rGq 19 45 ?_
 refine rGq 20 25 ?_
 refine wpAnyH_done (by kernel_rfl) ?_ _
 clear hHeld
 clear yx0a hS0
 have hg:W3.grownBy W3.drew none:=gDr (gRf _ _)
 replace x0a:=kNq hg x0a
 replace x0b:=kNq hg x0b
 replace x1a:=kNq hg x1a
 replace x1b:=kNq hg x1b
 replace x10a:=kNq hg x10a
 replace x10b:=kNq hg x10b
 replace x11a:=kNq hg x11a
 replace x11b:=kNq hg x11b
 replace i0:=kNq hg i0
 replace i2:=kNq hg i2
 replace HI3:=bCq HI3 hg
 replace HR3:=bCq HR3 hg
 replace HS3:=rCq HS3 hg
 replace HG3:=gCq HG3 hg
 replace HA0:=tCq HA0 hg
 replace HA1:=tCq HA1 hg
 replace HA10:=tCq HA10 hg
 replace HA11:=tCq HA11 hg
 replace HQ1:=rCq HQ1 hg
 clear hg
 generalize W3.drew = wd0 at *
 go_wp2_with fail
 have hg:=gBq (w:=wd0) (.cells #[.int .i64 0,.int .i64 13] 3)
 have hK3:=heap_alloc_new wd0 (.cells #[.int .i64 0,.int .i64 13] 3)
 have HST:=jh (sTq (ks:=[0,13]) (kc:=2) (HS3.out.grow hg) (kinds2 hK3) (by decide))
 rw [hc] at HST
 refine HST.out.mono ?_;rintro e w2 ⟨rfl,rfl⟩
 clear HST hK3
 replace x0a:=kNq hg x0a
 replace x0b:=kNq hg x0b
 replace x1a:=kNq hg x1a
 replace x1b:=kNq hg x1b
 replace x10a:=kNq hg x10a
 replace x10b:=kNq hg x10b
 replace x11a:=kNq hg x11a
 replace x11b:=kNq hg x11b
 replace i0:=kNq hg i0
 replace i2:=kNq hg i2
 replace HI3:=bCq HI3 hg
 replace HR3:=bCq HR3 hg
 replace HS3:=rCq HS3 hg
 replace HG3:=gCq HG3 hg
 replace HA0:=tCq HA0 hg
 replace HA1:=tCq HA1 hg
 replace HA10:=tCq HA10 hg
 replace HA11:=tCq HA11 hg
 replace HQ1:=rCq HQ1 hg
 clear hg
 generalize wd0.alloc _ = wk at *
 go_wp2_with fail
 have yx0a:=fun (w':World) (h:wk.grownBy w' none)=>aI (kNq h x0a) (aI (kNq h x0b) (aI (kNq h x1a) (aI (kNq h x1b) (aI (kNq h x10a) (aI (kNq h x10b) (aI (kNq h x11a) (aI (kNq h x11b) (aI (kNq h i0) (kNq h i2)))))))))
 have hS0:wk.grownBy wk none:=gRf _ _
 go_cut [6,7] (fun pv qv wx=>∃ bp bq:Nat,pv = .pointer (some ⟨bp,0,none⟩) /\ qv = .pointer (some ⟨bq,0,none⟩) /\ wx.heap[bp]? = some (.cells #[.int .i64 t10,.slice a10 l10 k10] 24 (0,0)) /\ wx.heap[bq]? = some (.cells #[.int .i64 t11,.slice a11 l11 k11] 24 (0,0)) /\ wk.grownBy wx none)
 case first =>
  go_region_held3 (fun w'=>wk.grownBy w' none) (first | assumption | exact gDr (gRf _ _) | exact gDr (gBq _) | exact gDr (gTq (gBq _) (gBq _)) | exact gBq _ | exact gTq (gBq _) (gBq _)) (fail)
  all_goals
   go_wp2_with fail
   go_meet
   first
   | exact ⟨_,_,rfl,rfl,rNw _ _ _,new_two2 _ _ _,gDr (gTq (gBq _) (gBq _))⟩
   | exact ⟨_,_,rfl,rfl,new_two2 _ _ _,rNw _ _ _,gDr (gTq (gBq _) (gBq _))⟩
 clear yx0a hS0
 obtain ⟨bp,bq,rfl,rfl,hXp,hYq,hg⟩:=hcut
 replace x0a:=kNq hg x0a
 replace x0b:=kNq hg x0b
 replace x1a:=kNq hg x1a
 replace x1b:=kNq hg x1b
 replace x10a:=kNq hg x10a
 replace x10b:=kNq hg x10b
 replace x11a:=kNq hg x11a
 replace x11b:=kNq hg x11b
 replace i0:=kNq hg i0
 replace i2:=kNq hg i2
 replace HI3:=bCq HI3 hg
 replace HR3:=bCq HR3 hg
 replace HS3:=rCq HS3 hg
 replace HG3:=gCq HG3 hg
 replace HA0:=tCq HA0 hg
 replace HA1:=tCq HA1 hg
 replace HA10:=tCq HA10 hg
 replace HA11:=tCq HA11 hg
 replace HQ1:=rCq HQ1 hg
 clear hg
 have xpa:=c0q hXp
 have xpb:=c1q hXp
 have xqa:=c0q hYq
 have xqb:=c1q hYq
 clear hXp hYq
 go_wp2_with fail
 have yx0a:=fun (w':World) (h:wc.grownBy w' none)=>aI (kNq h x0a) (aI (kNq h x0b) (aI (kNq h x1a) (aI (kNq h x1b) (aI (kNq h x10a) (aI (kNq h x10b) (aI (kNq h x11a) (aI (kNq h x11b) (aI (kNq h xpa) (aI (kNq h xpb) (aI (kNq h xqa) (aI (kNq h xqb) (aI (kNq h i0) (kNq h i2)))))))))))))
 have hS0:wc.grownBy wc none:=gRf _ _
 first
  | (go_region_held3 (fun w'=>wc.grownBy w' none) (first | with_reducible assumption | with_reducible exact gDr (gRf _ _) | with_reducible exact gTq (by assumption) (gBq _) | with_reducible exact gDr (gBq _)) (first
   | (go_at_call 109;have hprev:=HGT0.out;clear hprev;refine (copied_any (HA11.out.same (sAl HGT0.out)).low hz1).mono ?_;rintro e wt1 ⟨rfl,hg⟩;rw [ht1];have HGT1:Hid (wc.grownBy wt1 none):=gTq HGT0.out hg;have hST1:=HGT1.out;clear hg)
   | (go_at_call 16;refine (same_any (HA0.out.same (sAl (gDr (gRf _ _)))).low (HA10.out.same (sAl (gDr (gRf _ _)))).low hz0).mono ?_;rintro e wt0 ⟨rfl,hg⟩;rw [ht0];have HGT0:Hid (wc.grownBy wt0 none):=gTq (gDr (gRf _ _)) hg;have hST0:=HGT0.out;clear hg)))
  | fail
 clear yx0a hS0
 have hg:=HGT1.out
 replace x0a:=kNq hg x0a
 replace x0b:=kNq hg x0b
 replace x1a:=kNq hg x1a
 replace x1b:=kNq hg x1b
 replace x10a:=kNq hg x10a
 replace x10b:=kNq hg x10b
 replace x11a:=kNq hg x11a
 replace x11b:=kNq hg x11b
 replace xpa:=kNq hg xpa
 replace xpb:=kNq hg xpb
 replace xqa:=kNq hg xqa
 replace xqb:=kNq hg xqb
 replace i0:=kNq hg i0
 replace i2:=kNq hg i2
 replace HI3:=bCq HI3 hg
 replace HR3:=bCq HR3 hg
 replace HS3:=rCq HS3 hg
 replace HG3:=gCq HG3 hg
 replace HA0:=tCq HA0 hg
 replace HA1:=tCq HA1 hg
 replace HA10:=tCq HA10 hg
 replace HA11:=tCq HA11 hg
 replace HQ1:=rCq HQ1 hg
 clear hg
 clear hST0 hST1
 have yx0a:=fun (w':World) (h:wt1.grownBy w' (some (W.heap.size + 1)))=>aI (kDq HR3.out h x0a x0a) (aI (kDq HR3.out h x0a x0b) (aI (kDq HR3.out h x1a x1a) (aI (kDq HR3.out h x1a x1b) (aI (kDq HR3.out h x10a x10a) (aI (kDq HR3.out h x10a x10b) (aI (kDq HR3.out h x11a x11a) (aI (kDq HR3.out h x11a x11b) (aI (kDq HR3.out h xpa xpa) (aI (kDq HR3.out h xpa xpb) (aI (kDq HR3.out h xqa xqa) (kDq HR3.out h xqa xqb)))))))))))
 have hS3:wt1.grownBy wt1 (some (W.heap.size + 1)):=gRf _ _
 rcases (show (sc = 2 /\ sl = 2) \/ (¬ sc = 2 /\ ¬ sc - 2 = 0) by omega) with ⟨rfl,rfl⟩ | ⟨hc2,hc3⟩
 have HD:=jh (HS3.out.dropAll 2 (by have:=HSL.out;omega) (some ⟨b,o,none⟩) 0)
 rotate_left
 have HD:=jh (HS3.out.drop 2 (by have:=HLEN.out;omega))
 all_goals
  go_wp2_with fail
  go_region_held3 (fun w'=>wt1.grownBy w' (some (W.heap.size + 1))) (first | with_reducible assumption | with_reducible exact gDr (gRf _ _) | with_reducible exact grow_setR (by assumption) | with_reducible exact gTr (by assumption) (gAq (gBq _)) | with_reducible exact gDr (gAq (gBq _))) (first
   | (go_at_call 29;refine (of_any 9 _ _ _ _).mono ?_;rintro e w10 ⟨rfl,hg⟩;have HU0:=jh (LiesT.oq (t:=9) ⟨by decide,by decide⟩ (RowC.grow (RowC.one (heap_alloc_new wt1 _) (HA11.out.same (sAl (gBq _)))) (undrew hg)));have HG10:Hid (wt1.grownBy w10 none):=gTq (gBq _) (undrew hg);have hS:wt1.grownBy w10 (some (W.heap.size + 1)):=gAq HG10.out;clear hg)
   | (go_at_call 108;have hprev:=HG10.out;clear hprev;refine (pAq (HD.out.grow (gTq HG10.out (gBq _))) (RowC.one (heap_alloc_new w10 _) (HU0.out.same (sAl (gBq _)))) (by simp;omega)).mono ?_;rintro e w5 hp;obtain ⟨a5,l5,c5,f5,er5,rfl,hS5,q0,q1,q2,HB5,HL5⟩:=lFq hp HG3.out (gTq HG10.out (gBq _)) HR3.out;clear hp))
  go_wp2_with fail
  exact eLq (fun w z0 z1=>by simp [results,Tryz.results84,go_sem,z0,z1]) rfl HB5.out HL5.out
theorem gathers_62n {W:World} {n:Int} {ta ra da:Option Addr} {tl tc rl rc dl dc:Nat} {dk dn dp:Int} {ds:ByteArray} {s types:List Ty} {sv:Value} (hs:RowC W s sv) (hT:RowC W types (.slice ta tl tc)) (hc:sFq s [0,13] = false) (hgd:s.all gYq = true) (hn:s.length <= 1000) :
 Calls Tryz.prog 84 #[insV 62 n ta tl tc ra rl rc dk dn dp ds da dl dc,sv] W (LPq (.no 5) W):=by
 obtain ⟨sa,sl,sc,e1⟩:=hs.form3
 subst e1
 unfold insV
 obtain ⟨hg3,hI3,hR3⟩:=start2 W (.cells #[.int .i64 62,.int .i64 n,.slice ta tl tc,.slice ra rl rc,.int .i64 dk,.int .i64 dn,.int .i64 dp,.string ds,.slice da dl dc] 115) (.cells #[.slice none 0 0,.bool false] 62)
 have hs3:=hs.grow hg3
 have hT3:=hT.grow hg3
 have hlen:0 <= s.length:=Nat.zero_le _
 obtain ⟨hsl,hsc,_⟩:=hs3.len
 have b1:(sl:Int) <= (sc:Int):=by omega
 have HSL:=jh hsl
 have HG3:=jh hg3
 have HI3:=jh hI3
 have HR3:=jh hR3
 have HS3:=jh hs3
 have HLEN:=jh hlen
 obtain ⟨i0,i1,i2,i3,_⟩:=box9 hI3
 clear hg3 hI3 hR3 hs hs3 hT hT3 hsl hlen hgd
 go_enter Tryz.func84,Tryz.ntmps84
 go_wp2_with fail
 generalize (W.alloc _).alloc _ = W3 at *
 have yi0:=fun (w':World) (h:W3.grownBy w' none)=>aI (kNq h i0) (kNq h i2)
 have hS0:W3.grownBy W3 none:=gRf _ _
 refine wp_region_held_drew (S:=fun w'=>W3.grownBy w' none) (by kernel_rfl) ?_ (fun hHeld=>?_)
 ·exact gDr (gRf _ _)
 refine rGq 0 26 ?_
 refine rGq 1 27 ?_
 refine rGq 2 28 ?_
 refine rGq 3 29 ?_
 refine rNq 4 30 ?_
 refine rNq 5 31 ?_
 refine rNq 6 32 ?_
 refine rGq 7 33 ?_
 refine rGq 8 34 ?_
 refine rNq 9 35 ?_
 refine rNq 10 36 ?_
 refine rNq 11 37 ?_
 refine rNq 12 38 ?_
 refine rNq 13 39 ?_
 refine rNq 14 40 ?_
 refine rNq 15 41 ?_
 refine rNq 16 42 ?_
 refine rNq 17 43 ?_
 refine rNq 18 44 ?_
 refine rGq 19 45 ?_
 refine rGq 20 25 ?_
 refine wpAnyH_done (by kernel_rfl) ?_ _
 clear hHeld
 clear yi0 hS0
 have hg:W3.grownBy W3.drew none:=gDr (gRf _ _)
 replace i0:=kNq hg i0
 replace i2:=kNq hg i2
 replace HI3:=bCq HI3 hg
 replace HR3:=bCq HR3 hg
 replace HS3:=rCq HS3 hg
 replace HG3:=gCq HG3 hg
 clear hg
 generalize W3.drew = wd0 at *
 go_wp2_with fail
 have hg:=gBq (w:=wd0) (.cells #[.int .i64 0,.int .i64 13] 3)
 have hK3:=heap_alloc_new wd0 (.cells #[.int .i64 0,.int .i64 13] 3)
 have HST:=jh (sTq (ks:=[0,13]) (kc:=2) (HS3.out.grow hg) (kinds2 hK3) (by decide))
 rw [hc] at HST
 refine HST.out.mono ?_;rintro e w2 ⟨rfl,rfl⟩
 clear HST hK3
 replace i0:=kNq hg i0
 replace i2:=kNq hg i2
 replace HI3:=bCq HI3 hg
 replace HR3:=bCq HR3 hg
 replace HS3:=rCq HS3 hg
 replace HG3:=gCq HG3 hg
 clear hg
 generalize wd0.alloc _ = wk at *
 have hS3:wk.grownBy wk (some (W.heap.size + 1)):=gRf _ _
 go_wp2_with fail
 refine (rLq 5 (by decide) _).mono ?_
 rintro e w5 hp
 obtain ⟨a5,l5,c5,f5,er5,rfl,hS5,q0,q1,q2,HB5,HL5⟩:=lFq hp HG3.out (gRf _ _) HR3.out
 clear hp
 go_wp2_with fail
 exact eLq (fun w z0 z1=>by simp [results,Tryz.results84,go_sem,z0,z1]) rfl HB5.out HL5.out
theorem gathers_62n1 {W:World} {n:Int} {ta ra da:Option Addr} {tl tc rl rc dl dc:Nat} {dk dn dp:Int} {ds:ByteArray} {s types:List Ty} {sv:Value} (hs:RowC W s sv) (hT:RowC W types (.slice ta tl tc)) (hc:sFq s [0,13] = true) (ht0:sameT (tAq s 0) (tAq (tAq s 1).args 0) = false) (hz0:(tAq s 0).size <= 50000000) (hgd:s.all gYq = true) (hn:s.length <= 1000) :
 Calls Tryz.prog 84 #[insV 62 n ta tl tc ra rl rc dk dn dp ds da dl dc,sv] W (LPq (.no 5) W):=by
 obtain ⟨sa,sl,sc,e1⟩:=hs.form3
 subst e1
 unfold insV
 obtain ⟨hg3,hI3,hR3⟩:=start2 W (.cells #[.int .i64 62,.int .i64 n,.slice ta tl tc,.slice ra rl rc,.int .i64 dk,.int .i64 dn,.int .i64 dp,.string ds,.slice da dl dc] 115) (.cells #[.slice none 0 0,.bool false] 62)
 have hs3:=hs.grow hg3
 have hT3:=hT.grow hg3
 have hlen:2 <= s.length:=slq hc
 obtain ⟨hsl,hsc,_⟩:=hs3.len
 obtain ⟨b,o,t0,a0,l0,k0,rfl,x0a,x0b,hA0⟩:=hs3.at 0 (by omega)
 have HA0:=jh hA0
 obtain ⟨_,_,t1,a1,l1,k1,eb,x1a,x1b,hA1⟩:=hs3.at 1 (by omega)
 simp only [Option.some.injEq,Addr.mk.injEq,and_true] at eb
 obtain ⟨rfl,rfl⟩:=eb
 have HA1:=jh hA1
 have hq1:(tAq s 1).args.length = 2:=cAq hc hgd 1 13 2 rfl (by decide) (by decide)
 obtain ⟨_,hr1⟩:=hA1.args
 obtain ⟨el1,ec1,_⟩:=hr1.len
 rw [hq1] at el1 ec1
 subst el1
 have HQ1:=jh hr1
 have HQL:=jh hq1
 obtain ⟨nb1,no1,t10,a10,l10,k10,rfl,x10a,x10b,hA10⟩:=hr1.at 0 (by omega)
 have HA10:=jh hA10
 obtain ⟨_,_,t11,a11,l11,k11,eb,x11a,x11b,hA11⟩:=hr1.at 1 (by omega)
 simp only [Option.some.injEq,Addr.mk.injEq,and_true] at eb
 obtain ⟨rfl,rfl⟩:=eb
 have HA11:=jh hA11
 have bz1:(1:Int) <= (sl:Int):=by omega
 have by0:0 < sl:=by omega
 have bz2:(2:Int) <= (sl:Int):=by omega
 have by1:(1:Int) < (sl:Int):=by omega
 have b1:(sl:Int) <= (sc:Int):=by omega
 have HSL:=jh hsl
 have HG3:=jh hg3
 have HI3:=jh hI3
 have HR3:=jh hR3
 have HS3:=jh hs3
 have HLEN:=jh hlen
 simp only [Nat.reduceMul,Nat.reduceAdd,Nat.add_zero,Nat.mul_zero,Nat.zero_add] at x0a x0b x1a x1b x10a x10b x11a x11b
 obtain ⟨i0,i1,i2,i3,_⟩:=box9 hI3
 clear hg3 hI3 hR3 hs hs3 hT hT3 hsl hlen hgd hA0 hA1 hr1 hq1 hA10 hA11
 go_enter Tryz.func84,Tryz.ntmps84
 go_wp2_with fail
 generalize (W.alloc _).alloc _ = W3 at *
 have yx0a:=fun (w':World) (h:W3.grownBy w' none)=>aI (kNq h x0a) (aI (kNq h x0b) (aI (kNq h x1a) (aI (kNq h x1b) (aI (kNq h x10a) (aI (kNq h x10b) (aI (kNq h x11a) (aI (kNq h x11b) (aI (kNq h i0) (kNq h i2)))))))))
 have hS0:W3.grownBy W3 none:=gRf _ _
 refine wp_region_held_drew (S:=fun w'=>W3.grownBy w' none) (by kernel_rfl) ?_ (fun hHeld=>?_)
 ·exact gDr (gRf _ _)
 refine rGq 0 26 ?_
 refine rGq 1 27 ?_
 refine rGq 2 28 ?_
 refine rGq 3 29 ?_
 refine rNq 4 30 ?_
 refine rNq 5 31 ?_
 refine rNq 6 32 ?_
 refine rGq 7 33 ?_
 refine rGq 8 34 ?_
 refine rNq 9 35 ?_
 refine rNq 10 36 ?_
 refine rNq 11 37 ?_
 refine rNq 12 38 ?_
 refine rNq 13 39 ?_
 refine rNq 14 40 ?_
 refine rNq 15 41 ?_
 refine rNq 16 42 ?_
 refine rNq 17 43 ?_
 refine rNq 18 44 ?_
 refine rGq 19 45 ?_
 refine rGq 20 25 ?_
 refine wpAnyH_done (by kernel_rfl) ?_ _
 clear hHeld
 clear yx0a hS0
 have hg:W3.grownBy W3.drew none:=gDr (gRf _ _)
 replace x0a:=kNq hg x0a
 replace x0b:=kNq hg x0b
 replace x1a:=kNq hg x1a
 replace x1b:=kNq hg x1b
 replace x10a:=kNq hg x10a
 replace x10b:=kNq hg x10b
 replace x11a:=kNq hg x11a
 replace x11b:=kNq hg x11b
 replace i0:=kNq hg i0
 replace i2:=kNq hg i2
 replace HI3:=bCq HI3 hg
 replace HR3:=bCq HR3 hg
 replace HS3:=rCq HS3 hg
 replace HG3:=gCq HG3 hg
 replace HA0:=tCq HA0 hg
 replace HA1:=tCq HA1 hg
 replace HA10:=tCq HA10 hg
 replace HA11:=tCq HA11 hg
 replace HQ1:=rCq HQ1 hg
 clear hg
 generalize W3.drew = wd0 at *
 go_wp2_with fail
 have hg:=gBq (w:=wd0) (.cells #[.int .i64 0,.int .i64 13] 3)
 have hK3:=heap_alloc_new wd0 (.cells #[.int .i64 0,.int .i64 13] 3)
 have HST:=jh (sTq (ks:=[0,13]) (kc:=2) (HS3.out.grow hg) (kinds2 hK3) (by decide))
 rw [hc] at HST
 refine HST.out.mono ?_;rintro e w2 ⟨rfl,rfl⟩
 clear HST hK3
 replace x0a:=kNq hg x0a
 replace x0b:=kNq hg x0b
 replace x1a:=kNq hg x1a
 replace x1b:=kNq hg x1b
 replace x10a:=kNq hg x10a
 replace x10b:=kNq hg x10b
 replace x11a:=kNq hg x11a
 replace x11b:=kNq hg x11b
 replace i0:=kNq hg i0
 replace i2:=kNq hg i2
 replace HI3:=bCq HI3 hg
 replace HR3:=bCq HR3 hg
 replace HS3:=rCq HS3 hg
 replace HG3:=gCq HG3 hg
 replace HA0:=tCq HA0 hg
 replace HA1:=tCq HA1 hg
 replace HA10:=tCq HA10 hg
 replace HA11:=tCq HA11 hg
 replace HQ1:=rCq HQ1 hg
 clear hg
 generalize wd0.alloc _ = wk at *
 go_wp2_with fail
 have yx0a:=fun (w':World) (h:wk.grownBy w' none)=>aI (kNq h x0a) (aI (kNq h x0b) (aI (kNq h x1a) (aI (kNq h x1b) (aI (kNq h x10a) (aI (kNq h x10b) (aI (kNq h x11a) (aI (kNq h x11b) (aI (kNq h i0) (kNq h i2)))))))))
 have hS0:wk.grownBy wk none:=gRf _ _
 go_cut [6,7] (fun pv qv wx=>∃ bp bq:Nat,pv = .pointer (some ⟨bp,0,none⟩) /\ qv = .pointer (some ⟨bq,0,none⟩) /\ wx.heap[bp]? = some (.cells #[.int .i64 t10,.slice a10 l10 k10] 24 (0,0)) /\ wx.heap[bq]? = some (.cells #[.int .i64 t11,.slice a11 l11 k11] 24 (0,0)) /\ wk.grownBy wx none)
 case first =>
  go_region_held3 (fun w'=>wk.grownBy w' none) (first | assumption | exact gDr (gRf _ _) | exact gDr (gBq _) | exact gDr (gTq (gBq _) (gBq _)) | exact gBq _ | exact gTq (gBq _) (gBq _)) (fail)
  all_goals
   go_wp2_with fail
   go_meet
   first
   | exact ⟨_,_,rfl,rfl,rNw _ _ _,new_two2 _ _ _,gDr (gTq (gBq _) (gBq _))⟩
   | exact ⟨_,_,rfl,rfl,new_two2 _ _ _,rNw _ _ _,gDr (gTq (gBq _) (gBq _))⟩
 clear yx0a hS0
 obtain ⟨bp,bq,rfl,rfl,hXp,hYq,hg⟩:=hcut
 replace x0a:=kNq hg x0a
 replace x0b:=kNq hg x0b
 replace x1a:=kNq hg x1a
 replace x1b:=kNq hg x1b
 replace x10a:=kNq hg x10a
 replace x10b:=kNq hg x10b
 replace x11a:=kNq hg x11a
 replace x11b:=kNq hg x11b
 replace i0:=kNq hg i0
 replace i2:=kNq hg i2
 replace HI3:=bCq HI3 hg
 replace HR3:=bCq HR3 hg
 replace HS3:=rCq HS3 hg
 replace HG3:=gCq HG3 hg
 replace HA0:=tCq HA0 hg
 replace HA1:=tCq HA1 hg
 replace HA10:=tCq HA10 hg
 replace HA11:=tCq HA11 hg
 replace HQ1:=rCq HQ1 hg
 clear hg
 have xpa:=c0q hXp
 have xpb:=c1q hXp
 have xqa:=c0q hYq
 have xqb:=c1q hYq
 clear hXp hYq
 go_wp2_with fail
 have yx0a:=fun (w':World) (h:wc.grownBy w' none)=>aI (kNq h x0a) (aI (kNq h x0b) (aI (kNq h x1a) (aI (kNq h x1b) (aI (kNq h x10a) (aI (kNq h x10b) (aI (kNq h x11a) (aI (kNq h x11b) (aI (kNq h xpa) (aI (kNq h xpb) (aI (kNq h xqa) (aI (kNq h xqb) (aI (kNq h i0) (kNq h i2)))))))))))))
 have hS0:wc.grownBy wc none:=gRf _ _
 refine wp_region_held_drew (S:=fun w'=>wc.grownBy w' none) (by kernel_rfl) ?_ (fun hHeld=>?_)
 ·exact gDr (gRf _ _)
 refine rGq 0 117 ?_
 refine rGq 1 118 ?_
 refine rGq 2 119 ?_
 refine rGq 3 120 ?_
 refine wpAnyH_ready (rs:=[4]) (by kernel_rfl) (by simp) ?_
 refine AllReadyH.cons rfl (fun K hK=>?_) AllReadyH.nil
 go_simp
 go_at_call 16
 refine (same_any (HA0.out.same (sAl hHeld)).low (HA10.out.same (sAl hHeld)).low hz0).mono ?_;rintro e wt0 ⟨rfl,hg⟩
 rw [ht0]
 have hH9:=gTq hHeld hg
 refine hK.out _ _ hH9 (fun _=>?_)
 have HGT0:=jh hH9
 have hST0:=hH9
 clear hK K hHeld hg
 have hHeld:=hH9
 clear hH9
 refine rGq 5 122 ?_
 refine rNq 6 123 ?_
 refine rNq 7 124 ?_
 refine rGq 8 125 ?_
 refine wpAnyH_done (by kernel_rfl) ?_ _
 clear hHeld
 clear yx0a hS0
 have hg:=HGT0.out
 replace x0a:=kNq hg x0a
 replace x0b:=kNq hg x0b
 replace x1a:=kNq hg x1a
 replace x1b:=kNq hg x1b
 replace x10a:=kNq hg x10a
 replace x10b:=kNq hg x10b
 replace x11a:=kNq hg x11a
 replace x11b:=kNq hg x11b
 replace xpa:=kNq hg xpa
 replace xpb:=kNq hg xpb
 replace xqa:=kNq hg xqa
 replace xqb:=kNq hg xqb
 replace i0:=kNq hg i0
 replace i2:=kNq hg i2
 replace HI3:=bCq HI3 hg
 replace HR3:=bCq HR3 hg
 replace HS3:=rCq HS3 hg
 replace HG3:=gCq HG3 hg
 replace HA0:=tCq HA0 hg
 replace HA1:=tCq HA1 hg
 replace HA10:=tCq HA10 hg
 replace HA11:=tCq HA11 hg
 replace HQ1:=rCq HQ1 hg
 clear hg
 clear hST0
 have yx0a:=fun (w':World) (h:wt0.grownBy w' (some (W.heap.size + 1)))=>aI (kDq HR3.out h x0a x0a) (aI (kDq HR3.out h x0a x0b) (aI (kDq HR3.out h x1a x1a) (aI (kDq HR3.out h x1a x1b) (aI (kDq HR3.out h x10a x10a) (aI (kDq HR3.out h x10a x10b) (aI (kDq HR3.out h x11a x11a) (aI (kDq HR3.out h x11a x11b) (aI (kDq HR3.out h xpa xpa) (aI (kDq HR3.out h xpa xpb) (aI (kDq HR3.out h xqa xqa) (kDq HR3.out h xqa xqb)))))))))))
 have hS3:wt0.grownBy wt0 (some (W.heap.size + 1)):=gRf _ _
 go_wp2_with fail
 refine (rLq 5 (by decide) _).mono ?_
 rintro e w5 hp
 obtain ⟨a5,l5,c5,f5,er5,rfl,hS5,q0,q1,q2,HB5,HL5⟩:=lFq hp HG3.out (gRf _ _) HR3.out
 clear hp
 go_wp2_with fail
 exact eLq (fun w z0 z1=>by simp [results,Tryz.results84,go_sem,z0,z1]) rfl HB5.out HL5.out
theorem gathers_62n2 {W:World} {n:Int} {ta ra da:Option Addr} {tl tc rl rc dl dc:Nat} {dk dn dp:Int} {ds:ByteArray} {s types:List Ty} {sv:Value} (hs:RowC W s sv) (hT:RowC W types (.slice ta tl tc)) (hc:sFq s [0,13] = true) (ht0:sameT (tAq s 0) (tAq (tAq s 1).args 0) = true) (hz0:(tAq s 0).size <= 50000000) (ht1:copyT (tAq (tAq s 1).args 1) = false) (hz1:(tAq (tAq s 1).args 1).size <= 50000000) (hgd:s.all gYq = true) (hn:s.length <= 1000) :
 Calls Tryz.prog 84 #[insV 62 n ta tl tc ra rl rc dk dn dp ds da dl dc,sv] W (LPq (.no 5) W):=by
 obtain ⟨sa,sl,sc,e1⟩:=hs.form3
 subst e1
 unfold insV
 obtain ⟨hg3,hI3,hR3⟩:=start2 W (.cells #[.int .i64 62,.int .i64 n,.slice ta tl tc,.slice ra rl rc,.int .i64 dk,.int .i64 dn,.int .i64 dp,.string ds,.slice da dl dc] 115) (.cells #[.slice none 0 0,.bool false] 62)
 have hs3:=hs.grow hg3
 have hT3:=hT.grow hg3
 have hlen:2 <= s.length:=slq hc
 obtain ⟨hsl,hsc,_⟩:=hs3.len
 obtain ⟨b,o,t0,a0,l0,k0,rfl,x0a,x0b,hA0⟩:=hs3.at 0 (by omega)
 have HA0:=jh hA0
 obtain ⟨_,_,t1,a1,l1,k1,eb,x1a,x1b,hA1⟩:=hs3.at 1 (by omega)
 simp only [Option.some.injEq,Addr.mk.injEq,and_true] at eb
 obtain ⟨rfl,rfl⟩:=eb
 have HA1:=jh hA1
 have hq1:(tAq s 1).args.length = 2:=cAq hc hgd 1 13 2 rfl (by decide) (by decide)
 obtain ⟨_,hr1⟩:=hA1.args
 obtain ⟨el1,ec1,_⟩:=hr1.len
 rw [hq1] at el1 ec1
 subst el1
 have HQ1:=jh hr1
 have HQL:=jh hq1
 obtain ⟨nb1,no1,t10,a10,l10,k10,rfl,x10a,x10b,hA10⟩:=hr1.at 0 (by omega)
 have HA10:=jh hA10
 obtain ⟨_,_,t11,a11,l11,k11,eb,x11a,x11b,hA11⟩:=hr1.at 1 (by omega)
 simp only [Option.some.injEq,Addr.mk.injEq,and_true] at eb
 obtain ⟨rfl,rfl⟩:=eb
 have HA11:=jh hA11
 have bz1:(1:Int) <= (sl:Int):=by omega
 have by0:0 < sl:=by omega
 have bz2:(2:Int) <= (sl:Int):=by omega
 have by1:(1:Int) < (sl:Int):=by omega
 have b1:(sl:Int) <= (sc:Int):=by omega
 have HSL:=jh hsl
 have HG3:=jh hg3
 have HI3:=jh hI3
 have HR3:=jh hR3
 have HS3:=jh hs3
 have HLEN:=jh hlen
 simp only [Nat.reduceMul,Nat.reduceAdd,Nat.add_zero,Nat.mul_zero,Nat.zero_add] at x0a x0b x1a x1b x10a x10b x11a x11b
 obtain ⟨i0,i1,i2,i3,_⟩:=box9 hI3
 clear hg3 hI3 hR3 hs hs3 hT hT3 hsl hlen hgd hA0 hA1 hr1 hq1 hA10 hA11
 go_enter Tryz.func84,Tryz.ntmps84
 go_wp2_with fail
 generalize (W.alloc _).alloc _ = W3 at *
 have yx0a:=fun (w':World) (h:W3.grownBy w' none)=>aI (kNq h x0a) (aI (kNq h x0b) (aI (kNq h x1a) (aI (kNq h x1b) (aI (kNq h x10a) (aI (kNq h x10b) (aI (kNq h x11a) (aI (kNq h x11b) (aI (kNq h i0) (kNq h i2)))))))))
 have hS0:W3.grownBy W3 none:=gRf _ _
 refine wp_region_held_drew (S:=fun w'=>W3.grownBy w' none) (by kernel_rfl) ?_ (fun hHeld=>?_)
 ·exact gDr (gRf _ _)
 refine rGq 0 26 ?_
 refine rGq 1 27 ?_
 refine rGq 2 28 ?_
 refine rGq 3 29 ?_
 refine rNq 4 30 ?_
 refine rNq 5 31 ?_
 refine rNq 6 32 ?_
 refine rGq 7 33 ?_
 refine rGq 8 34 ?_
 refine rNq 9 35 ?_
 refine rNq 10 36 ?_
 refine rNq 11 37 ?_
 refine rNq 12 38 ?_
 refine rNq 13 39 ?_
 refine rNq 14 40 ?_
 refine rNq 15 41 ?_
 refine rNq 16 42 ?_
 refine rNq 17 43 ?_
 refine rNq 18 44 ?_
 refine rGq 19 45 ?_
 refine rGq 20 25 ?_
 refine wpAnyH_done (by kernel_rfl) ?_ _
 clear hHeld
 clear yx0a hS0
 have hg:W3.grownBy W3.drew none:=gDr (gRf _ _)
 replace x0a:=kNq hg x0a
 replace x0b:=kNq hg x0b
 replace x1a:=kNq hg x1a
 replace x1b:=kNq hg x1b
 replace x10a:=kNq hg x10a
 replace x10b:=kNq hg x10b
 replace x11a:=kNq hg x11a
 replace x11b:=kNq hg x11b
 replace i0:=kNq hg i0
 replace i2:=kNq hg i2
 replace HI3:=bCq HI3 hg
 replace HR3:=bCq HR3 hg
 replace HS3:=rCq HS3 hg
 replace HG3:=gCq HG3 hg
 replace HA0:=tCq HA0 hg
 replace HA1:=tCq HA1 hg
 replace HA10:=tCq HA10 hg
 replace HA11:=tCq HA11 hg
 replace HQ1:=rCq HQ1 hg
 clear hg
 generalize W3.drew = wd0 at *
 go_wp2_with fail
 have hg:=gBq (w:=wd0) (.cells #[.int .i64 0,.int .i64 13] 3)
 have hK3:=heap_alloc_new wd0 (.cells #[.int .i64 0,.int .i64 13] 3)
 have HST:=jh (sTq (ks:=[0,13]) (kc:=2) (HS3.out.grow hg) (kinds2 hK3) (by decide))
 rw [hc] at HST
 refine HST.out.mono ?_;rintro e w2 ⟨rfl,rfl⟩
 clear HST hK3
 replace x0a:=kNq hg x0a
 replace x0b:=kNq hg x0b
 replace x1a:=kNq hg x1a
 replace x1b:=kNq hg x1b
 replace x10a:=kNq hg x10a
 replace x10b:=kNq hg x10b
 replace x11a:=kNq hg x11a
 replace x11b:=kNq hg x11b
 replace i0:=kNq hg i0
 replace i2:=kNq hg i2
 replace HI3:=bCq HI3 hg
 replace HR3:=bCq HR3 hg
 replace HS3:=rCq HS3 hg
 replace HG3:=gCq HG3 hg
 replace HA0:=tCq HA0 hg
 replace HA1:=tCq HA1 hg
 replace HA10:=tCq HA10 hg
 replace HA11:=tCq HA11 hg
 replace HQ1:=rCq HQ1 hg
 clear hg
 generalize wd0.alloc _ = wk at *
 go_wp2_with fail
 have yx0a:=fun (w':World) (h:wk.grownBy w' none)=>aI (kNq h x0a) (aI (kNq h x0b) (aI (kNq h x1a) (aI (kNq h x1b) (aI (kNq h x10a) (aI (kNq h x10b) (aI (kNq h x11a) (aI (kNq h x11b) (aI (kNq h i0) (kNq h i2)))))))))
 have hS0:wk.grownBy wk none:=gRf _ _
 go_cut [6,7] (fun pv qv wx=>∃ bp bq:Nat,pv = .pointer (some ⟨bp,0,none⟩) /\ qv = .pointer (some ⟨bq,0,none⟩) /\ wx.heap[bp]? = some (.cells #[.int .i64 t10,.slice a10 l10 k10] 24 (0,0)) /\ wx.heap[bq]? = some (.cells #[.int .i64 t11,.slice a11 l11 k11] 24 (0,0)) /\ wk.grownBy wx none)
 case first =>
  go_region_held3 (fun w'=>wk.grownBy w' none) (first | assumption | exact gDr (gRf _ _) | exact gDr (gBq _) | exact gDr (gTq (gBq _) (gBq _)) | exact gBq _ | exact gTq (gBq _) (gBq _)) (fail)
  all_goals
   go_wp2_with fail
   go_meet
   first
   | exact ⟨_,_,rfl,rfl,rNw _ _ _,new_two2 _ _ _,gDr (gTq (gBq _) (gBq _))⟩
   | exact ⟨_,_,rfl,rfl,new_two2 _ _ _,rNw _ _ _,gDr (gTq (gBq _) (gBq _))⟩
 clear yx0a hS0
 obtain ⟨bp,bq,rfl,rfl,hXp,hYq,hg⟩:=hcut
 replace x0a:=kNq hg x0a
 replace x0b:=kNq hg x0b
 replace x1a:=kNq hg x1a
 replace x1b:=kNq hg x1b
 replace x10a:=kNq hg x10a
 replace x10b:=kNq hg x10b
 replace x11a:=kNq hg x11a
 replace x11b:=kNq hg x11b
 replace i0:=kNq hg i0
 replace i2:=kNq hg i2
 replace HI3:=bCq HI3 hg
 replace HR3:=bCq HR3 hg
 replace HS3:=rCq HS3 hg
 replace HG3:=gCq HG3 hg
 replace HA0:=tCq HA0 hg
 replace HA1:=tCq HA1 hg
 replace HA10:=tCq HA10 hg
 replace HA11:=tCq HA11 hg
 replace HQ1:=rCq HQ1 hg
 clear hg
 have xpa:=c0q hXp
 have xpb:=c1q hXp
 have xqa:=c0q hYq
 have xqb:=c1q hYq
 clear hXp hYq
 go_wp2_with fail
 have yx0a:=fun (w':World) (h:wc.grownBy w' none)=>aI (kNq h x0a) (aI (kNq h x0b) (aI (kNq h x1a) (aI (kNq h x1b) (aI (kNq h x10a) (aI (kNq h x10b) (aI (kNq h x11a) (aI (kNq h x11b) (aI (kNq h xpa) (aI (kNq h xpb) (aI (kNq h xqa) (aI (kNq h xqb) (aI (kNq h i0) (kNq h i2)))))))))))))
 have hS0:wc.grownBy wc none:=gRf _ _
 refine wp_region_held_drew (S:=fun w'=>wc.grownBy w' none) (by kernel_rfl) ?_ (fun hHeld=>?_)
 ·exact gDr (gRf _ _)
 refine rGq 0 117 ?_
 refine rGq 1 118 ?_
 refine rGq 2 119 ?_
 refine rGq 3 120 ?_
 refine wpAnyH_ready (rs:=[4]) (by kernel_rfl) (by simp) ?_
 refine AllReadyH.cons rfl (fun K hK=>?_) AllReadyH.nil
 go_simp
 go_at_call 16
 refine (same_any (HA0.out.same (sAl hHeld)).low (HA10.out.same (sAl hHeld)).low hz0).mono ?_;rintro e wt0 ⟨rfl,hg⟩
 rw [ht0]
 have hH9:=gTq hHeld hg
 refine hK.out _ _ hH9 (fun _=>?_)
 have HGT0:=jh hH9
 have hST0:=hH9
 clear hK K hHeld hg
 have hHeld:=hH9
 clear hH9
 refine rGq 5 122 ?_
 refine rGq 6 123 ?_
 refine wpAnyH_ready (rs:=[7]) (by kernel_rfl) (by simp) ?_
 refine AllReadyH.cons rfl (fun K hK=>?_) AllReadyH.nil
 go_simp
 go_at_call 109
 refine (copied_any (HA11.out.same (sAl hHeld)).low hz1).mono ?_;rintro e wt1 ⟨rfl,hg⟩
 rw [ht1]
 have hH9:=gTq hHeld hg
 refine hK.out _ _ hH9 (fun _=>?_)
 have HGT1:=jh hH9
 have hST1:=hH9
 clear hK K hHeld hg
 have hHeld:=hH9
 clear hH9
 refine rGq 8 125 ?_
 refine wpAnyH_done (by kernel_rfl) ?_ _
 clear hHeld
 clear yx0a hS0
 have hg:=HGT1.out
 replace x0a:=kNq hg x0a
 replace x0b:=kNq hg x0b
 replace x1a:=kNq hg x1a
 replace x1b:=kNq hg x1b
 replace x10a:=kNq hg x10a
 replace x10b:=kNq hg x10b
 replace x11a:=kNq hg x11a
 replace x11b:=kNq hg x11b
 replace xpa:=kNq hg xpa
 replace xpb:=kNq hg xpb
 replace xqa:=kNq hg xqa
 replace xqb:=kNq hg xqb
 replace i0:=kNq hg i0
 replace i2:=kNq hg i2
 replace HI3:=bCq HI3 hg
 replace HR3:=bCq HR3 hg
 replace HS3:=rCq HS3 hg
 replace HG3:=gCq HG3 hg
 replace HA0:=tCq HA0 hg
 replace HA1:=tCq HA1 hg
 replace HA10:=tCq HA10 hg
 replace HA11:=tCq HA11 hg
 replace HQ1:=rCq HQ1 hg
 clear hg
 clear hST0 hST1
 have yx0a:=fun (w':World) (h:wt1.grownBy w' (some (W.heap.size + 1)))=>aI (kDq HR3.out h x0a x0a) (aI (kDq HR3.out h x0a x0b) (aI (kDq HR3.out h x1a x1a) (aI (kDq HR3.out h x1a x1b) (aI (kDq HR3.out h x10a x10a) (aI (kDq HR3.out h x10a x10b) (aI (kDq HR3.out h x11a x11a) (aI (kDq HR3.out h x11a x11b) (aI (kDq HR3.out h xpa xpa) (aI (kDq HR3.out h xpa xpb) (aI (kDq HR3.out h xqa xqa) (kDq HR3.out h xqa xqb)))))))))))
 have hS3:wt1.grownBy wt1 (some (W.heap.size + 1)):=gRf _ _
 go_wp2_with fail
 refine (rLq 5 (by decide) _).mono ?_
 rintro e w5 hp
 obtain ⟨a5,l5,c5,f5,er5,rfl,hS5,q0,q1,q2,HB5,HL5⟩:=lFq hp HG3.out (gRf _ _) HR3.out
 clear hp
 go_wp2_with fail
 exact eLq (fun w z0 z1=>by simp [results,Tryz.results84,go_sem,z0,z1]) rfl HB5.out HL5.out
end Go.Proofs.YtkglnoimbekhhaaGreat
