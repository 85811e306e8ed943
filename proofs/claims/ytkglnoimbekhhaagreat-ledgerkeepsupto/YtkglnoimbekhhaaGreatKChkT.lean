import Derived.Test.YtkglnoimbekhhaaGreatKZy
import Derived.Test.YtkglnoimbekhhaaGreatKZn
import Derived.Test.YtkglnoimbekhhaaGreatKZk
namespace Go.Proofs.YtkglnoimbekhhaaGreat
open Go.ChangeShapes Go.WideShapes Go.ChangeAt Go.RowKit
set_option linter.unusedVariables false
set_option linter.unusedSimpArgs false
set_option maxRecDepth 100000
set_option maxHeartbeats 2000000
theorem meansF_no {x:Va} {e:Int} (h:codeF (.nd 3 0 0 ⟨#[]⟩ x.code) (x.types.take 1) = .no e):meansF x = false:=by unfold meansF;rw [h]
theorem meansF_ok {x:Va} {f:Bool} {ts:List Ty} (h:codeF (.nd 3 0 0 ⟨#[]⟩ x.code) (x.types.take 1) = .ok f ts):meansF x = (leadsF f ts (tAq x.types 1) && !mintsTs x.code):=by unfold meansF;rw [h]
theorem good_small {ts:List Ty} (h:ts.all gYq = true):∀ t ∈ ts,t.size <= 50000000:=fun t ht=>by
 have:=(goodTy_formed (List.all_eq_true.1 h t ht)).2.1
 omega
theorem means_any {w:World} {x:Va} {v:Value} (hV:LiesV (fun _=>True) w x v) (h2:x.types.length = 2) (hz:x.size <= 2000000) (W:World) (hW:w.grownBy W none) :
 Calls Tryz.prog 32 #[v] W fun e w'=>e = .returned (.bool (meansF x)) /\ W.grownBy w' none:=by
 obtain ⟨aa,ac,ta,tc,na,nc,VT,VN,rfl,⟨hk,htk⟩,hT,hN⟩:=hV.codeCap
 have hve:=vsize_eq x
 have hR:RowC w x.types (.slice ta x.types.length tc):=⟨ta,tc,VT,rfl,htk,hT⟩
 have hTK:=hR.take 1 tc (by omega) (by omega)
 obtain ⟨b,o,t0,a0,l0,k0,rfl,x0a,x0b,hA0⟩:=hR.at 0 (by omega)
 obtain ⟨_,_,t1,a1,l1,k1,eb,x1a,x1b,hA1⟩:=hR.at 1 (by omega)
 simp only [Option.some.injEq,Addr.mk.injEq,and_true] at eb
 obtain ⟨rfl,rfl⟩:=eb
 simp only [Nat.reduceMul,Nat.reduceAdd,Nat.add_zero,Nat.mul_zero,Nat.zero_add] at x0a x0b x1a x1b
 have hLN:Lies (fun _=>True) w (.nd 3 0 0 ⟨#[]⟩ x.code) (nodeV 3 0 0 ⟨#[]⟩ na x.code.length nc):=.mk (hk:=hk) VN hN.1 (Nat.zero_le _) ⟨by decide,by decide⟩ ⟨by decide,by decide⟩ ⟨by decide,by decide⟩ hN.2.1 hN.2.2
 have hsz:(Tr.nd 3 0 0 ⟨#[]⟩ x.code).size <= 4611686018427387903:=by rw [Tr.size];omega
 have hlen:x.code.length <= 2000000:=by have:=length_le_sizes x.code;omega
 have hlc:2 <= tc:=by omega
 have hlc2:(1:Int) <= (tc:Int):=by omega
 rw [h2]
 have hgW:=gTq (gBq (w:=W) (.cells #[.int .i64 x.k,.int .i64 x.n,.int .i64 x.a,.string x.s,.slice aa x.args.length ac,.slice (some ⟨b,o,none⟩) 2 tc,.slice na x.code.length nc] 28)) (gBq (.cells #[.int .i64 3,.int .i64 0,.int .i64 0,.string ⟨#[]⟩,.slice na x.code.length nc] 48))
 have hbV:=rNw W (.cells #[.int .i64 x.k,.int .i64 x.n,.int .i64 x.a,.string x.s,.slice aa x.args.length ac,.slice (some ⟨b,o,none⟩) 2 tc,.slice na x.code.length nc] 28) (.cells #[.int .i64 3,.int .i64 0,.int .i64 0,.string ⟨#[]⟩,.slice na x.code.length nc] 48)
 have hbN:=heap_alloc_new (W.alloc (.cells #[.int .i64 x.k,.int .i64 x.n,.int .i64 x.a,.string x.s,.slice aa x.args.length ac,.slice (some ⟨b,o,none⟩) 2 tc,.slice na x.code.length nc] 28)) (.cells #[.int .i64 3,.int .i64 0,.int .i64 0,.string ⟨#[]⟩,.slice na x.code.length nc] 48)
 rw [World.size_alloc] at hbN
 have HC:=jh (fun W2 (h:((W.alloc (.cells #[.int .i64 x.k,.int .i64 x.n,.int .i64 x.a,.string x.s,.slice aa x.args.length ac,.slice (some ⟨b,o,none⟩) 2 tc,.slice na x.code.length nc] 28)).alloc (.cells #[.int .i64 3,.int .i64 0,.int .i64 0,.string ⟨#[]⟩,.slice na x.code.length nc] 48)).grownBy W2 none)=>code_all (hLN.same (sAl (gTq (gTq hW hgW) h))) (hTK.grow (gTq (gTq hW hgW) h)) hsz)
 have HM:=jh (fun W2 (h:((W.alloc (.cells #[.int .i64 x.k,.int .i64 x.n,.int .i64 x.a,.string x.s,.slice aa x.args.length ac,.slice (some ⟨b,o,none⟩) 2 tc,.slice na x.code.length nc] 28)).alloc (.cells #[.int .i64 3,.int .i64 0,.int .i64 0,.string ⟨#[]⟩,.slice na x.code.length nc] 48)).grownBy W2 none)=>mints_any 2000000 (nc:=nc) (hN.same (sAl (gTq (gTq hW hgW) h))) (by omega))
 have HA1:=jh (hA1.same (sAl (gTq hW hgW)))
 have X1a:=jh (kNq (gTq hW hgW) x1a)
 have X1b:=jh (kNq (gTq hW hgW) x1b)
 have HV:=jh hbV
 have HN:=jh hbN
 have HG:=jh hgW
 have HNO:=jh (fun e=>meansF_no (x:=x) (e:=e))
 have HOK:=jh (fun f ts=>meansF_ok (x:=x) (f:=f) (ts:=ts))
 have HGD:=jh (fun f ts (h:codeF (.nd 3 0 0 ⟨#[]⟩ x.code) (x.types.take 1) = .ok f ts)=>good_small (code_good h).2.1)
 clear hV hR hTK hA0 hA1 hLN hT hN hbV hbN hgW hW hve x0a x0b x1a x1b hsz hz h2 hk htk
 generalize codeF (.nd 3 0 0 ⟨#[]⟩ x.code) (x.types.take 1) = cf at *
 generalize meansF x = r at *
 generalize tAq x.types 1 = T1 at *
 generalize mintsTs x.code = mt at *
 unfold nodeV at HC
 unfold vaV
 go_enter Tryz.func32,Tryz.ntmps32
 go_upto_region 2 with (fail)
 generalize (W.alloc _).alloc _ = W2 at *
 have K:=fun (w':World) (h:W2.grownBy w' none)=>And.intro (box7 (kBq HV.out h)) (And.intro (box5 (kBq HN.out h)) (And.intro (kNq h X1a.out) (kNq h X1b.out)))
 have hS0:W2.grownBy W2 none:=gRf _ _
 go_cut [4,5] (fun pv qv wx=>LedCut cf W2 pv qv wx)
 case first =>
  go_region_held3 (fun w'=>W2.grownBy w' none) (first | with_reducible assumption | with_reducible exact gDr (gRf _ _) | with_reducible exact grow_set2N (by assumption) (by assumption) | with_reducible exact gTq (by assumption) (gBq _) | with_reducible exact gDr (gBq _)) (first
   | (go_at_call 28;with_reducible refine (HC.out (W2.alloc (.cells #[.slice none 0 0,.bool false] 62)).drew (gDr (gBq _))).mono ?_;rintro e w2 hp;obtain ⟨a,l,c,f,er,rfl,hg,his⟩:=hp.is;have hb2:=kBq (heap_alloc_new W2 (.cells #[.slice none 0 0,.bool false] 62)) (undrew hg);have q0:=c0q hb2;have q1:=c1q hb2;have q2:=free2_of hb2;have HB2:=jh hb2;have HIS:=jh his;have HG2:=jh (gTq (gDr (gBq _)) hg);have hS2:=HG2.out;have hH2:W2.heap.size <= W2.heap.size:=Nat.le_refl _;clear hp hg his hb2)
   | (go_at_call 28;with_reducible refine (HC.out W2.drew (gDr (gRf _ _))).mono ?_;rintro e w2 hp;obtain ⟨a,l,c,f,er,rfl,hg,his⟩:=hp.is;have HIS:=jh his;have HG2:=jh (gTq (gDr (gRf _ _)) hg);have hS2:=HG2.out;clear hp hg his))
  all_goals
   go_wp2_with fail
   go_meet
   first
   | with_reducible exact ledCut_one HG2.out HIS.out
   | exact ledCut_two HG2.out HIS.out hH2 HB2.out
 case rest =>
 obtain ⟨bp,a,l,c,f,er,rfl,rfl,hb,hg,_,hcase⟩:=hcut
 have HGC:=jh hg
 have HBC:=jh hb
 have K2:=fun (w':World) (h:wc.grownBy w' none)=>And.intro (K w' (gTq HGC.out h)) (And.intro (c0q (kBq HBC.out h)) (c1q (kBq HBC.out h)))
 clear K hS0 hg hb HC
 have hS1:wc.grownBy wc none:=gRf _ _
 rcases hcase with ⟨h,hne,rfl,rfl,rfl,rfl⟩ | ⟨ts,h,rfl,hr⟩
 ·have hne1:(er == 0) = false:=by simpa using hne
  have hne2:¬ er = 0:=hne
  have HQ:=jh (HNO.out _ h)
  clear h HOK HNO HGD hne
  go_wp2_with fail
  refine wp_region_held_drew (S:=fun w'=>wc.grownBy w' none) (by kernel_rfl) ?_ (fun hHeld=>?_)
  ·exact gDr (gRf _ _)
  refine rGq 0 17 ?_
  refine rGq 1 18 ?_
  refine rGq 2 19 ?_
  refine rNq 3 20 ?_
  refine rNq 4 21 ?_
  refine rNq 5 22 ?_
  refine rNq 6 23 ?_
  refine rNq 7 24 ?_
  refine rNq 8 25 ?_
  refine rGq 9 26 ?_
  refine rGq 10 27 ?_
  refine rNq 11 28 ?_
  refine rNq 12 29 ?_
  refine rNq 13 30 ?_
  refine rNq 14 31 ?_
  refine rGq 15 32 ?_
  refine rGq 16 2 ?_
  refine wpAnyH_done (by kernel_rfl) ?_ _
  clear K2
  go_wp2_with fail
  go_ret
  exact Lf.retb HQ.out.symm (gTq HG.out (gTq HGC.out hHeld))
 ·have HQ:=jh (HOK.out _ _ h)
  have HLD:=jh (fun w' (hw:wc.grownBy w' none)=>leads_any (f:=f) (hr.grow hw) (HA1.out.same (sAl (gTq HGC.out hw))) (HGD.out _ _ h) w' (gRf _ _))
  have HMT:=jh (fun w' (hw:wc.grownBy w' none)=>HM.out w' (gTq HGC.out hw))
  clear h HOK HNO HGD hr HM
  generalize leadsF f ts T1 = lb at *
  unfold tyV at HLD
  cases lb with
  | false =>
   go_wp2_with fail
   refine wp_region_held_drew (S:=fun w'=>wc.grownBy w' none) (by kernel_rfl) ?_ (fun hHeld=>?_)
   ·exact gDr (gRf _ _)
   refine rGq 0 17 ?_
   refine rGq 1 18 ?_
   refine rGq 2 19 ?_
   refine rGq 3 20 ?_
   refine rGq 4 21 ?_
   refine rGq 5 22 ?_
   refine rGq 6 23 ?_
   refine rGq 7 24 ?_
   refine wpAnyH_ready (rs:=[8]) (by kernel_rfl) (by simp) ?_
   refine AllReadyH.cons rfl (fun K hK=>?_) AllReadyH.nil
   go_simp
   go_at_call 30
   refine (HLD.out _ hHeld).mono ?_;rintro e wt0 ⟨rfl,hg⟩
   have hH9:=gTq hHeld hg
   refine hK.out _ _ hH9 (fun _=>?_)
   clear hK K hHeld hg
   have hHeld:=hH9
   clear hH9
   refine rGq 9 26 ?_
   refine rGq 10 27 ?_
   refine rNq 11 28 ?_
   refine rNq 12 29 ?_
   refine rNq 13 30 ?_
   refine rNq 14 31 ?_
   refine rGq 15 32 ?_
   refine rGq 16 2 ?_
   refine wpAnyH_done (by kernel_rfl) ?_ _
   clear K2
   go_wp2_with fail
   go_ret
   exact Lf.retb HQ.out.symm (gTq HG.out (gTq HGC.out hHeld))
  | true =>
   go_wp2_with fail
   go_region_held3 (fun w'=>wc.grownBy w' none) (first | with_reducible assumption | with_reducible exact gDr (gRf _ _)) (first
    | (go_at_call 30;with_reducible refine (HLD.out _ (by assumption)).mono ?_;rintro e w5 ⟨rfl,hg⟩;have hS5:=gTq (by assumption) hg)
    | (go_at_call 49;with_reducible refine (HMT.out _ (by assumption)).mono ?_;rintro e w6 ⟨rfl,hg⟩;have hS6:=gTq (by assumption) hg))
   all_goals
    go_wp2_with fail
    go_ret
    exact Lf.retb (by rw [HQ.out];rfl) (gTq HG.out (gTq HGC.out (by assumption)))
end Go.Proofs.YtkglnoimbekhhaaGreat
