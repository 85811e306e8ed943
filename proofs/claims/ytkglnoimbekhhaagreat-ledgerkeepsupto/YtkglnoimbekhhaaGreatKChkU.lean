import Derived.Test.YtkglnoimbekhhaaGreatKChkT
namespace Go.Proofs.YtkglnoimbekhhaaGreat
open Go.ChangeShapes Go.WideShapes Go.ChangeAt Go.RowKit
set_option linter.unusedVariables false
set_option linter.unusedSimpArgs false
set_option maxRecDepth 100000
set_option maxHeartbeats 4000000
theorem scriptF_p {P S:Ty} {n:Tr} (h:keptT P = false):scriptF P S n = 5:=by unfold scriptF;rw [if_neg];simp [h]
theorem scriptF_s {P S:Ty} {n:Tr} (h:keptT S = false):scriptF P S n = 5:=by unfold scriptF;rw [if_neg];simp [h]
theorem scriptF_no {P S:Ty} {n:Tr} {e:Int} (hp:keptT P = true) (hs:keptT S = true) (h:codeF n [.nd 11 [P,S]] = .no e):scriptF P S n = e:=by unfold scriptF;rw [if_pos ⟨hp,hs⟩,h]
theorem scriptF_ok {P S:Ty} {n:Tr} {f:Bool} {ts:List Ty} (hp:keptT P = true) (hs:keptT S = true) (h:codeF n [.nd 11 [P,S]] = .ok f ts):scriptF P S n = if leadsF f ts (opsTy S) = true then 0 else 5:=by unfold scriptF;rw [if_pos ⟨hp,hs⟩,h]
theorem script_any {w:World} {P S:Ty} {n:Tr} {vp vs:Value} {na:Option Addr} {nl nc:Nat} (hP:LiesT (fun _=>True) w P vp) (hS:LiesT (fun _=>True) w S vs) (hN:Lies (fun _=>True) w n (nodeV 3 0 0 ⟨#[]⟩ na nl nc)) (hz:n.size <= 3000000) (W:World) (hW:w.grownBy W none) :
 Calls Tryz.prog 18 #[vp,vs,nodeV 3 0 0 ⟨#[]⟩ na nl nc] W fun e w'=>e = .returned (.int .i64 (scriptF P S n)) /\ W.grownBy w' none:=by
 obtain ⟨pa,pc,VP,rfl,ip,hRP⟩:=hP.inv
 obtain ⟨sa,sc,VS,rfl,is,hRS⟩:=hS.inv
 have hgW:=gTq (gTq (gBq (w:=W) (.cells #[.int .i64 P.t,.slice pa P.args.length pc] 24)) (gBq (.cells #[.int .i64 S.t,.slice sa S.args.length sc] 24))) (gBq (.cells #[.int .i64 3,.int .i64 0,.int .i64 0,.string ⟨#[]⟩,.slice na nl nc] 48))
 have hb0:=kBq (rNw W (.cells #[.int .i64 P.t,.slice pa P.args.length pc] 24) (.cells #[.int .i64 S.t,.slice sa S.args.length sc] 24)) (gBq (.cells #[.int .i64 3,.int .i64 0,.int .i64 0,.string ⟨#[]⟩,.slice na nl nc] 48))
 have hb1:=kBq (new_two2 W (.cells #[.int .i64 P.t,.slice pa P.args.length pc] 24) (.cells #[.int .i64 S.t,.slice sa S.args.length sc] 24)) (gBq (.cells #[.int .i64 3,.int .i64 0,.int .i64 0,.string ⟨#[]⟩,.slice na nl nc] 48))
 have hb2:=heap_alloc_new ((W.alloc (.cells #[.int .i64 P.t,.slice pa P.args.length pc] 24)).alloc (.cells #[.int .i64 S.t,.slice sa S.args.length sc] 24)) (.cells #[.int .i64 3,.int .i64 0,.int .i64 0,.string ⟨#[]⟩,.slice na nl nc] 48)
 rw [World.size_alloc,World.size_alloc] at hb2
 have HB0:=jh hb0
 have HB1:=jh hb1
 have HB9:=jh hb2
 have HG:=jh hgW
 have HP:=jh (fun W3 (h:(((W.alloc (.cells #[.int .i64 P.t,.slice pa P.args.length pc] 24)).alloc (.cells #[.int .i64 S.t,.slice sa S.args.length sc] 24)).alloc (.cells #[.int .i64 3,.int .i64 0,.int .i64 0,.string ⟨#[]⟩,.slice na nl nc] 48)).grownBy W3 none)=>hP.same (sAl (gTq (gTq hW hgW) h)))
 have HS:=jh (fun W3 (h:(((W.alloc (.cells #[.int .i64 P.t,.slice pa P.args.length pc] 24)).alloc (.cells #[.int .i64 S.t,.slice sa S.args.length sc] 24)).alloc (.cells #[.int .i64 3,.int .i64 0,.int .i64 0,.string ⟨#[]⟩,.slice na nl nc] 48)).grownBy W3 none)=>hS.same (sAl (gTq (gTq hW hgW) h)))
 have HC:=jh (fun W3 a l c (h:(((W.alloc (.cells #[.int .i64 P.t,.slice pa P.args.length pc] 24)).alloc (.cells #[.int .i64 S.t,.slice sa S.args.length sc] 24)).alloc (.cells #[.int .i64 3,.int .i64 0,.int .i64 0,.string ⟨#[]⟩,.slice na nl nc] 48)).grownBy W3 none) (hr:RowC W3 [.nd 11 [P,S]] (.slice a l c))=>code_all (hN.same (sAl (gTq (gTq hW hgW) h))) hr (by omega))
 have HK1:=jh (fun W3 (h:(((W.alloc (.cells #[.int .i64 P.t,.slice pa P.args.length pc] 24)).alloc (.cells #[.int .i64 S.t,.slice sa S.args.length sc] 24)).alloc (.cells #[.int .i64 3,.int .i64 0,.int .i64 0,.string ⟨#[]⟩,.slice na nl nc] 48)).grownBy W3 none)=>isKept_any (HP.out W3 h) W3 (gRf _ _))
 have HK2:=jh (fun W3 (h:(((W.alloc (.cells #[.int .i64 P.t,.slice pa P.args.length pc] 24)).alloc (.cells #[.int .i64 S.t,.slice sa S.args.length sc] 24)).alloc (.cells #[.int .i64 3,.int .i64 0,.int .i64 0,.string ⟨#[]⟩,.slice na nl nc] 48)).grownBy W3 none)=>isKept_any (HS.out W3 h) W3 (gRf _ _))
 have HF1:=jh (fun h=>scriptF_p (P:=P) (S:=S) (n:=n) h)
 have HF2:=jh (fun h=>scriptF_s (P:=P) (S:=S) (n:=n) h)
 have HF3:=jh (fun e hp hs h=>scriptF_no (P:=P) (S:=S) (n:=n) (e:=e) hp hs h)
 have HF4:=jh (fun f ts hp hs h=>scriptF_ok (P:=P) (S:=S) (n:=n) (f:=f) (ts:=ts) hp hs h)
 have HGD:=jh (fun f ts (h:codeF n [.nd 11 [P,S]] = .ok f ts)=>good_small (code_good h).2.1)
 clear hP hS hN hRP hRS hb0 hb1 hb2 hgW hW hz ip is
 generalize scriptF P S n = r at *
 generalize codeF n [.nd 11 [P,S]] = cf at *
 generalize keptT P = k1 at *
 generalize keptT S = k2 at *
 unfold tyV nodeV at *
 go_enter Tryz.func18,Tryz.ntmps18
 go_upto_region 1 with (fail)
 generalize ((W.alloc _).alloc _).alloc _ = W1 at *
 have K:=fun (w':World) (h:W1.grownBy w' none)=>And.intro (c0q (kBq HB0.out h)) (And.intro (c1q (kBq HB0.out h)) (And.intro (c0q (kBq HB1.out h)) (And.intro (c1q (kBq HB1.out h)) (box5 (kBq HB9.out h)))))
 have hS0:W1.grownBy W1 none:=gRf _ _
 cases k1 with
 | false =>
  go_wp2_with ((go_at_call 27;with_reducible refine (HK1.out _ (by assumption)).mono ?_;rintro e w1 ⟨rfl,hg⟩;have hS1:=gTq (by assumption) hg;clear hg))
  go_ret
  exact Lf.reti (HF1.out (by simp)).symm (gTq HG.out (by assumption))
 | true =>
 cases k2 with
 | false =>
  go_wp2_with ((go_at_call 27;(first | with_reducible refine (HK1.out _ (by assumption)).mono ?_ | with_reducible refine (HK2.out _ (by assumption)).mono ?_);rintro e w1 ⟨rfl,hg⟩;have hS1:=gTq (by assumption) hg;clear hg))
  go_ret
  exact Lf.reti (HF2.out (by simp)).symm (gTq HG.out (by assumption))
 | true =>
 replace HF3:=jh (fun e h=>HF3.out e (by simp) (by simp) h)
 replace HF4:=jh (fun f ts h=>HF4.out f ts (by simp) (by simp) h)
 go_upto_region 3 with ((go_at_call 27;(first | with_reducible refine (HK1.out _ (by assumption)).mono ?_ | with_reducible refine (HK2.out _ (by assumption)).mono ?_);rintro e w1 ⟨rfl,hg⟩;have hS1:=gTq (by assumption) hg;clear hg))
 generalize w1 = W2 at *
 have HGW:=jh (gTq HG.out hS1)
 replace HP:=jh (fun w' (h:W2.grownBy w' none)=>HP.out w' (gTq hS1 h))
 replace HS:=jh (fun w' (h:W2.grownBy w' none)=>HS.out w' (gTq hS1 h))
 replace HC:=jh (fun w' a l c (h:W2.grownBy w' none) hr=>HC.out w' a l c (gTq hS1 h) hr)
 have K2:=fun (w':World) (h:W2.grownBy w' none)=>K w' (gTq hS1 h)
 clear K HK1 HK2 HG HF1 HF2 hS0 hS1
 have hS0:W2.grownBy W2 none:=gRf _ _
 go_cut [7,8] (fun pv qv wx=>LedCut cf W2 pv qv wx)
 case first =>
  go_region_held3 (fun w'=>W2.grownBy w' none) (first | with_reducible assumption | with_reducible exact gDr (gRf _ _) | with_reducible exact grow_set2N (by assumption) (by assumption) | with_reducible exact gTq (by assumption) (gBq _) | with_reducible exact gDr (gBq _) | with_reducible exact gDr (gTq (gBq _) (gBq _)) | with_reducible exact gTq (by assumption) (gTq (gBq _) (gBq _))) (first
   | (go_at_call 28;(with_reducible refine (HC.out _ _ _ _ (gTq HG10.out (gBq _)) (RowC.one (heap_alloc_new w10 _) (HU.out.same (sAl (gBq _))))).mono ?_);rintro e w2 hp;obtain ⟨a,l,c,f,er,rfl,hg,his⟩:=hp.is;have hb2:=kBq HZ.out (gTq (gBq _) hg);have q0:=c0q hb2;have q1:=c1q hb2;have q2:=free2_of hb2;have HB2:=jh hb2;have HIS:=jh his;have HG2:=jh (gTq (gTq HG10.out (gBq _)) hg);have hS2:=HG2.out;clear hp hg his hb2)
   | (go_at_call 28;(with_reducible refine (HC.out _ _ _ _ (gTq HG10.out (gTq (gBq _) (gBq _))) (RowC.one (new_two2 w10 (.cells #[.slice none 0 0,.bool false] 62) _) (HU.out.same (sAl (gTq (gBq _) (gBq _)))))).mono ?_);rintro e w2 hp;obtain ⟨a,l,c,f,er,rfl,hg,his⟩:=hp.is;have hb2:=kBq (rNw w10 (.cells #[.slice none 0 0,.bool false] 62) _) hg;have q0:=c0q hb2;have q1:=c1q hb2;have q2:=free2_of hb2;have HB2:=jh hb2;have HIS:=jh his;have HG2:=jh (gTq (gTq HG10.out (gTq (gBq _) (gBq _))) hg);have hS2:=HG2.out;have hH2:W2.heap.size <= w10.heap.size:=HG10.out.size;clear hp hg his hb2)
   | (go_at_call 28;(with_reducible refine (HC.out _ _ _ _ (gTq HG10.out (gTq (gBq _) (gBq _))) (RowC.one (rNw w10 _ (.cells #[.slice none 0 0,.bool false] 62)) (HU.out.same (sAl (gTq (gBq _) (gBq _)))))).mono ?_);rintro e w2 hp;obtain ⟨a,l,c,f,er,rfl,hg,his⟩:=hp.is;have hb2:=kBq (new_two2 w10 _ (.cells #[.slice none 0 0,.bool false] 62)) hg;have q0:=c0q hb2;have q1:=c1q hb2;have q2:=free2_of hb2;have HB2:=jh hb2;have HIS:=jh his;have HG2:=jh (gTq (gTq HG10.out (gTq (gBq _) (gBq _))) hg);have hS2:=HG2.out;have hH2:W2.heap.size <= w10.heap.size + 1:=Nat.le_succ_of_le HG10.out.size;clear hp hg his hb2)
   | (go_at_call 28;(with_reducible refine (HC.out _ _ _ _ (gTq HG10.out (gBq _)) (RowC.one (heap_alloc_new w10 _) (HU.out.same (sAl (gBq _))))).mono ?_);rintro e w2 hp;obtain ⟨a,l,c,f,er,rfl,hg,his⟩:=hp.is;have HIS:=jh his;have HG2:=jh (gTq (gTq HG10.out (gBq _)) hg);have hS2:=HG2.out;clear hp hg his)
   | (go_at_call 29;(with_reducible refine (of_any 11 (some ⟨W2.heap.size,0,none⟩) 2 2 (W2.alloc (.cells #[.int .i64 P.t,.slice pa P.args.length pc,.int .i64 S.t,.slice sa S.args.length sc] 24)).drew).mono ?_);rintro e w10 ⟨rfl,hg⟩;have HU:=jh (LiesT.oq (t:=11) ⟨by decide,by decide⟩ (RowC.grow (RowC.two (heap_alloc_new W2 (.cells #[.int .i64 P.t,.slice pa P.args.length pc,.int .i64 S.t,.slice sa S.args.length sc] 24)) (HP.out _ (gBq _)) (HS.out _ (gBq _))) (undrew hg)));have HG10:=jh (gTq (gBq _) (undrew hg));have hS10:=HG10.out;clear hg)
   | (go_at_call 29;(with_reducible refine (of_any 11 (some ⟨W2.heap.size + 1,0,none⟩) 2 2 ((W2.alloc (.cells #[.slice none 0 0,.bool false] 62)).alloc (.cells #[.int .i64 P.t,.slice pa P.args.length pc,.int .i64 S.t,.slice sa S.args.length sc] 24)).drew).mono ?_);rintro e w10 ⟨rfl,hg⟩;have HU:=jh (LiesT.oq (t:=11) ⟨by decide,by decide⟩ (RowC.grow (RowC.two (new_two2 W2 (.cells #[.slice none 0 0,.bool false] 62) (.cells #[.int .i64 P.t,.slice pa P.args.length pc,.int .i64 S.t,.slice sa S.args.length sc] 24)) (HP.out _ (gTq (gBq _) (gBq _))) (HS.out _ (gTq (gBq _) (gBq _)))) (undrew hg)));have HG10:=jh (gTq (gTq (gBq _) (gBq _)) (undrew hg));have hS10:=HG10.out;have HZ:=jh (kBq (rNw W2 (.cells #[.slice none 0 0,.bool false] 62) (.cells #[.int .i64 P.t,.slice pa P.args.length pc,.int .i64 S.t,.slice sa S.args.length sc] 24)) (undrew hg));have hH2:W2.heap.size <= W2.heap.size:=Nat.le_refl _;clear hg)
   | (go_at_call 29;(with_reducible refine (of_any 11 (some ⟨W2.heap.size,0,none⟩) 2 2 ((W2.alloc (.cells #[.int .i64 P.t,.slice pa P.args.length pc,.int .i64 S.t,.slice sa S.args.length sc] 24)).alloc (.cells #[.slice none 0 0,.bool false] 62)).drew).mono ?_);rintro e w10 ⟨rfl,hg⟩;have HU:=jh (LiesT.oq (t:=11) ⟨by decide,by decide⟩ (RowC.grow (RowC.two (rNw W2 (.cells #[.int .i64 P.t,.slice pa P.args.length pc,.int .i64 S.t,.slice sa S.args.length sc] 24) (.cells #[.slice none 0 0,.bool false] 62)) (HP.out _ (gTq (gBq _) (gBq _))) (HS.out _ (gTq (gBq _) (gBq _)))) (undrew hg)));have HG10:=jh (gTq (gTq (gBq _) (gBq _)) (undrew hg));have hS10:=HG10.out;have HZ:=jh (kBq (new_two2 W2 (.cells #[.int .i64 P.t,.slice pa P.args.length pc,.int .i64 S.t,.slice sa S.args.length sc] 24) (.cells #[.slice none 0 0,.bool false] 62)) (undrew hg));have hH2:W2.heap.size <= W2.heap.size + 1:=Nat.le_succ _;clear hg))
  all_goals
   go_wp2_with fail
   go_meet
   first
   | with_reducible exact ledCut_one HG2.out HIS.out
   | exact ledCut_two HG2.out HIS.out hH2 HB2.out
 case rest =>
 obtain ⟨bp,a,l,c,f,er,rfl,rfl,hb,hg,_,hcase⟩:=hcut
 have HGC:=jh hg
 have HBC:=jh hb
 have K3:=fun (w':World) (h:wc.grownBy w' none)=>And.intro (K2 w' (gTq HGC.out h)) (And.intro (c0q (kBq HBC.out h)) (c1q (kBq HBC.out h)))
 clear K2 hS0 hg hb HC
 have hS1:wc.grownBy wc none:=gRf _ _
 rcases hcase with ⟨h,hne,rfl,rfl,rfl,rfl⟩ | ⟨ts,h,rfl,hr⟩
 ·have hne1:(er == 0) = false:=by simpa using hne
  have hne2:¬ er = 0:=hne
  have HQ:=jh (HF3.out _ h)
  clear h HF3 HF4 HGD hne
  go_wp2_with fail
  go_ret
  exact Lf.reti HQ.out.symm (gTq HGW.out HGC.out)
 ·have HQ:=jh (HF4.out _ _ h)
  have HLD:=jh (fun w' v (hw:wc.grownBy w' none) (hv:LiesT (fun _=>True) w' (opsTy S) v)=>leads_any (f:=f) (hr.grow hw) hv (HGD.out _ _ h) w' (gRf _ _))
  replace HS:=jh (fun w' (h:wc.grownBy w' none)=>HS.out w' (gTq HGC.out h))
  clear h HF3 HF4 HGD hr HP
  generalize leadsF f ts (opsTy S) = lb at *
  go_wp2_with fail
  go_region_held3 (fun w'=>wc.grownBy w' none) (first | with_reducible assumption | with_reducible exact gDr (gRf _ _) | with_reducible exact gTq (by assumption) (gBq _)) (first
   | (go_at_call 30;(with_reducible refine (HLD.out _ _ (by assumption) HU3.out).mono ?_);rintro e w23 ⟨rfl,hg⟩;have hS23:=gTq HG22.out hg;clear hg)
   | (go_at_call 29;(with_reducible refine (of_any 11 _ _ _ (w21.alloc _)).mono ?_);rintro e w22 ⟨rfl,hg⟩;have HU3:=jh (LiesT.oq (t:=11) ⟨by decide,by decide⟩ (RowC.grow (RowC.two (heap_alloc_new w21 _) (HU2.out.same (sAl (gBq _))) (HS.out _ (gTq HG21.out (gBq _)))) hg));have HG22:=jh (gTq (gTq HG21.out (gBq _)) hg);have hS22:=HG22.out;clear hg)
   | (go_at_call 29;(with_reducible refine (of_any 10 _ _ _ (w20.alloc _)).mono ?_);rintro e w21 ⟨rfl,hg⟩;have HU2:=jh (LiesT.oq (t:=10) ⟨by decide,by decide⟩ (RowC.grow (RowC.one (heap_alloc_new w20 _) (HU1.out.same (sAl (gBq _)))) hg));have HG21:=jh (gTq (gTq HG20.out (gBq _)) hg);have hS21:=HG21.out;clear hg)
   | (go_at_call 29;(with_reducible refine (of_any 8 none 0 0 _).mono ?_);rintro e w20 ⟨rfl,hg⟩;have HU1:Hid (LiesT (fun _=>True) w20 (.nd 8 []) (tyV 8 none 0 0)):=LiesT.oq ⟨by decide,by decide⟩ (RowC.nil _ none 0);have HG20:=jh (undrew hg);have hS20:=HG20.out;clear hg))
  all_goals
   cases lb
   all_goals
    go_wp2_with fail
    go_ret
    exact Lf.reti (by rw [HQ.out];rfl) (gTq HGW.out (gTq HGC.out (by assumption)))
end Go.Proofs.YtkglnoimbekhhaaGreat
