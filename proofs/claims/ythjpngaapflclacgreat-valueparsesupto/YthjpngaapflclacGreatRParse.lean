import Derived.Test.YthjpngaapflclacGreatRParseF
import Derived.Test.YthjpngaapflclacGreatRGuess
import Derived.Test.YthjpngaapflclacGreatRData
import Derived.Test.YthjpngaapflclacGreatRefGA
namespace Go.Proofs.YthjpngaapflclacGreat
set_option maxRecDepth 100000
set_option maxHeartbeats 4000000
open Go.ChangeShapes Go.WideShapes Go.ChangeAt Go.RowKit
set_option linter.unusedVariables false
def RParseP (T : Ty) (t : Tr) (W : World) (e : Ending) (w' : World) : Prop :=
 W.grownBy w' none /\ ((∃ x v, parseF T t = some x /\ e = .returned (.tuple #[v, .int .i64 0]) /\ LiesV (W.heap.size <= ·) w' x v) \/ (parseF T t = none /\ e = .returned (.tuple #[vaV 0 0 0 ⟨#[]⟩ none 0 0 none 0 0 none 0 0, .int .i64 1])))
theorem new_3of3P (w : World) (o1 o2 o3 : Obj) : (((w.alloc o1).alloc o2).alloc o3).heap[w.heap.size + 1 + 1]? = some o3 := by
 have h := heap_alloc_new ((w.alloc o1).alloc o2) o3
 rwa [show ((w.alloc o1).alloc o2).heap.size = w.heap.size + 1 + 1 from by simp] at h
theorem rparse_any {W : World} {T : Ty} {t : Tr} {tv nv : Value} (hT : LiesT (fun _ => True) W T tv) (hL : Lies (fun _ => True) W t nv) (hz : t.size <= 1048576) : Calls Tryz.prog 12 #[tv, nv] W (RParseP T t W) := by
 have HGT : Hid (∀ W2, W.grownBy W2 none -> Calls Tryz.prog 29 #[tv] W2 fun e w' => e = .returned (.bool (goodTy T)) /\ W2.grownBy w' none) := fun W2 h => rgood_any hT W2 h
 have HGN : Hid (∀ W2, W.grownBy W2 none -> Calls Tryz.prog 22 #[nv] W2 fun e w' => e = .returned (.int .i64 (goodF t)) /\ W2.grownBy w' none) := fun W2 h => rgoodN_any hL hz W2 h
 have HTL := jh hT
 have HLL := jh hL
 obtain ⟨a, c, VT, rfl, it, hRT⟩ := hT.inv
 obtain ⟨nk, nn, np, ns, na, nl, nc, rfl⟩ := hL.nodeV
 have HA0 := jh (heap_keep (o := .cells #[.int .i64 0, .int .i64 0, .int .i64 0, .string ⟨#[]⟩, .slice none 0 0, .slice none 0 0, .slice none 0 0] 28) (res_new W (.cells #[.int .i64 T.t, .slice a T.args.length c] 24) (.cells #[.int .i64 nk, .int .i64 nn, .int .i64 np, .string ns, .slice na nl nc] 30)))
 have HB0 := jh (heap_keep (o := .cells #[.int .i64 0, .int .i64 0, .int .i64 0, .string ⟨#[]⟩, .slice none 0 0, .slice none 0 0, .slice none 0 0] 28) (rnew_two W (.cells #[.int .i64 T.t, .slice a T.args.length c] 24) (.cells #[.int .i64 nk, .int .i64 nn, .int .i64 np, .string ns, .slice na nl nc] 30)))
 have HC0 := jh (new_3of3P W (.cells #[.int .i64 T.t, .slice a T.args.length c] 24) (.cells #[.int .i64 nk, .int .i64 nn, .int .i64 np, .string ns, .slice na nl nc] 30) (.cells #[.int .i64 0, .int .i64 0, .int .i64 0, .string ⟨#[]⟩, .slice none 0 0, .slice none 0 0, .slice none 0 0] 28))
 have HG0 := jh (Lf.gbt (Lf.gb (w := W) (.cells #[.int .i64 T.t, .slice a T.args.length c] 24)) (Lf.gbt (Lf.gb (.cells #[.int .i64 nk, .int .i64 nn, .int .i64 np, .string ns, .slice na nl nc] 30)) (Lf.gb (.cells #[.int .i64 0, .int .i64 0, .int .i64 0, .string ⟨#[]⟩, .slice none 0 0, .slice none 0 0, .slice none 0 0] 28))))
 clear hL hz hRT it
 have hGU : goodTy T = true -> goodF t = 0 -> ∀ W2, W.grownBy W2 none -> Calls Tryz.prog 30 #[tyV T.t a T.args.length c, nodeV nk nn np ns na nl nc] W2 (GuessPost (guessF t T) W2) := fun h1 h2 W2 h => rguess_any HLL.out T _ 1 1 W2 (goodTy_formed h1).1 (goodF_zero h2).1 HTL.out h (goodF_zero h2).2
 clear hT
 unfold tyV nodeV at *
 by_cases h1 : goodTy T = true
 case neg =>
  have h1' : goodTy T = false := by simpa using h1
  rw [h1'] at HGT
  have HPN := jh (parse_bad (T := T) (t := t) (fun h => h1 h.1))
  clear h1 h1' hGU HGN
  go_enter Tryz.func12, Tryz.ntmps12
  go_wp2_with fail
  refine (HGT.out _ HG0.out).mono ?_; rintro e w1 ⟨rfl, hg⟩
  have HG1 := jh (Lf.gbt HG0.out hg)
  have HA1 := jh (keepB HA0.out hg)
  have HB1 := jh (keepB HB0.out hg)
  have HC1 := jh (keepB HC0.out hg)
  obtain ⟨r0, r1, r2, r3, r4, r5, r6⟩ := box7 HC1.out
  obtain ⟨y0, y1, y2, y3, y4, y5, y6⟩ := box7f HC1.out
  obtain ⟨m0, m1, m2, m3, m4⟩ := box5 HB1.out
  have q0 := cell0_of HA1.out
  have q1 := cell1_of HA1.out
  clear hg
  go_wp2_with fail
  change bodyPost _ _ _ _ _ (rset7 w1 (W.heap.size + 1 + 1) (.int .i64 0) (.int .i64 0) (.int .i64 0) (.string ⟨#[]⟩) (.slice none 0 0) (.slice none 0 0) (.slice none 0 0))
  have hb' := rset7_block HC1.out (.int .i64 0) (.int .i64 0) (.int .i64 0) (.string ⟨#[]⟩) (.slice none 0 0) (.slice none 0 0) (.slice none 0 0)
  have hg' := grow_new HG1.out (rset7_grow w1 (W.heap.size + 1 + 1) (.int .i64 0) (.int .i64 0) (.int .i64 0) (.string ⟨#[]⟩) (.slice none 0 0) (.slice none 0 0) (.slice none 0 0)) (by omega)
  generalize rset7 w1 (W.heap.size + 1 + 1) (.int .i64 0) (.int .i64 0) (.int .i64 0) (.string ⟨#[]⟩) (.slice none 0 0) (.slice none 0 0) (.slice none 0 0) = wf at *
  obtain ⟨z0, z1, z2, z3, z4, z5, z6⟩ := box7 hb'
  exact bodyPost_ret (v := .tuple #[vaV 0 0 0 ⟨#[]⟩ none 0 0 none 0 0 none 0 0, .int .i64 1]) (by simp [results, Tryz.results12, go_sem, z0, z1, z2, z3, z4, z5, z6, vaV]) rfl ⟨hg', .inr ⟨HPN.out, rfl⟩⟩
 rw [h1] at HGT
 by_cases h2 : goodF t = 0
 case neg =>
  have HPN := jh (parse_bad (T := T) (t := t) (fun h => h2 h.2))
  generalize goodF t = gf at *
  have g1 : (gf == 0) = false := by simpa using h2
  have g2 : (gf != 0) = true := by simpa using h2
  clear h2 hGU h1
  go_enter Tryz.func12, Tryz.ntmps12
  go_wp2_with fail
  refine (HGT.out _ HG0.out).mono ?_; rintro e w1 ⟨rfl, hg⟩
  have HG1 := jh (Lf.gbt HG0.out hg)
  have HA1 := jh (keepB HA0.out hg)
  have HB1 := jh (keepB HB0.out hg)
  have HC1 := jh (keepB HC0.out hg)
  obtain ⟨r0, r1, r2, r3, r4, r5, r6⟩ := box7 HC1.out
  obtain ⟨y0, y1, y2, y3, y4, y5, y6⟩ := box7f HC1.out
  obtain ⟨m0, m1, m2, m3, m4⟩ := box5 HB1.out
  have q0 := cell0_of HA1.out
  have q1 := cell1_of HA1.out
  clear hg
  go_wp2_with fail
  refine (HGN.out _ HG1.out).mono ?_; rintro e w2 ⟨rfl, hg⟩
  have HG2 := jh (Lf.gbt HG1.out hg)
  have HA2 := jh (keepB HA1.out hg)
  have HB2 := jh (keepB HB1.out hg)
  have HC2 := jh (keepB HC1.out hg)
  clear hg r0 r1 r2 r3 r4 r5 r6 y0 y1 y2 y3 y4 y5 y6 m0 m1 m2 m3 m4 q0 q1
  obtain ⟨r0, r1, r2, r3, r4, r5, r6⟩ := box7 HC2.out
  obtain ⟨y0, y1, y2, y3, y4, y5, y6⟩ := box7f HC2.out
  obtain ⟨m0, m1, m2, m3, m4⟩ := box5 HB2.out
  have q0 := cell0_of HA2.out
  have q1 := cell1_of HA2.out
  go_wp2_with fail
  change bodyPost _ _ _ _ _ (rset7 w2 (W.heap.size + 1 + 1) (.int .i64 0) (.int .i64 0) (.int .i64 0) (.string ⟨#[]⟩) (.slice none 0 0) (.slice none 0 0) (.slice none 0 0))
  have hb' := rset7_block HC2.out (.int .i64 0) (.int .i64 0) (.int .i64 0) (.string ⟨#[]⟩) (.slice none 0 0) (.slice none 0 0) (.slice none 0 0)
  have hg' := grow_new HG2.out (rset7_grow w2 (W.heap.size + 1 + 1) (.int .i64 0) (.int .i64 0) (.int .i64 0) (.string ⟨#[]⟩) (.slice none 0 0) (.slice none 0 0) (.slice none 0 0)) (by omega)
  generalize rset7 w2 (W.heap.size + 1 + 1) (.int .i64 0) (.int .i64 0) (.int .i64 0) (.string ⟨#[]⟩) (.slice none 0 0) (.slice none 0 0) (.slice none 0 0) = wf at *
  obtain ⟨z0, z1, z2, z3, z4, z5, z6⟩ := box7 hb'
  exact bodyPost_ret (v := .tuple #[vaV 0 0 0 ⟨#[]⟩ none 0 0 none 0 0 none 0 0, .int .i64 1]) (by simp [results, Tryz.results12, go_sem, z0, z1, z2, z3, z4, z5, z6, vaV]) rfl ⟨hg', .inr ⟨HPN.out, rfl⟩⟩
 rw [h2] at HGN
 have HGU := jh (hGU h1 h2)
 have HFT : Hid (formedB 1 T = true /\ keyedF T = true) := ⟨(goodTy_formed h1).1, (goodTy_formed h1).2.2⟩
 have HY := jh (parse_guess_yes h1 h2)
 have HNO := jh (parse_guess_no h1 h2)
 have HDK : Hid (hasV (guessF t T) T = true -> DOk (guessF t T)) := fun h => dok_guess t.size t T 1 (Nat.le_refl _) (goodTy_formed h1).1 h
 have HGS : Hid ((guessF t T).size <= 300) := Nat.le_trans (guess_size t T) (goodF_zero h2).2
 clear hGU h1 h2
 go_enter Tryz.func12, Tryz.ntmps12
 go_wp2_with fail
 refine (HGT.out _ HG0.out).mono ?_; rintro e w1 ⟨rfl, hg⟩
 have HG1 := jh (Lf.gbt HG0.out hg)
 have HA1 := jh (keepB HA0.out hg)
 have HB1 := jh (keepB HB0.out hg)
 have HC1 := jh (keepB HC0.out hg)
 obtain ⟨r0, r1, r2, r3, r4, r5, r6⟩ := box7 HC1.out
 obtain ⟨y0, y1, y2, y3, y4, y5, y6⟩ := box7f HC1.out
 obtain ⟨m0, m1, m2, m3, m4⟩ := box5 HB1.out
 have q0 := cell0_of HA1.out
 have q1 := cell1_of HA1.out
 clear hg
 go_wp2_with fail
 refine (HGN.out _ HG1.out).mono ?_; rintro e w2 ⟨rfl, hg⟩
 have HG2 := jh (Lf.gbt HG1.out hg)
 have HA2 := jh (keepB HA1.out hg)
 have HB2 := jh (keepB HB1.out hg)
 have HC2 := jh (keepB HC1.out hg)
 clear hg r0 r1 r2 r3 r4 r5 r6 y0 y1 y2 y3 y4 y5 y6 m0 m1 m2 m3 m4 q0 q1
 obtain ⟨r0, r1, r2, r3, r4, r5, r6⟩ := box7 HC2.out
 obtain ⟨y0, y1, y2, y3, y4, y5, y6⟩ := box7f HC2.out
 obtain ⟨m0, m1, m2, m3, m4⟩ := box5 HB2.out
 have q0 := cell0_of HA2.out
 have q1 := cell1_of HA2.out
 go_wp2_with fail
 refine (HGU.out _ HG2.out).mono ?_; rintro e w3 ⟨hg, u, rfl, hLu⟩
 obtain ⟨gk, gn, gx, gs, ga, gl, gc, gta, gtl, gtc, gna, gnl, gnc, rfl⟩ := hLu.vaV
 have hlt2 : W.heap.size + 1 + 1 < w2.heap.size := lt_blk HC2.out
 have hgV := Lf.gbt hg (Lf.gb (.cells #[.int .i64 gk, .int .i64 gn, .int .i64 gx, .string gs, .slice ga gl gc, .slice gta gtl gtc, .slice gna gnl gnc] 28))
 have HG3 := jh (Lf.gbt HG2.out hgV)
 have hA := keepB HA2.out hgV
 have hB := keepB HB2.out hgV
 have HC3 := jh (keepB HC2.out hgV)
 have hN := heap_alloc_new w3 (.cells #[.int .i64 gk, .int .i64 gn, .int .i64 gx, .string gs, .slice ga gl gc, .slice gta gtl gtc, .slice gna gnl gnc] 28)
 have HLU := jh (hLu.same (w' := w3.alloc (.cells #[.int .i64 gk, .int .i64 gn, .int .i64 gx, .string gs, .slice ga gl gc, .slice gta gtl gtc, .slice gna gnl gnc] 28)) (fun b o _ hlt => World.cell?_of_block ((Lf.gb _).block b hlt (by simp))))
 clear hg hgV hLu r0 r1 r2 r3 r4 r5 r6 y0 y1 y2 y3 y4 y5 y6 m0 m1 m2 m3 m4 q0 q1 HGT HGN HGU
 unfold vaV at HLU ⊢
 go_wp2_with fail
 generalize hw5 : w3.alloc (.cells #[.int .i64 gk, .int .i64 gn, .int .i64 gx, .string gs, .slice ga gl gc, .slice gta gtl gtc, .slice gna gnl gnc] 28) = w5 at *
 clear hw5
 have qd0 := bq0 hA
 have qd1 := bq1 hA
 have nd0 := bn0 hB
 have nd1 := bn1 hB
 have nd2 := bn2 hB
 have nd3 := bn3 hB
 have nd4 := bn4 hB
 have gd0 := bx0 hN
 have gd1 := bx1 hN
 have gd2 := bx2 hN
 have gd3 := bx3 hN
 have gd4 := bx4 hN
 have gd5 := bx5 hN
 have gd6 := bx6 hN
 have HN5 := jh hN
 clear hA hB hN
 have HHA : Hid (∀ W2, w5.grownBy W2 none -> Calls Tryz.prog 31 #[.agg #[.int .i64 T.t, .slice a T.args.length c], .agg #[.int .i64 gk, .int .i64 gn, .int .i64 gx, .string gs, .slice ga gl gc, .slice gta gtl gtc, .slice gna gnl gnc]] W2 fun e w' => e = .returned (.bool (hasV (guessF t T) T)) /\ W2.grownBy w' none) := fun W2 h => (rhas_any (HLU.out.okMono (ok' := fun _ => True) fun _ _ _ => trivial)).1 T _ 1 W2 HFT.out.1 HFT.out.2 (HTL.out.same (sameAll HG3.out)) h
 cases hv : hasV (guessF t T) T with
 | false =>
  have HPN := jh (HNO.out (fun h => by rw [hv] at h; cases h.1))
  rw [hv] at HHA
  clear hv HY HNO HDK
  refine wp_region_held_drew (S := fun w' => w5.grownBy w' none) (by kernel_rfl) ?_ (fun hHeld => ?_)
  ·exact grow_drew (grow_refl _ _)
  refine reg_go 0 19 ?_
  simp only [Act.put, pS]
  refine reg_go 1 20 ?_
  simp only [Act.put, pS]
  refine wpAnyH_ready (rs := [2]) (by kernel_rfl) (by simp) ?_
  refine AllReadyH.cons rfl (fun K hK => ?_) AllReadyH.nil
  go_simp
  go_at_call 31
  refine (HHA.out _ hHeld).mono ?_; rintro e v2 ⟨rfl, hg2⟩
  have hH2 := Lf.gbt hHeld hg2
  refine hK.out _ _ hH2 (fun _ => ?_)
  clear hK K hHeld
  have hHeld := hH2
  clear hH2
  refine reg_go 3 22 ?_
  simp only [Act.put, pS]
  refine reg_go 4 23 ?_
  simp only [Act.put, pS]
  refine reg_no 5 24 ?_
  simp only [Act.put, pS]
  refine reg_no 6 25 ?_
  simp only [Act.put, pS]
  refine reg_no 7 26 ?_
  simp only [Act.put, pS]
  refine reg_no 8 27 ?_
  simp only [Act.put, pS]
  refine reg_no 9 28 ?_
  simp only [Act.put, pS]
  refine reg_go 10 29 ?_
  simp only [Act.put, pS]
  refine wpAnyH_done (by kernel_rfl) ?_ _
  have HS9 := jh (Lf.gbt HG3.out hHeld)
  have HC9 := jh (keepB HC3.out hHeld)
  have HN9 := jh (keepB HN5.out hHeld)
  have HL9 := jh (HLU.out.same (w' := v2) (fun b o _ hlt => World.cell?_of_block (hHeld.block b hlt (by simp))))
  clear hHeld
  obtain ⟨r0, r1, r2, r3, r4, r5, r6⟩ := box7 HC9.out
  obtain ⟨y0, y1, y2, y3, y4, y5, y6⟩ := box7f HC9.out
  go_wp2_with fail
  change bodyPost _ _ _ _ _ (rset7 v2 (W.heap.size + 1 + 1) (.int .i64 0) (.int .i64 0) (.int .i64 0) (.string ⟨#[]⟩) (.slice none 0 0) (.slice none 0 0) (.slice none 0 0))
  have hb' := rset7_block HC9.out (.int .i64 0) (.int .i64 0) (.int .i64 0) (.string ⟨#[]⟩) (.slice none 0 0) (.slice none 0 0) (.slice none 0 0)
  have hg' := grow_new HS9.out (rset7_grow v2 (W.heap.size + 1 + 1) (.int .i64 0) (.int .i64 0) (.int .i64 0) (.string ⟨#[]⟩) (.slice none 0 0) (.slice none 0 0) (.slice none 0 0)) (by omega)
  generalize rset7 v2 (W.heap.size + 1 + 1) (.int .i64 0) (.int .i64 0) (.int .i64 0) (.string ⟨#[]⟩) (.slice none 0 0) (.slice none 0 0) (.slice none 0 0) = wf at *
  obtain ⟨z0, z1, z2, z3, z4, z5, z6⟩ := box7 hb'
  exact bodyPost_ret (v := .tuple #[vaV 0 0 0 ⟨#[]⟩ none 0 0 none 0 0 none 0 0, .int .i64 1]) (by simp [results, Tryz.results12, go_sem, z0, z1, z2, z3, z4, z5, z6, vaV]) rfl ⟨hg', .inr ⟨HPN.out, rfl⟩⟩
 | true =>
  have HDN : Hid (∀ W2, w5.grownBy W2 none -> Calls Tryz.prog 21 #[.agg #[.int .i64 gk, .int .i64 gn, .int .i64 gx, .string gs, .slice ga gl gc, .slice gta gtl gtc, .slice gna gnl gnc]] W2 (DataPost (guessF t T) W2)) := fun W2 h => rdata_any (w := w5) (HLU.out.okMono fun b hb _ => hb) W2 h (HDK.out hv) (by have := HGS.out; omega)
  have HSA : Hid (∀ (W2 : World) (u : Value), w5.grownBy W2 none -> Lies (fun _ => True) W2 (dataT (guessF t T)) u -> Calls Tryz.prog 7 #[u, .agg #[.int .i64 nk, .int .i64 nn, .int .i64 np, .string ns, .slice na nl nc]] W2 fun e w' => e = .returned (.bool (eqTr (dataT (guessF t T)) t)) /\ W2.grownBy w' none) := fun W2 u hW2 hu => rsameN_any hu t _ W2 (grow_refl _ _) (HLL.out.same (sameAll (Lf.gbt HG3.out hW2)))
  rw [hv] at HHA
  cases hq : eqTr (dataT (guessF t T)) t with
  | false =>
   have HPN := jh (HNO.out (fun h => by rw [(eqTr_iff _ _).2 h.2] at hq; cases hq))
   rw [hq] at HSA
   clear hv hq HY HNO HDK
   refine wp_region_held_drew (S := fun w' => w5.grownBy w' none) (by kernel_rfl) ?_ (fun hHeld => ?_)
   ·exact grow_drew (grow_refl _ _)
   refine reg_go 0 19 ?_
   simp only [Act.put, pS]
   refine reg_go 1 20 ?_
   simp only [Act.put, pS]
   refine wpAnyH_ready (rs := [2]) (by kernel_rfl) (by simp) ?_
   refine AllReadyH.cons rfl (fun K hK => ?_) AllReadyH.nil
   go_simp
   go_at_call 31
   refine (HHA.out _ hHeld).mono ?_; rintro e v2 ⟨rfl, hg2⟩
   have hH2 := Lf.gbt hHeld hg2
   refine hK.out _ _ hH2 (fun _ => ?_)
   clear hK K hHeld
   have hHeld := hH2
   clear hH2
   refine reg_go 3 22 ?_
   simp only [Act.put, pS]
   refine reg_go 4 23 ?_
   simp only [Act.put, pS]
   refine reg_go 5 24 ?_
   simp only [Act.put, pS]
   refine reg_go 7 26 ?_
   simp only [Act.put, pS]
   refine wpAnyH_ready (rs := [6]) (by kernel_rfl) (by simp) ?_
   refine AllReadyH.cons rfl (fun K hK => ?_) AllReadyH.nil
   go_simp
   go_at_call 21
   refine (HDN.out _ hHeld).mono ?_; rintro e v6 ⟨hg6, du, rfl, hLd⟩
   obtain ⟨dk, dn, dp, ds, da, dl, dc, rfl⟩ := hLd.nodeV
   have HSN := jh (HSA.out v6 _ (Lf.gbt hHeld hg6) (hLd.okMono fun _ _ _ => trivial))
   clear hLd
   unfold nodeV at HSN ⊢
   have hH6 := Lf.gbt hHeld hg6
   refine hK.out _ _ hH6 (fun _ => ?_)
   clear hK K hHeld
   have hHeld := hH6
   clear hH6
   refine wpAnyH_ready (rs := [8]) (by kernel_rfl) (by simp) ?_
   refine AllReadyH.cons rfl (fun K hK => ?_) AllReadyH.nil
   go_simp
   go_at_call 7
   refine (HSN.out).mono ?_; rintro e v8 ⟨rfl, hg8⟩
   have hH8 := Lf.gbt hHeld hg8
   refine hK.out _ _ hH8 (fun _ => ?_)
   clear hK K hHeld
   have hHeld := hH8
   clear hH8
   refine reg_go 9 28 ?_
   simp only [Act.put, pS]
   refine reg_go 10 29 ?_
   simp only [Act.put, pS]
   refine wpAnyH_done (by kernel_rfl) ?_ _
   have HS9 := jh (Lf.gbt HG3.out hHeld)
   have HC9 := jh (keepB HC3.out hHeld)
   have HN9 := jh (keepB HN5.out hHeld)
   have HL9 := jh (HLU.out.same (w' := v8) (fun b o _ hlt => World.cell?_of_block (hHeld.block b hlt (by simp))))
   clear hHeld
   obtain ⟨r0, r1, r2, r3, r4, r5, r6⟩ := box7 HC9.out
   obtain ⟨y0, y1, y2, y3, y4, y5, y6⟩ := box7f HC9.out
   obtain ⟨m0, m1, m2, m3, m4, m5, m6⟩ := box7 HN9.out
   go_wp2_with fail
   change bodyPost _ _ _ _ _ (rset7 v8 (W.heap.size + 1 + 1) (.int .i64 0) (.int .i64 0) (.int .i64 0) (.string ⟨#[]⟩) (.slice none 0 0) (.slice none 0 0) (.slice none 0 0))
   have hb' := rset7_block HC9.out (.int .i64 0) (.int .i64 0) (.int .i64 0) (.string ⟨#[]⟩) (.slice none 0 0) (.slice none 0 0) (.slice none 0 0)
   have hg' := grow_new HS9.out (rset7_grow v8 (W.heap.size + 1 + 1) (.int .i64 0) (.int .i64 0) (.int .i64 0) (.string ⟨#[]⟩) (.slice none 0 0) (.slice none 0 0) (.slice none 0 0)) (by omega)
   generalize rset7 v8 (W.heap.size + 1 + 1) (.int .i64 0) (.int .i64 0) (.int .i64 0) (.string ⟨#[]⟩) (.slice none 0 0) (.slice none 0 0) (.slice none 0 0) = wf at *
   obtain ⟨z0, z1, z2, z3, z4, z5, z6⟩ := box7 hb'
   exact bodyPost_ret (v := .tuple #[vaV 0 0 0 ⟨#[]⟩ none 0 0 none 0 0 none 0 0, .int .i64 1]) (by simp [results, Tryz.results12, go_sem, z0, z1, z2, z3, z4, z5, z6, vaV]) rfl ⟨hg', .inr ⟨HPN.out, rfl⟩⟩
  | true =>
   have HPY := jh (HY.out hv ((eqTr_iff _ _).1 hq))
   rw [hq] at HSA
   clear hv hq HY HNO HDK
   refine wp_region_held_drew (S := fun w' => w5.grownBy w' none) (by kernel_rfl) ?_ (fun hHeld => ?_)
   ·exact grow_drew (grow_refl _ _)
   refine reg_go 0 19 ?_
   simp only [Act.put, pS]
   refine reg_go 1 20 ?_
   simp only [Act.put, pS]
   refine wpAnyH_ready (rs := [2]) (by kernel_rfl) (by simp) ?_
   refine AllReadyH.cons rfl (fun K hK => ?_) AllReadyH.nil
   go_simp
   go_at_call 31
   refine (HHA.out _ hHeld).mono ?_; rintro e v2 ⟨rfl, hg2⟩
   have hH2 := Lf.gbt hHeld hg2
   refine hK.out _ _ hH2 (fun _ => ?_)
   clear hK K hHeld
   have hHeld := hH2
   clear hH2
   refine reg_go 3 22 ?_
   simp only [Act.put, pS]
   refine reg_go 4 23 ?_
   simp only [Act.put, pS]
   refine reg_go 5 24 ?_
   simp only [Act.put, pS]
   refine reg_go 7 26 ?_
   simp only [Act.put, pS]
   refine wpAnyH_ready (rs := [6]) (by kernel_rfl) (by simp) ?_
   refine AllReadyH.cons rfl (fun K hK => ?_) AllReadyH.nil
   go_simp
   go_at_call 21
   refine (HDN.out _ hHeld).mono ?_; rintro e v6 ⟨hg6, du, rfl, hLd⟩
   obtain ⟨dk, dn, dp, ds, da, dl, dc, rfl⟩ := hLd.nodeV
   have HSN := jh (HSA.out v6 _ (Lf.gbt hHeld hg6) (hLd.okMono fun _ _ _ => trivial))
   clear hLd
   unfold nodeV at HSN ⊢
   have hH6 := Lf.gbt hHeld hg6
   refine hK.out _ _ hH6 (fun _ => ?_)
   clear hK K hHeld
   have hHeld := hH6
   clear hH6
   refine wpAnyH_ready (rs := [8]) (by kernel_rfl) (by simp) ?_
   refine AllReadyH.cons rfl (fun K hK => ?_) AllReadyH.nil
   go_simp
   go_at_call 7
   refine (HSN.out).mono ?_; rintro e v8 ⟨rfl, hg8⟩
   have hH8 := Lf.gbt hHeld hg8
   refine hK.out _ _ hH8 (fun _ => ?_)
   clear hK K hHeld
   have hHeld := hH8
   clear hH8
   refine reg_go 9 28 ?_
   simp only [Act.put, pS]
   refine reg_go 10 29 ?_
   simp only [Act.put, pS]
   refine wpAnyH_done (by kernel_rfl) ?_ _
   have HS9 := jh (Lf.gbt HG3.out hHeld)
   have HC9 := jh (keepB HC3.out hHeld)
   have HN9 := jh (keepB HN5.out hHeld)
   have HL9 := jh (HLU.out.same (w' := v8) (fun b o _ hlt => World.cell?_of_block (hHeld.block b hlt (by simp))))
   clear hHeld
   obtain ⟨r0, r1, r2, r3, r4, r5, r6⟩ := box7 HC9.out
   obtain ⟨y0, y1, y2, y3, y4, y5, y6⟩ := box7f HC9.out
   obtain ⟨m0, m1, m2, m3, m4, m5, m6⟩ := box7 HN9.out
   go_wp2_with fail
   change bodyPost _ _ _ _ _ (rset7 v8 (W.heap.size + 1 + 1) (.int .i64 gk) (.int .i64 gn) (.int .i64 gx) (.string gs) (.slice ga gl gc) (.slice gta gtl gtc) (.slice gna gnl gnc))
   have hb' := rset7_block HC9.out (.int .i64 gk) (.int .i64 gn) (.int .i64 gx) (.string gs) (.slice ga gl gc) (.slice gta gtl gtc) (.slice gna gnl gnc)
   have hgs := rset7_grow v8 (W.heap.size + 1 + 1) (.int .i64 gk) (.int .i64 gn) (.int .i64 gx) (.string gs) (.slice ga gl gc) (.slice gta gtl gtc) (.slice gna gnl gnc)
   have hg' := grow_new HS9.out hgs (by omega)
   generalize rset7 v8 (W.heap.size + 1 + 1) (.int .i64 gk) (.int .i64 gn) (.int .i64 gx) (.string gs) (.slice ga gl gc) (.slice gta gtl gtc) (.slice gna gnl gnc) = wf at *
   obtain ⟨z0, z1, z2, z3, z4, z5, z6⟩ := box7 hb'
   refine bodyPost_ret (v := .tuple #[vaV gk gn gx gs ga gl gc gta gtl gtc gna gnl gnc, .int .i64 0]) (by simp [results, Tryz.results12, go_sem, z0, z1, z2, z3, z4, z5, z6, vaV]) rfl ⟨hg', .inl ⟨_, _, HPY.out, rfl, ?_⟩⟩
   exact (HL9.out.same (w' := wf) (fun b o hb hlt => World.cell?_of_block (hgs.block b hlt (by have : w2.heap.size <= b := hb; simp; omega)))).okMono fun b _ hb => (by have : w2.heap.size <= b := hb; show W.heap.size <= b; omega)
end Go.Proofs.YthjpngaapflclacGreat
