/- The document's own typeOf by induction, and ParseType, by their contracts. -/
import Derived.Test.YtjhhcdiipbjiaabRefType
import Derived.Test.YtjhhcdiipbjiaabRefGood
namespace Go.Proofs.Ytjhhcdiipbjiaab
open Go.ChangeShapes Go.WideShapes Go.ChangeAt Go.RowKit
set_option linter.unusedVariables false

theorem wrap_nat (n : Nat) (h : n < 9223372036854775808) : IntKind.i64.wrap (n : Int) = (n : Int) := by
  simp [IntKind.wrap, IntKind.bits, IntKind.signed]
  try omega

set_option maxRecDepth 100000 in
set_option maxHeartbeats 4000000 in
theorem type_any {cb : Nat} {w : World} {t : Tr} {v : Value} (hL : Lies (· ≠ cb) w t v) : ∀ (dI L : Int) (w2 : World), Same (· ≠ cb) w w2 → w.heap.size ≤ w2.heap.size → LeftAt w2 cb L → L ≤ 300 → -1000000000 ≤ L - t.size → 0 ≤ dI → dI ≤ 24 →
    Calls Try.prog 56 #[v, .int .i64 dI, .pointer (some ⟨cb, 0, none⟩)] w2 (TypePost dI.toNat L t cb w2) := by
  induction hL with
  | @mk k n p s args a c V hl hS ik iN ip hc hr ih =>
    intro dI L w2 hsame hz hcb hL1 hL2 hd0 hd1
    have hsz : (Tr.nd k n p s args).size = sizes args + 1 := by rw [Tr.size]
    rw [hsz] at hL2
    push_cast at hL2
    by_cases hw : primHere k n s = true ∧ dI ≠ 0 ∧ 0 ≤ L - 1
    · have hcond : primHere k n s = true ∧ dI.toNat ≠ 0 ∧ 0 ≤ L - 1 := ⟨hw.1, by omega, hw.2.2⟩
      have hTF : typeF dI.toNat L (.nd k n p s args) = (.nd p (typeFs (dI.toNat - 1) (L - 1) args).1, (typeFs (dI.toNat - 1) (L - 1) args).2) := by rw [typeF, if_pos hcond]
      have hI0 := tw0_inv (k := k) (n := n) (p := p) (s := s) (a := a) (l := args.length) (c := c) hcb
      obtain ⟨hpr, hdn, hL0⟩ := hw
      simp only [primHere, decide_eq_true_eq] at hpr
      obtain ⟨rfl, rfl, hs0⟩ := hpr
      have hs1 : s.toList.isEmpty = true := by
        have := (Lf.nil_iff s).2 hs0
        rw [this]; rfl
      have hd' : (dI == 0) = false := by simpa using hdn
      have hLn : ¬ L - 1 < 0 := by omega
      have hwr : IntKind.i64.wrap (dI - 1) = dI - 1 := by
        obtain ⟨q, hq⟩ := Int.eq_ofNat_of_zero_le (show 0 ≤ dI - 1 from by omega)
        rw [hq]; exact wrap_nat q (by omega)
      have hLd : decide (L - 1 < 0) = false := by simp; omega
      have c1 := cell_of_one hcb
      have c2 := free_of_one hcb
      have l1 : cb < w2.heap.size := lt_of_block hcb
      have l2 : cb < w2.heap.size + 1 := by omega
      have l3 : cb < w2.heap.size + 1 + 1 := by omega
      have IH := Lf.hide ih
      have HC := Lf.hide hc
      have HS := Lf.hide hsame
      have HI0 := Lf.hide hI0
      have HTF := Lf.hide hTF
      unfold maxLen at hl
      clear ih hc hr hsame hI0 hTF hcb hcond hsz
      unfold nodeV
      go_enter Try.func56, Try.ntmps56
      go_wp2_with fail
      go_loopw [45] (fun i wr => ∃ (j : Nat) (lv : Value) (vs : List Value), j ≤ args.length ∧ i = .int .i64 j ∧ TInv w2 wr cb (w2.heap.size + 1 + 1) (w2.heap.size + 1) (w2.heap.size + 1 + 1 + 1) (typeFs (dI.toNat - 1) (L - 1) (args.take j)).2 p lv (typeFs (dI.toNat - 1) (L - 1) (args.take j)).1 vs) (fun i _ => args.length - (intOf i).toNat)
      case atStart => exact ⟨0, _, _, Nat.zero_le _, rfl, by simp only [List.take_zero, typeFs]; exact HI0.out⟩
      case round =>
        obtain ⟨j, lv, vs, hj, rfl, hI⟩ := hrel
        have hlv : ∃ la lc, lv = .slice la vs.length lc := by
          obtain ⟨la, lc, _, h, _, _⟩ := hI.list.done
          exact ⟨la, lc, by rw [h, hI.list.len]⟩
        obtain ⟨la, lc, rfl⟩ := hlv
        have hvl : vs.length ≤ 1000000000000 := by
          have h1 := hI.list.len
          have h2 := length_le_sizes args
          rw [typeFs_len, List.length_take] at h1
          omega
        have b0 := cell0_of hI.blk
        have b1 := cell1_of hI.blk
        have r0 := cell0_of hI.res
        have r1 := cell1_of hI.res
        have lb : w2.heap.size + 1 + 1 < wr.heap.size := lt_of_block hI.blk
        have lb' : w2.heap.size + 1 + 1 < wr.heap.size + 1 := by omega
        by_cases hlt : j < args.length
        · obtain ⟨b, o, rfl, hne, k', n', p', s', a', l', c', hv, e0, e1, e2, e3, e4⟩ := (HC.out j hlt).same (HS.out.grown hz hI.grown (by simp))
          have hI1 := hI.alloc (by omega) (.cells #[.int .i64 k', .int .i64 n', .int .i64 p', .string s', .slice a' l' c'] 24)
          have hb1 := typeFs_left (args.take j) (dI.toNat - 1) (L - 1)
          have hb2 := sizes_take_succ args j hlt
          have hb3 := sizes_take_le args (j + 1)
          have hih : ∀ W, wr.grownBy W none → Calls Try.prog 56 #[.agg #[.int .i64 k', .int .i64 n', .int .i64 p', .string s', .slice a' l' c'], .int .i64 (dI - 1), .pointer (some ⟨cb, 0, none⟩)] W (TypePost (dI.toNat - 1) (typeFs (dI.toNat - 1) (L - 1) (args.take j)).2 args[j] cb W) := by
            intro W hW
            have h := IH.out j hlt (dI - 1) (typeFs (dI.toNat - 1) (L - 1) (args.take j)).2 W (HS.out.grown hz (grow_trans hI.grown (grow_any hW)) (by simp)) (by have := hI.grown.size; have := hW.size; omega) ((hW.block cb (lt_of_block hI.left) (by simp)).trans hI.left) (by omega) (by omega) (by omega) (by omega)
            rw [hv, show (dI - 1).toNat = dI.toNat - 1 from by omega] at h
            exact h
          have HIH := Lf.hide hih
          have HI1 := Lf.hide hI1
          have hzw : w2.heap.size + 1 + 1 + 1 ≤ wr.heap.size := hI.hz
          have HOB : Hid (∀ k, (Value.slice la vs.length lc).ownBlock = some k → k < wr.heap.size) := fun k hk => (World.ownsRow.lt hI.list.own k hk).2
          clear hih hI1 hI hv hb1 hb2 hb3
          go_wp2_with fail
          go_region_law (first
            | (refine step_appT (w2.heap.size + 1 + 1 + 1) vs ku au lu cu w3 (.slice la vs.length lc) rfl (.tmp 50) (.tmp 56) rfl rfl rfl rfl HI3.out.list.own HI3.out.hz hvl ?_; intro g cap w5 ho5 hg5; have HO5 := Lf.hide ho5; have HG5 := Lf.hide hg5; clear ho5 hg5; have HI5 := Lf.hide (HI3.out.push (S := (wr.alloc (.cells #[.int .i64 k', .int .i64 n', .int .i64 p', .string s', .slice a' l' c'] 24)).heap.size) (by omega) (by omega) (by omega) (by omega) (by omega) (by omega) (by rw [World.size_alloc]; omega) (fun k hk => by have := HOB.out k hk; rw [World.size_alloc]; omega) HLU.out HG5.out HO5.out); have k5 := (HG5.out.block (lt_of_block HI3.out.blk) (own_lt_ne HI3.out.list.own (by omega))).trans HI3.out.blk; have n0 := cell0_of k5; have n1 := cell1_of k5; have nf := free2_of k5; clear k5)
            | (go_simp; go_at_call 56; refine (HIH.out _ (by exact grow_drew (Lf.gb _))).mono ?_; rintro e w3 ⟨hg3, u, rfl, hLu, hcu⟩; obtain ⟨ku, au, lu, cu, rfl⟩ := hLu.tyV; have HI3 := Lf.hide (HI1.out.next (grow_ofDrew hg3) (by omega) (by omega) (by omega) hcu); have HLU := Lf.hide hLu; have m0 := cell0_of HI3.out.blk; have m1 := cell1_of HI3.out.blk; have lm : w2.heap.size + 1 + 1 < w3.heap.size := lt_of_block HI3.out.blk; clear hg3 hLu hcu; unfold tyV))
          all_goals
            go_wp2_with fail
            have h5 : TInv w2 (w5.setCell ⟨w2.heap.size + 1 + 1, 1, none⟩ (.slice (some ⟨g, 0, none⟩) (vs.length + 1) cap)) cb (w2.heap.size + 1 + 1) (w2.heap.size + 1) (w2.heap.size + 1 + 1 + 1) (typeFs (dI.toNat - 1) (L - 1) (args.take (j + 1))).2 p (.slice (some ⟨g, 0, none⟩) (vs.length + 1) cap) (typeFs (dI.toNat - 1) (L - 1) (args.take (j + 1))).1 (vs ++ [tyV ku au lu cu]) := by
              rw [List.take_succ_eq_append_getElem hlt, typeFs_snoc]
              exact HI5.out
            exact ⟨⟨j + 1, _, _, by omega, by go_num, h5⟩, by simp [intOf]; omega⟩
        · have hje : j = args.length := by omega
          have f1 := free2_of hI.res
          have HI := Lf.hide hI
          have HJ := Lf.hide hje
          clear hI hje HC IH HS HI0
          go_wp2_with fail
          change bodyPost _ _ _ _ _ (set2 wr (w2.heap.size + 1) (.int .i64 p) (.slice la vs.length lc))
          have hb' := set2_block HI.out.res (.int .i64 p) (.slice la vs.length lc)
          have hg' := grow_set2 HI.out.grown (b := w2.heap.size + 1) (by omega) (.int .i64 p) (.slice la vs.length lc)
          have hgs := set2_grow wr (w2.heap.size + 1) (.int .i64 p) (.slice la vs.length lc)
          generalize set2 wr (w2.heap.size + 1) (.int .i64 p) (.slice la vs.length lc) = wf at *
          have z0 := cell0_of hb'
          have z1 := cell1_of hb'
          refine bodyPost_ret (v := tyV p la vs.length lc) (by simp [results, Try.results56, go_sem, z0, z1, tyV]) rfl ⟨hg', _, rfl, ?_, ?_⟩
          · obtain ⟨a1, c1, V1, hv1, hd1, hd2⟩ := HI.out.list.done
            have e1 : (typeFs (dI.toNat - 1) (L - 1) (args.take j)).1 = (typeFs (dI.toNat - 1) (L - 1) args).1 := by rw [HJ.out, List.take_length]
            rw [e1] at hv1 hd1
            simp only [e1] at hd2
            have hlen : (typeFs (dI.toNat - 1) (L - 1) args).1.length ≤ maxLen := by rw [typeFs_len]; unfold maxLen; omega
            have hrow : RowT (w2.heap.size + 1 + 1 + 1 ≤ ·) wr (typeFs (dI.toNat - 1) (L - 1) args).1 a1 V1 := ⟨hlen, hd1, hd2⟩
            have hrow2 := (hrow.same (w' := wf) (fun b o hb hlt => World.cell?_of_block (hgs.block b hlt (by have : w2.heap.size + 1 + 1 + 1 ≤ b := hb; simp; omega)))).okMono (ok' := (w2.heap.size ≤ ·)) (fun b _ hb => by have : w2.heap.size + 1 + 1 + 1 ≤ b := hb; show _ ≤ b; omega)
            rw [HTF.out]
            have hv2 : tyV p la vs.length lc = tyV p a1 (typeFs (dI.toNat - 1) (L - 1) args).1.length c1 := by
              unfold tyV; rw [hv1]
            rw [hv2]
            exact LiesT.of ip hrow2
          · have h := (hgs.block cb (lt_of_block HI.out.left) (by simp; omega)).trans HI.out.left
            rw [HJ.out, List.take_length] at h
            rw [HTF.out]
            exact h
    · refine type_no dI L w2 hcb hL1 (by omega) hd0 hd1 hl ?_ hw
      rw [typeF, if_neg (fun h => hw ⟨h.1, by omega, h.2.2⟩)]

end Go.Proofs.Ytjhhcdiipbjiaab
