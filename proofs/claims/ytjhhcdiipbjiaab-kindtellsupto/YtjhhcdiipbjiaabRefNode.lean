/- The document's own nodeOf and TypeNode, by their contracts. -/
import Derived.Test.YtjhhcdiipbjiaabNodeT
import Derived.Test.YtjhhcdiipbjiaabRefGood
namespace Go.Proofs.Ytjhhcdiipbjiaab
open Go.ChangeShapes Go.WideShapes Go.ChangeAt Go.RowKit
set_option linter.unusedVariables false

set_option maxRecDepth 100000 in
set_option maxHeartbeats 2000000 in
theorem nodeOf_any {w : World} {T : Ty} {v : Value} (hL : LiesT (· < w.heap.size) w T v) : ∀ (w2 : World), w.grownBy w2 none → T.size ≤ 100000000 → Calls Try.prog 39 #[v] w2 (WrittenPost T w2) := by
  induction hL with
  | @mk t args a c V hl it hc hr ih =>
    intro w2 hg0 hz
    have hI0 := ww0_inv w2 t a args.length c
    have hwt : writeT (.nd t args) = .nd 2 0 t emptyB (args.map writeT) := by rw [writeT, writeTs_map]
    have hlz : args.length ≤ 100000000 := by
      have := tylength_le args
      rw [Ty.size] at hz; omega
    have hzs : ∀ i (h : i < args.length), (args[i]).size ≤ 100000000 := fun i h => by
      have := tysize_mem (List.getElem_mem h)
      rw [Ty.size] at hz; omega
    have IH := Lf.hide ih
    have HC := Lf.hide hc
    have HG0 := Lf.hide hg0
    have HI0 := Lf.hide hI0
    have HWT := Lf.hide hwt
    have HZS := Lf.hide hzs
    have HLZ := Lf.hide hlz
    unfold maxLen at hl
    clear ih hc hr hg0 hI0 hwt hz hzs hlz
    unfold tyV
    go_enter Try.func39, Try.ntmps39
    go_wp2_with fail
    go_loopw [12] (fun i wr => ∃ (j : Nat) (lv : Value) (vs : List Value), j ≤ args.length ∧ i = .int .i64 j ∧ WInv w2 wr (w2.heap.size + 1 + 1) (w2.heap.size + 1) (w2.heap.size + 1 + 1 + 1) t lv ((args.take j).map writeT) vs) (fun i _ => args.length - (intOf i).toNat)
    case atStart => exact ⟨0, _, _, Nat.zero_le _, rfl, HI0.out⟩
    case round =>
      obtain ⟨j, lv, vs, hj, rfl, hI⟩ := hrel
      have hlv : ∃ la lc, lv = .slice la vs.length lc := by
        obtain ⟨la, lc, _, h, _, _⟩ := hI.list.done
        exact ⟨la, lc, by rw [h, hI.list.len]⟩
      obtain ⟨la, lc, rfl⟩ := hlv
      have hvl : vs.length ≤ 1000000000000 := by
        have h1 := hI.list.len
        have h2 := HLZ.out
        rw [List.length_map, List.length_take] at h1
        omega
      obtain ⟨b0, b1, b2, b3, b4⟩ := box5 hI.blk
      obtain ⟨r0, r1, r2, r3, r4⟩ := box5 hI.res
      have lb : w2.heap.size + 1 + 1 < wr.heap.size := lt_of_block hI.blk
      have lb' : w2.heap.size + 1 + 1 < wr.heap.size + 1 := by omega
      by_cases hlt : j < args.length
      · obtain ⟨b, o, t', a', l', c', rfl, hne, hv, e0, e1⟩ := ((HC.out j hlt).same (w' := wr) (fun b o hb _ => World.cell?_of_block ((Lf.gbt HG0.out hI.grown).block b hb (by simp)))).cells
        have hI1 := hI.call (Lf.gb (.cells #[.int .i64 t', .slice a' l' c'] 39)) (by omega)
        have hih : ∀ W, wr.grownBy W none → Calls Try.prog 39 #[.agg #[.int .i64 t', .slice a' l' c']] W (WrittenPost args[j] W) := by
          intro W hW
          have h := IH.out j hlt W (Lf.gbt HG0.out (Lf.gbt hI.grown hW)) (HZS.out j hlt)
          rw [hv] at h
          exact h
        have HIH := Lf.hide hih
        have HI1 := Lf.hide hI1
        have HOB : Hid (∀ k, (Value.slice la vs.length lc).ownBlock = some k → k < wr.heap.size) := fun k hk => (World.ownsRow.lt hI.list.own k hk).2
        clear hih hI1 hI hv
        go_wp2_with fail
        go_region_law (first
          | (refine step_appN (w2.heap.size + 1 + 1 + 1) vs ku nu pu su au lu cu w3 (.slice la vs.length lc) rfl (.tmp 17) (.tmp 20) rfl rfl rfl rfl HI3.out.list.own HI3.out.hz hvl ?_; intro g cap w5 ho5 hg5; have HO5 := Lf.hide ho5; have HG5 := Lf.hide hg5; clear ho5 hg5; have HI5 := Lf.hide (HI3.out.push (S := (wr.alloc (.cells #[.int .i64 t', .slice a' l' c'] 39)).heap.size) (by omega) (by omega) (by omega) (by omega) (by rw [World.size_alloc]; omega) (fun k hk => by have := HOB.out k hk; rw [World.size_alloc]; omega) HLU.out HG5.out HO5.out); have k5 := (HG5.out.block (lt_of_block HI3.out.blk) (own_lt_ne HI3.out.list.own (by omega))).trans HI3.out.blk; obtain ⟨n0, n1, n2, n3, n4⟩ := box5 k5; obtain ⟨f0, f1, f2, f3, f4⟩ := box5f k5; clear k5)
          | (go_simp; go_at_call 39; refine (HIH.out _ (by exact grow_drew (Lf.gb _))).mono ?_; rintro e w3 ⟨hg3, u, rfl, hLu⟩; obtain ⟨ku, nu, pu, su, au, lu, cu, rfl⟩ := hLu.nodeV; have HI3 := Lf.hide (HI1.out.call (grow_ofDrew hg3) (by omega)); have HLU := Lf.hide hLu; obtain ⟨m0, m1, m2, m3, m4⟩ := box5 HI3.out.blk; have lm : w2.heap.size + 1 + 1 < w3.heap.size := lt_of_block HI3.out.blk; clear hg3 hLu; unfold nodeV))
        all_goals
          go_wp2_with fail
          have h5 : WInv w2 (w5.setCell ⟨w2.heap.size + 1 + 1, 4, none⟩ (.slice (some ⟨g, 0, none⟩) (vs.length + 1) cap)) (w2.heap.size + 1 + 1) (w2.heap.size + 1) (w2.heap.size + 1 + 1 + 1) t (.slice (some ⟨g, 0, none⟩) (vs.length + 1) cap) ((args.take (j + 1)).map writeT) (vs ++ [nodeV ku nu pu su au lu cu]) := by
            rw [List.take_succ_eq_append_getElem hlt, List.map_append]
            exact HI5.out
          exact ⟨⟨j + 1, _, _, by omega, by go_num, h5⟩, by simp [intOf]; omega⟩
      · have hje : j = args.length := by omega
        obtain ⟨f0, f1, f2, f3, f4⟩ := box5f hI.res
        have HI := Lf.hide hI
        have HJ := Lf.hide hje
        clear hI hje HC IH HI0
        go_wp2_with fail
        change bodyPost _ _ _ _ _ (set5 wr (w2.heap.size + 1) (.int .i64 2) (.int .i64 0) (.int .i64 t) (.string ⟨#[]⟩) (.slice la vs.length lc))
        have hb' := set5_block HI.out.res (.int .i64 2) (.int .i64 0) (.int .i64 t) (.string ⟨#[]⟩) (.slice la vs.length lc)
        have hgs := set5_grow wr (w2.heap.size + 1) (.int .i64 2) (.int .i64 0) (.int .i64 t) (.string ⟨#[]⟩) (.slice la vs.length lc)
        have hg' := grow_new HI.out.grown hgs (by omega)
        generalize set5 wr (w2.heap.size + 1) (.int .i64 2) (.int .i64 0) (.int .i64 t) (.string ⟨#[]⟩) (.slice la vs.length lc) = wf at *
        obtain ⟨z0, z1, z2, z3, z4⟩ := box5 hb'
        refine bodyPost_ret (v := nodeV 2 0 t ⟨#[]⟩ la vs.length lc) (by simp [results, Try.results39, go_sem, z0, z1, z2, z3, z4, nodeV]) rfl ⟨hg', _, rfl, ?_⟩
        obtain ⟨a1, c1, V1, hv1, hd1, hd2⟩ := HI.out.list.done
        have e1 : List.map writeT (List.take j args) = List.map writeT args := by rw [HJ.out, List.take_length]
        rw [e1] at hv1 hd1
        simp only [e1] at hd2
        rw [HWT.out, hv1_eq la a1 hv1]
        have hsm : Same (w2.heap.size + 1 + 1 + 1 ≤ ·) wr wf := fun b o hb hlt => World.cell?_of_block (hgs.block b hlt (by have : w2.heap.size + 1 + 1 + 1 ≤ b := hb; simp; omega))
        have hm : ∀ b, b < wf.heap.size → w2.heap.size + 1 + 1 + 1 ≤ b → w2.heap.size ≤ b := fun b _ hb => by omega
        exact (Lies.mk (ok := (w2.heap.size + 1 + 1 + 1 ≤ ·)) V1 (by rw [List.length_map]; unfold maxLen; omega) (Nat.zero_le _) ⟨by omega, by omega⟩ ⟨by omega, by omega⟩ it (fun i hi => (hd1 i hi).same hsm) (fun i hi => (hd2 i hi).same hsm)).okMono hm

set_option maxRecDepth 100000 in
set_option maxHeartbeats 1000000 in
theorem rtnode_any {w : World} {T : Ty} {v : Value} (hL : LiesT (· < w.heap.size) w T v) : Calls Try.prog 16 #[v] w (TNodePost T w) := by
  obtain ⟨a, c, V, rfl, it, hR⟩ := hL.inv
  have hA : ∀ w3, w.grownBy w3 none → Calls Try.prog 19 #[tyV T.t a T.args.length c] w3 fun e w' => e = .returned (.bool (goodTy T)) ∧ w3.grownBy w' none := fun w3 hg => rgood_any (hL.okMono (fun _ _ _ => trivial)) w3 hg
  have hg0 : w.grownBy ((w.alloc (.cells #[.int .i64 T.t, .slice a T.args.length c] 39)).alloc (.cells #[.int .i64 0, .int .i64 0, .int .i64 0, .string ⟨#[]⟩, .slice none 0 0] 24)) none := Lf.gbt (Lf.gb _) (Lf.gb _)
  have HA := Lf.hide (hA _ hg0)
  have e1 := heap_alloc_new w (.cells #[.int .i64 T.t, .slice a T.args.length c] 39)
  have e2 := heap_alloc_new (w.alloc (.cells #[.int .i64 T.t, .slice a T.args.length c] 39)) (.cells #[.int .i64 0, .int .i64 0, .int .i64 0, .string ⟨#[]⟩, .slice none 0 0] 24)
  rw [World.size_alloc] at e2
  have HB := Lf.hide (heap_keep (o := .cells #[.int .i64 0, .int .i64 0, .int .i64 0, .string ⟨#[]⟩, .slice none 0 0] 24) e1)
  have HR := Lf.hide e2
  have HG0 := Lf.hide hg0
  have HW : Hid (goodTy T = true → ∀ w3, w.grownBy w3 none → Calls Try.prog 39 #[tyV T.t a T.args.length c] w3 (WrittenPost T w3)) := fun h w3 hg => nodeOf_any hL w3 hg (by have := (goodTy_formed h).2.1; omega)
  clear hL hR it hA hg0 e1 e2
  unfold tyV at HA HW ⊢
  go_enter Try.func16, Try.ntmps16
  go_wp2_with fail
  refine HA.out.mono ?_; rintro e w1 ⟨rfl, hg1⟩
  have hb1 := (hg1.block _ (lt_of_block HB.out) (by simp)).trans HB.out
  have hr1 := (hg1.block _ (lt_of_block HR.out) (by simp)).trans HR.out
  have x0 := cell0_of hb1
  have x1 := cell1_of hb1
  obtain ⟨r0, r1, r2, r3, r4⟩ := box5 hr1
  obtain ⟨f0, f1, f2, f3, f4⟩ := box5f hr1
  have HR1 := Lf.hide hr1
  have HG1 := Lf.hide (Lf.gbt HG0.out hg1)
  clear hg1 hb1 hr1 HA
  cases hgd : goodTy T with
  | false =>
    have HD := Lf.hide hgd
    clear hgd
    go_wp2_with fail
    change bodyPost _ _ _ _ _ (set5 w1 (w.heap.size + 1) (.int .i64 0) (.int .i64 0) (.int .i64 0) (.string ⟨#[]⟩) (.slice none 0 0))
    have hb' := set5_block HR1.out (.int .i64 0) (.int .i64 0) (.int .i64 0) (.string ⟨#[]⟩) (.slice none 0 0)
    have hg' := grow_new HG1.out (set5_grow w1 (w.heap.size + 1) (.int .i64 0) (.int .i64 0) (.int .i64 0) (.string ⟨#[]⟩) (.slice none 0 0)) (by omega)
    generalize set5 w1 (w.heap.size + 1) (.int .i64 0) (.int .i64 0) (.int .i64 0) (.string ⟨#[]⟩) (.slice none 0 0) = wf at *
    obtain ⟨z0, z1, z2, z3, z4⟩ := box5 hb'
    exact bodyPost_ret (v := .tuple #[nodeV 0 0 0 ⟨#[]⟩ none 0 0, .int .i64 1]) (by simp [results, Try.results16, go_sem, z0, z1, z2, z3, z4, nodeV]) rfl ⟨hg', .inr ⟨HD.out, rfl⟩⟩
  | true =>
    have HD := Lf.hide hgd
    clear hgd
    go_wp2_with fail
    refine (HW.out HD.out _ HG1.out).mono ?_; rintro e w2 ⟨hg2, u, rfl, hLu⟩
    obtain ⟨ku, nu, pu, su, au, lu, cu, rfl⟩ := hLu.nodeV
    have hr2 := (hg2.block _ (lt_of_block HR1.out) (by simp)).trans HR1.out
    obtain ⟨s0, s1, s2, s3, s4⟩ := box5 hr2
    obtain ⟨p0, p1, p2, p3, p4⟩ := box5f hr2
    have HR2 := Lf.hide hr2
    have hz1 : w.heap.size + 1 + 1 ≤ w1.heap.size := lt_of_block HR1.out
    have HG2 := Lf.hide (Lf.gbt HG1.out hg2)
    have HLU := Lf.hide hLu
    clear hr2 hg2 hLu r0 r1 r2 r3 r4 f0 f1 f2 f3 f4
    unfold nodeV
    go_wp2_with fail
    change bodyPost _ _ _ _ _ (set5 w2 (w.heap.size + 1) (.int .i64 ku) (.int .i64 nu) (.int .i64 pu) (.string su) (.slice au lu cu))
    have hb' := set5_block HR2.out (.int .i64 ku) (.int .i64 nu) (.int .i64 pu) (.string su) (.slice au lu cu)
    have hgs := set5_grow w2 (w.heap.size + 1) (.int .i64 ku) (.int .i64 nu) (.int .i64 pu) (.string su) (.slice au lu cu)
    have hg' := grow_new HG2.out hgs (by omega)
    generalize set5 w2 (w.heap.size + 1) (.int .i64 ku) (.int .i64 nu) (.int .i64 pu) (.string su) (.slice au lu cu) = wf at *
    obtain ⟨z0, z1, z2, z3, z4⟩ := box5 hb'
    refine bodyPost_ret (v := .tuple #[nodeV ku nu pu su au lu cu, .int .i64 0]) (by simp [results, Try.results16, go_sem, z0, z1, z2, z3, z4, nodeV]) rfl ⟨hg', .inl ⟨HD.out, _, rfl, ?_⟩⟩
    exact (HLU.out.same (w' := wf) (fun b o hb hlt => World.cell?_of_block (hgs.block b hlt (by have : w1.heap.size ≤ b := hb; simp; omega)))).okMono (fun b _ hb => by have : w1.heap.size ≤ b := hb; show _ ≤ b; omega)

end Go.Proofs.Ytjhhcdiipbjiaab
