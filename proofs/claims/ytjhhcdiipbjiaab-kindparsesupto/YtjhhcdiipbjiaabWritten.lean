/- kind.written by its contract. -/
import Derived.Test.YtjhhcdiipbjiaabParseT
import Derived.Test.YtjhhcdiipbjiaabLists
namespace Go.Proofs.Ytjhhcdiipbjiaab
open Go.ChangeShapes Go.WideShapes Go.ChangeAt Go.RowKit
set_option linter.unusedVariables false

structure WInv (w2 w : World) (nb rb H : Nat) (p : Int) (lv : Value) (ts : List Tr) (vs : List Value) : Prop where
  grown : w2.grownBy w none
  blk : w.heap[nb]? = some (.cells #[.int .i64 2, .int .i64 0, .int .i64 p, .string ⟨#[]⟩, lv] 24 (0, 0))
  res : w.heap[rb]? = some (.cells #[.int .i64 0, .int .i64 0, .int .i64 0, .string ⟨#[]⟩, .slice none 0 0] 24 (0, 0))
  list : ListOk H w lv ts vs
  hz : H ≤ w.heap.size

theorem WInv.call {w2 w w' : World} {nb rb H : Nat} {p : Int} {lv : Value} {ts : List Tr} {vs : List Value} (h : WInv w2 w nb rb H p lv ts vs) (hg : w.grownBy w' none) (hn : nb < H) : WInv w2 w' nb rb H p lv ts vs :=
  ⟨Lf.gbt h.grown hg, (hg.block _ (lt_of_block h.blk) (by simp)).trans h.blk, (hg.block _ (lt_of_block h.res) (by simp)).trans h.res, h.list.keep (rb := nb) (grow_any hg) hn, Nat.le_trans h.hz hg.size⟩

theorem WInv.push {w2 w w' : World} {nb rb H S : Nat} {p : Int} {lv lv' u : Value} {ts : List Tr} {vs : List Value} {t : Tr} (h : WInv w2 w nb rb H p lv ts vs) (hn : w2.heap.size ≤ nb) (hnH : nb < H) (hrH : rb < H) (hrn : rb ≠ nb) (hS : H ≤ S)
    (hvS : ∀ k, lv.ownBlock = some k → k < S) (hL : Lies (S ≤ ·) w t u) (hg : Gr w lv w' lv') (ho : OwnsL H w' lv' (vs ++ [u])) : WInv w2 (w'.setCell ⟨nb, 4, none⟩ lv') nb rb H p lv' (ts ++ [t]) (vs ++ [u]) := by
  have hset : w'.grownBy (w'.setCell ⟨nb, 4, none⟩ lv') (some nb) := grow_set (grow_refl _ _) _ _ _
  have kb : w'.heap[nb]? = _ := (hg.block (lt_of_block h.blk) (own_lt_ne h.list.own hnH)).trans h.blk
  have kr : w'.heap[rb]? = _ := (hg.block (lt_of_block h.res) (own_lt_ne h.list.own hrH)).trans h.res
  refine ⟨?_, (set_one kb lv').2.2.2, (hset.block rb (lt_of_block kr) (by simpa using hrn)).trans kr, (h.list.push hS hvS hL hg ho).keep hset hnH, ?_⟩
  · refine ⟨hg.1.os.trans h.grown.os, hg.1.tape.trans h.grown.tape, hg.1.output.trans h.grown.output, Nat.le_trans h.grown.size (Nat.le_trans hg.1.size hset.size), fun i hi hr => ?_⟩
    rw [hset.block i (by have := h.grown.size; have := hg.1.size; omega) (by simp; omega), hg.block (by have := h.grown.size; omega) (own_lt_ne h.list.own (by omega))]
    exact h.grown.block i hi hr
  · have := h.hz; have := hg.1.size; have := hset.size; omega

/-- the world ahead of written's loop -/
def ww0 (w : World) (p : Int) (a : Option Addr) (l c : Nat) : World :=
  ((w.alloc (.cells #[.int .i64 p, .slice a l c] 39)).alloc (.cells #[.int .i64 0, .int .i64 0, .int .i64 0, .string ⟨#[]⟩, .slice none 0 0] 24)).alloc (.cells #[.int .i64 2, .int .i64 0, .int .i64 p, .string ⟨#[]⟩, .slice none 0 0] 24)

theorem ww0_inv (w : World) (p : Int) (a : Option Addr) (l c : Nat) : WInv w (ww0 w p a l c) (w.heap.size + 1 + 1) (w.heap.size + 1) (w.heap.size + 1 + 1 + 1) p (.slice none 0 0) [] [] := by
  have e1 := heap_alloc_new (w.alloc (.cells #[.int .i64 p, .slice a l c] 39)) (.cells #[.int .i64 0, .int .i64 0, .int .i64 0, .string ⟨#[]⟩, .slice none 0 0] 24)
  have e2 := heap_alloc_new ((w.alloc (.cells #[.int .i64 p, .slice a l c] 39)).alloc (.cells #[.int .i64 0, .int .i64 0, .int .i64 0, .string ⟨#[]⟩, .slice none 0 0] 24)) (.cells #[.int .i64 2, .int .i64 0, .int .i64 p, .string ⟨#[]⟩, .slice none 0 0] 24)
  simp only [World.size_alloc] at e1 e2
  refine ⟨Lf.gbt (Lf.gb _) (Lf.gbt (Lf.gb _) (Lf.gb _)), e2, heap_keep e1, ListOk.nil _ _, ?_⟩
  unfold ww0
  simp only [World.size_alloc]
  exact Nat.le_refl _

theorem grow_ofDrew {w w' : World} {r : Option Nat} (h : w.drew.grownBy w' r) : w.grownBy w' r := ⟨h.os, h.tape, h.output, h.size, h.block⟩

theorem hv1_eq {p : Int} {l1 l2 c1 c2 : Nat} (a1 a2 : Option Addr) (h : Value.slice a1 l1 c1 = .slice a2 l2 c2) : nodeV 2 0 p ⟨#[]⟩ a1 l1 c1 = nodeV 2 0 p emptyB a2 l2 c2 := by
  simp only [Value.slice.injEq] at h
  rw [h.1, h.2.1, h.2.2]; rfl

def WrittenPost (T : Ty) (w2 : World) (e : Ending) (w' : World) : Prop := w2.grownBy w' none ∧ ∃ u, e = .returned u ∧ Lies (w2.heap.size ≤ ·) w' (writeT T) u

set_option maxRecDepth 100000 in
set_option maxHeartbeats 2000000 in
theorem written_any {w : World} {T : Ty} {v : Value} (hL : LiesT (· < w.heap.size) w T v) : ∀ (w2 : World), w.grownBy w2 none → T.size ≤ 100000000 → Calls Try.prog 38 #[v] w2 (WrittenPost T w2) := by
  induction hL with
  | @mk t args a c V hl it hc hr ih =>
    intro w2 hg0 hz
    have hI0 := ww0_inv w2 t a args.length c
    have hwt : writeT (.nd t args) = .nd 2 0 t emptyB (args.map writeT) := by rw [writeT, writeTs_map]
    have hlz : args.length ≤ 100000000 := by
      have := tylength_le args
      rw [Ty.size] at hz; omega
    have hzs : ∀ i (h : i < args.length), (args[i]).size ≤ 100000000 := fun i h => by
      have := tysize_mem (List.getElem_mem h)
      rw [Ty.size] at hz; omega
    have IH := Lf.hide ih
    have HC := Lf.hide hc
    have HG0 := Lf.hide hg0
    have HI0 := Lf.hide hI0
    have HWT := Lf.hide hwt
    have HZS := Lf.hide hzs
    have HLZ := Lf.hide hlz
    unfold maxLen at hl
    clear ih hc hr hg0 hI0 hwt hz hzs hlz
    unfold tyV
    go_enter Try.func38, Try.ntmps38
    go_wp2_with fail
    go_loopw [12] (fun i wr => ∃ (j : Nat) (lv : Value) (vs : List Value), j ≤ args.length ∧ i = .int .i64 j ∧ WInv w2 wr (w2.heap.size + 1 + 1) (w2.heap.size + 1) (w2.heap.size + 1 + 1 + 1) t lv ((args.take j).map writeT) vs) (fun i _ => args.length - (intOf i).toNat)
    case atStart => exact ⟨0, _, _, Nat.zero_le _, rfl, HI0.out⟩
    case round =>
      obtain ⟨j, lv, vs, hj, rfl, hI⟩ := hrel
      have hlv : ∃ la lc, lv = .slice la vs.length lc := by
        obtain ⟨la, lc, _, h, _, _⟩ := hI.list.done
        exact ⟨la, lc, by rw [h, hI.list.len]⟩
      obtain ⟨la, lc, rfl⟩ := hlv
      have hvl : vs.length ≤ 1000000000000 := by
        have h1 := hI.list.len
        have h2 := HLZ.out
        rw [List.length_map, List.length_take] at h1
        omega
      obtain ⟨b0, b1, b2, b3, b4⟩ := box5 hI.blk
      obtain ⟨r0, r1, r2, r3, r4⟩ := box5 hI.res
      have lb : w2.heap.size + 1 + 1 < wr.heap.size := lt_of_block hI.blk
      have lb' : w2.heap.size + 1 + 1 < wr.heap.size + 1 := by omega
      by_cases hlt : j < args.length
      · obtain ⟨b, o, t', a', l', c', rfl, hne, hv, e0, e1⟩ := ((HC.out j hlt).same (w' := wr) (fun b o hb _ => World.cell?_of_block ((Lf.gbt HG0.out hI.grown).block b hb (by simp)))).cells
        have hI1 := hI.call (Lf.gb (.cells #[.int .i64 t', .slice a' l' c'] 39)) (by omega)
        have hih : ∀ W, wr.grownBy W none → Calls Try.prog 38 #[.agg #[.int .i64 t', .slice a' l' c']] W (WrittenPost args[j] W) := by
          intro W hW
          have h := IH.out j hlt W (Lf.gbt HG0.out (Lf.gbt hI.grown hW)) (HZS.out j hlt)
          rw [hv] at h
          exact h
        have HIH := Lf.hide hih
        have HI1 := Lf.hide hI1
        have HOB : Hid (∀ k, (Value.slice la vs.length lc).ownBlock = some k → k < wr.heap.size) := fun k hk => (World.ownsRow.lt hI.list.own k hk).2
        clear hih hI1 hI hv
        go_wp2_with fail
        go_region_law (first
          | (refine step_appN (w2.heap.size + 1 + 1 + 1) vs ku nu pu su au lu cu w3 (.slice la vs.length lc) rfl (.tmp 17) (.tmp 20) rfl rfl rfl rfl HI3.out.list.own HI3.out.hz hvl ?_; intro g cap w5 ho5 hg5; have HO5 := Lf.hide ho5; have HG5 := Lf.hide hg5; clear ho5 hg5; have HI5 := Lf.hide (HI3.out.push (S := (wr.alloc (.cells #[.int .i64 t', .slice a' l' c'] 39)).heap.size) (by omega) (by omega) (by omega) (by omega) (by rw [World.size_alloc]; omega) (fun k hk => by have := HOB.out k hk; rw [World.size_alloc]; omega) HLU.out HG5.out HO5.out); have k5 := (HG5.out.block (lt_of_block HI3.out.blk) (own_lt_ne HI3.out.list.own (by omega))).trans HI3.out.blk; obtain ⟨n0, n1, n2, n3, n4⟩ := box5 k5; obtain ⟨f0, f1, f2, f3, f4⟩ := box5f k5; clear k5)
          | (go_simp; go_at_call 38; refine (HIH.out _ (by exact grow_drew (Lf.gb _))).mono ?_; rintro e w3 ⟨hg3, u, rfl, hLu⟩; obtain ⟨ku, nu, pu, su, au, lu, cu, rfl⟩ := hLu.nodeV; have HI3 := Lf.hide (HI1.out.call (grow_ofDrew hg3) (by omega)); have HLU := Lf.hide hLu; obtain ⟨m0, m1, m2, m3, m4⟩ := box5 HI3.out.blk; have lm : w2.heap.size + 1 + 1 < w3.heap.size := lt_of_block HI3.out.blk; clear hg3 hLu; unfold nodeV))
        all_goals
          go_wp2_with fail
          have h5 : WInv w2 (w5.setCell ⟨w2.heap.size + 1 + 1, 4, none⟩ (.slice (some ⟨g, 0, none⟩) (vs.length + 1) cap)) (w2.heap.size + 1 + 1) (w2.heap.size + 1) (w2.heap.size + 1 + 1 + 1) t (.slice (some ⟨g, 0, none⟩) (vs.length + 1) cap) ((args.take (j + 1)).map writeT) (vs ++ [nodeV ku nu pu su au lu cu]) := by
            rw [List.take_succ_eq_append_getElem hlt, List.map_append]
            exact HI5.out
          exact ⟨⟨j + 1, _, _, by omega, by go_num, h5⟩, by simp [intOf]; omega⟩
      · have hje : j = args.length := by omega
        obtain ⟨f0, f1, f2, f3, f4⟩ := box5f hI.res
        have HI := Lf.hide hI
        have HJ := Lf.hide hje
        clear hI hje HC IH HI0
        go_wp2_with fail
        change bodyPost _ _ _ _ _ (set5 wr (w2.heap.size + 1) (.int .i64 2) (.int .i64 0) (.int .i64 t) (.string ⟨#[]⟩) (.slice la vs.length lc))
        have hb' := set5_block HI.out.res (.int .i64 2) (.int .i64 0) (.int .i64 t) (.string ⟨#[]⟩) (.slice la vs.length lc)
        have hgs := set5_grow wr (w2.heap.size + 1) (.int .i64 2) (.int .i64 0) (.int .i64 t) (.string ⟨#[]⟩) (.slice la vs.length lc)
        have hg' := grow_new HI.out.grown hgs (by omega)
        generalize set5 wr (w2.heap.size + 1) (.int .i64 2) (.int .i64 0) (.int .i64 t) (.string ⟨#[]⟩) (.slice la vs.length lc) = wf at *
        obtain ⟨z0, z1, z2, z3, z4⟩ := box5 hb'
        refine bodyPost_ret (v := nodeV 2 0 t ⟨#[]⟩ la vs.length lc) (by simp [results, Try.results38, go_sem, z0, z1, z2, z3, z4, nodeV]) rfl ⟨hg', _, rfl, ?_⟩
        obtain ⟨a1, c1, V1, hv1, hd1, hd2⟩ := HI.out.list.done
        have e1 : List.map writeT (List.take j args) = List.map writeT args := by rw [HJ.out, List.take_length]
        rw [e1] at hv1 hd1
        simp only [e1] at hd2
        rw [HWT.out, hv1_eq la a1 hv1]
        have hsm : Same (w2.heap.size + 1 + 1 + 1 ≤ ·) wr wf := fun b o hb hlt => World.cell?_of_block (hgs.block b hlt (by have : w2.heap.size + 1 + 1 + 1 ≤ b := hb; simp; omega))
        have hm : ∀ b, b < wf.heap.size → w2.heap.size + 1 + 1 + 1 ≤ b → w2.heap.size ≤ b := fun b _ hb => by omega
        exact (Lies.mk (ok := (w2.heap.size + 1 + 1 + 1 ≤ ·)) V1 (by rw [List.length_map]; unfold maxLen; omega) (Nat.zero_le _) ⟨by omega, by omega⟩ ⟨by omega, by omega⟩ it (fun i hi => (hd1 i hi).same hsm) (fun i hi => (hd2 i hi).same hsm)).okMono hm

end Go.Proofs.Ytjhhcdiipbjiaab
