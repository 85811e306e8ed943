/- slices.Grow of no list, by its contract. -/
import Derived.Test.YtmmgihaoahhkjaaBasis
import Derived.Lib.AppendZeros
namespace Go.Proofs.Ytmmgihaoahhkjaa
open Go.ChangeShapes Go.WideShapes Go.ChangeAt Go.RowKit
set_option linter.unusedVariables false

/-- a list of zeros put behind no list: room that is the call's own -/
theorem zeros_own {P : Program} (w : World) (t tn ty e : TypeId) (k kn : IntKind) (z : Value) (size bytes : Nat) (hinfo : (P.info? e).map (fun i => (i.zero, i.size, i.bytes)) = some (some z, size, bytes)) (ht : P.underlying t = some (.slice e)) (htn : P.underlying tn = some (.int kn))
    (n : Nat) (h0 : 0 < n) (hs : 0 < size) (hzs : z.cells.size = size) (hn : n ≤ 1000000000) (hb : bytes ≤ 1000) :
    ∃ g cap w', (Builtin.append_ #[t, tn] ty #[.slice none 0 0, .int k n]).run P w = .ok (.slice (some ⟨g, 0, none⟩) n cap) w' ∧ w'.ownsRow w.heap.size e size (.slice (some ⟨g, 0, none⟩) 0 cap) 0 [] ∧ w.grownBy w' none ∧ n ≤ cap ∧ cap ≤ 9223372036854775807 := by
  obtain ⟨i0, hi, hz0, hz1, hz2⟩ := info_parts hinfo
  have hbb : n * i0.bytes ≤ 1000000000 * 1000 := by rw [hz2]; exact Nat.mul_le_mul hn hb
  have hr := Lib.run_append_nil_zeros w t tn ty e i0 z k kn ht htn hi hz0 n h0 (by omega) (by omega) (by omega)
  have hge := grownCap_ge w n 0 e
  have hcm : grownCap w n 0 e ≤ maxLen := grownCap_le_maxLen w n 0 e (by unfold maxLen; omega)
  refine ⟨_, _, _, hr, ⟨by simp, .inr ⟨w.heap.size, _, _, rfl, Nat.le_refl _, heap_alloc_new w.drew _, Nat.zero_le _, hcm, ?_, by simp⟩⟩, ⟨rfl, rfl, rfl, by simp, fun k hk _ => heap_alloc_old w.drew _ hk⟩, hge, by unfold maxLen at hcm; omega⟩
  simp only [Array.size_append, size_zeroCells, hzs, ← Nat.add_mul]
  congr 1
  omega

theorem info_vaG : (Try.prog.info? 28).map (fun i => (i.zero, i.size, i.bytes)) = some (some (.agg #[.int .i64 0, .int .i64 0, .int .i64 0, .string ⟨#[]⟩, .slice none 0 0, .slice none 0 0, .slice none 0 0]), 7, 112) := by kernel_rfl

set_option maxRecDepth 100000 in
set_option maxHeartbeats 1000000 in
theorem growV_any (n : Nat) (hn : n ≤ 20000000) (W : World) :
    Calls Try.prog 107 #[.slice none 0 0, .int .i64 n] W fun e w' => ∃ v, e = .returned v ∧ w'.ownsRow W.heap.size 28 7 v 0 [] ∧ W.grownBy w' none := by
  have h63 : (n : Int) ≤ 20000000 := by omega
  have h0n : ¬ (n : Int) < 0 := by omega
  by_cases h : n = 0
  · subst h
    go_enter Try.func107, Try.ntmps107
    go_wp2_with fail
    go_ret
    exact ⟨_, rfl, World.ownsRow_nil _ _ _ _, grow_refl _ _⟩
  · obtain ⟨g, cap, w1, hr, ho, hg, hc, hc2⟩ := zeros_own W 25 3 25 28 .i64 .i64 _ 7 112 info_vaG Try.underlying25 Try.underlying3 n (by omega) (by decide) rfl (by omega) (by decide)
    have hpos : (n : Int) > 0 := by omega
    have HO := Lf.hide ho
    have HG := Lf.hide hg
    clear ho hg
    go_enter Try.func107, Try.ntmps107
    go_wp2_with (at_builtin; refine Lib.wpList_append_run _ rfl _ _ _ _ rfl _ _ rfl rfl _ _ hr ?_)
    go_ret
    exact ⟨_, rfl, HO.out, HG.out⟩

end Go.Proofs.Ytmmgihaoahhkjaa
