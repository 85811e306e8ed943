/- What a value's Args must be: oneEach, items and ofArgs by their contracts. -/
import Derived.Test.YtdninmanfncfiadRepT
import Derived.Test.YtdninmanfncfiadValF
import Derived.Test.YtdninmanfncfiadAppG
import Derived.Deep.RegionHeld3
import Derived.Deep.DeepCutAuto
namespace Go.Proofs.Ytdninmanfncfiad
open Go.ChangeShapes Go.WideShapes Go.ChangeAt Go.RowKit
set_option linter.unusedVariables false

theorem info_cl : (Try.prog.info? 53).map (fun i => (i.zero, i.size, i.bytes)) = some (some (.agg #[.int .i64 0, .slice none 0 0, .int .i64 0, .int .i64 0, .int .i64 0, .string ⟨#[]⟩, .slice none 0 0, .slice none 0 0, .slice none 0 0]), 9, 144) := by kernel_rfl

def aggC : Value → List Value
  | .agg xs => xs.toList
  | _ => []

/-- the cells of claims -/
def flatC (cs : List (Value × Value)) : List Value := cs.flatMap fun p => aggC p.1 ++ aggC p.2

def OwnsK (B : Nat) (w : World) (v : Value) (cs : List (Value × Value)) : Prop := w.ownsRow B 53 9 v cs.length (flatC cs)

/-- each claim's type and value lie in w -/
def ClaimsOk (w : World) : List (Ty × Va) → List (Value × Value) → Prop
  | [], [] => True
  | p :: C, q :: cs => (LiesT (fun _ => True) w p.1 q.1 ∧ LiesV (fun _ => True) w p.2 q.2) ∧ ClaimsOk w C cs
  | [], _ :: _ => False
  | _ :: _, [] => False

theorem flatC_append (a b : List (Value × Value)) : flatC (a ++ b) = flatC a ++ flatC b := by simp [flatC]

theorem ClaimsOk.len {w : World} : ∀ {C : List (Ty × Va)} {cs : List (Value × Value)}, ClaimsOk w C cs → cs.length = C.length
  | [], [], _ => rfl
  | _ :: _, _ :: _, h => by simp [ClaimsOk.len h.2]
  | [], _ :: _, h => h.elim
  | _ :: _, [], h => h.elim

theorem ClaimsOk.append {w : World} : ∀ {C D : List (Ty × Va)} {cs ds : List (Value × Value)}, ClaimsOk w C cs → ClaimsOk w D ds → ClaimsOk w (C ++ D) (cs ++ ds)
  | [], D, [], ds, _, h => h
  | _ :: _, _, _ :: _, _, h, k => ⟨h.1, ClaimsOk.append h.2 k⟩
  | [], _, _ :: _, _, h, _ => h.elim
  | _ :: _, _, [], _, h, _ => h.elim

theorem ClaimsOk.last {w : World} {cs : List (Value × Value)} {q : Value × Value} : ∀ {C : List (Ty × Va)}, ClaimsOk w C (cs ++ [q]) → ∃ C' p, C = C' ++ [p] ∧ ClaimsOk w C' cs ∧ LiesT (fun _ => True) w p.1 q.1 ∧ LiesV (fun _ => True) w p.2 q.2 := by
  induction cs with
  | nil =>
    intro C h
    match C, h with
    | [p], h => exact ⟨[], p, rfl, trivial, h.1.1, h.1.2⟩
    | _ :: _ :: _, h => exact h.2.elim
    | [], h => exact h.elim
  | cons x cs ih =>
    intro C h
    match C, h with
    | r :: C, h =>
      obtain ⟨C', p, rfl, h1, h2⟩ := ih h.2
      exact ⟨r :: C', p, rfl, ⟨h.1, h1⟩, h2⟩
    | [], h => exact h.elim

theorem nine {w : World} {T : Ty} {x : Va} {u v : Value} (h1 : LiesT (fun _ => True) w T u) (h2 : LiesV (fun _ => True) w x v) : (aggC u ++ aggC v).length = 9 ∧ ∀ z ∈ aggC u ++ aggC v, z.oneCell' = true := by
  obtain ⟨a, c, V, rfl, it, hR⟩ := h1.inv
  obtain ⟨k, n, aa, s, p, al, ac, ta, tl, tc, na, nl, nc, rfl⟩ := h2.vaV
  refine ⟨rfl, fun z hz => ?_⟩
  simp [aggC, tyV, vaV] at hz
  rcases hz with rfl | rfl | rfl | rfl | rfl | rfl | rfl | rfl | rfl <;> rfl

theorem flatC_len {w : World} : ∀ {C : List (Ty × Va)} {cs : List (Value × Value)}, ClaimsOk w C cs → (flatC cs).length = cs.length * 9 ∧ ∀ z ∈ flatC cs, z.oneCell' = true
  | [], [], _ => ⟨rfl, fun z hz => by simp [flatC] at hz⟩
  | p :: C, q :: cs, h => by
    obtain ⟨e1, e2⟩ := flatC_len h.2
    obtain ⟨n1, n2⟩ := nine h.1.1 h.1.2
    have e : flatC (q :: cs) = (aggC q.1 ++ aggC q.2) ++ flatC cs := by simp [flatC]
    rw [e]
    refine ⟨by rw [List.length_append, n1, e1, List.length_cons]; omega, fun z hz => ?_⟩
    rcases List.mem_append.1 hz with hz | hz
    · exact n2 z hz
    · exact e2 z hz
  | [], _ :: _, h => h.elim
  | _ :: _, [], h => h.elim

end Go.Proofs.Ytdninmanfncfiad
