/- A list of what is left, that a function and a function made within it share: what it holds, and that it stays. -/
import Derived.Test.YtdninmanfncfiadFormed2
import Derived.Test.YtdninmanfncfiadAppG
namespace Go.Proofs.Ytdninmanfncfiad
open Go.ChangeShapes Go.WideShapes Go.ChangeAt Go.RowKit
set_option linter.unusedVariables false

/-- the least number that serves -/
theorem least_of {α : Type} (R : Nat → α → Prop) : ∃ μ : α → Nat, ∀ x n, R n x → R (μ x) x ∧ μ x ≤ n := by
  have h : ∀ x, ∃ m, ∀ n, R n x → R m x ∧ m ≤ n := by
    intro x
    have key : ∀ n, R n x → ∃ m, R m x ∧ ∀ k, R k x → m ≤ k := by
      intro n
      induction n using Nat.strongRecOn with
      | _ n ih =>
        intro hn
        by_cases h : ∃ k, k < n ∧ R k x
        · obtain ⟨k, hk, hr⟩ := h
          exact ih k hk hr
        · exact ⟨n, hn, fun k hk => Nat.le_of_not_lt fun hlt => h ⟨k, hlt, hk⟩⟩
    by_cases hx : ∃ n, R n x
    · obtain ⟨n, hn⟩ := hx
      obtain ⟨m, h1, h2⟩ := key n hn
      exact ⟨m, fun k hk => ⟨h1, h2 k hk⟩⟩
    · exact ⟨0, fun n hn => absurd ⟨n, hn⟩ hx⟩
  exact ⟨fun x => Classical.choose (h x), fun x => Classical.choose_spec (h x)⟩

theorem info_sl : (Try.prog.info? 22).map (fun i => (i.zero, i.size, i.bytes)) = some (some (.slice none 0 0), 1, 24) := by kernel_rfl

/-- the slice v is the call's own and holds the slices vs -/
def OwnsS (B : Nat) (w : World) (v : Value) (vs : List Value) : Prop := w.ownsRow B 22 1 v vs.length vs

/-- one slice put behind a list of the call's own -/
theorem appS {ops : Array Oper} {rest : List Oper} {o : Oper} {a : Act} {Q : Exit → Act → World → Prop} (B : Nat) (vs : List Value) (sa : Option Addr) (sl sc : Nat) (w0 : World) (v : Value) (hgd : o.guard = none) (s x : Operand)
    (ho : o.op = .call { callee := .builtin .append, args := #[s, x], argTypes := #[93, 93] }) (hs : a.eval s = v) {H : Nat} (hx : a.eval x = .slice (some ⟨H, 0, none⟩) 1 1) (hH : w0.heap.size = H)
    (hown : OwnsS B w0 v vs) (hB : B ≤ w0.heap.size) (hlen : vs.length ≤ 100000000)
    (h : ∀ g cap w', OwnsS B w' (.slice (some ⟨g, 0, none⟩) (vs.length + 1) cap) (vs ++ [.slice sa sl sc]) → Gr w0 v w' (.slice (some ⟨g, 0, none⟩) (vs.length + 1) cap) → wpList Try.prog ops Q rest (a.put o.dst (.slice (some ⟨g, 0, none⟩) (vs.length + 1) cap)) w') :
    wpList Try.prog ops Q (o :: rest) a (w0.alloc (.cells #[.slice sa sl sc] 22)) := by
  obtain ⟨i0, hi, hz0, hz1, hz2⟩ := info_parts info_sl
  subst hH
  refine wpList_append_lies _ hgd s x 93 ho B 22 i0 _ 1 24 Try.underlying93 hi hz0 hz1 hz2 rfl (by decide) v vs.length vs hs (World.ownsRow.alloc hown _) ⟨w0.heap.size, 0, none⟩ 1 1 [.slice sa sl sc] hx rfl ?_ ?_ (by decide) ?_ ?_ ?_ _ rfl ?_
  · exact World.news_of_block (w := w0.alloc _) (B := w0.heap.size) (cs := #[.slice sa sl sc]) (heap_alloc_new _ _)
  · intro u hu; simp at hu; subst hu; rfl
  · unfold maxLen; omega
  · omega
  · simp; omega
  · intro g cap w' h1 h2 h3 _
    refine h g cap w' ?_ ?_
    · unfold OwnsS; rw [List.length_append]; exact h1
    · refine Gr.trans (Gr.alloc (Gr.refl w0 v) _) ⟨h2, ?_⟩
      rcases h3 with h3 | h3
      · exact .inl h3.symm
      · exact .inr ⟨g, rfl, by omega⟩

/-- an owned row cut shorter -/
theorem own_cut {w : World} {B : Nat} {e : TypeId} {g cap n : Nat} {vs : List Value} {u : Value} (h : w.ownsRow B e 1 (.slice (some ⟨g, 0, none⟩) (n + 1) cap) (n + 1) (vs ++ [u])) : w.ownsRow B e 1 (.slice (some ⟨g, 0, none⟩) n cap) n vs := by
  have hl := h.1
  simp at hl
  refine ⟨by omega, ?_⟩
  rcases h.2 with ⟨hx, _⟩ | ⟨g', cap', cur, hx, h1, h2, h3, h4, h5, h6⟩
  · simp at hx
  · simp only [Value.slice.injEq, Option.some.injEq, Addr.mk.injEq, and_true, true_and] at hx
    obtain ⟨rfl, rfl⟩ := hx
    refine .inr ⟨g, cap, cur, rfl, h1, h2, by omega, h4, h5, ?_⟩
    have h7 := congrArg (List.take n) h6
    rw [List.take_take] at h7
    simp only [Nat.mul_one] at h7 ⊢
    rw [show min n (n + 1) = n from by omega] at h7
    rw [h7, List.take_append_of_le_length (by omega), List.take_of_length_le (by omega)]

end Go.Proofs.Ytdninmanfncfiad
