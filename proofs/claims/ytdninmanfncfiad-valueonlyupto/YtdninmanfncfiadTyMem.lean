/- Types as plain data, and what it is that a type lies in memory. -/
import Derived.Test.YtdninmanfncfiadBase
namespace Go.Proofs.Ytdninmanfncfiad
open Go.ChangeShapes Go.WideShapes Go.ChangeAt Go.RowKit

/-- a type -/
inductive Ty where
  | nd (t : Int) (args : List Ty)

def Ty.t : Ty → Int
  | .nd t _ => t
def Ty.args : Ty → List Ty
  | .nd _ l => l

mutual
def Ty.size : Ty → Nat
  | .nd _ args => tysizes args + 1
def tysizes : List Ty → Nat
  | [] => 0
  | t :: ts => t.size + tysizes ts
end

theorem tysizes_append (a b : List Ty) : tysizes (a ++ b) = tysizes a + tysizes b := by
  induction a with
  | nil => simp [tysizes]
  | cons t ts ih => simp [tysizes, ih]; omega

theorem tysize_pos (t : Ty) : 1 ≤ t.size := by cases t; simp [Ty.size]

theorem tysizes_take_succ (l : List Ty) (i : Nat) (h : i < l.length) : tysizes (l.take (i + 1)) = tysizes (l.take i) + (l[i]).size := by
  rw [List.take_succ_eq_append_getElem h, tysizes_append]; simp [tysizes]

theorem tysizes_take_le (l : List Ty) (i : Nat) : tysizes (l.take i) ≤ tysizes l := by
  have h := tysizes_append (l.take i) (l.drop i)
  rw [List.take_append_drop] at h; omega

theorem tylength_le (l : List Ty) : l.length ≤ tysizes l := by
  induction l with
  | nil => simp
  | cons t ts ih => have := tysize_pos t; simp [tysizes]; omega

theorem tysize_mem {l : List Ty} {x : Ty} (h : x ∈ l) : x.size ≤ tysizes l := by
  induction l with
  | nil => simp at h
  | cons t ts ih =>
    simp [tysizes]
    rcases List.mem_cons.1 h with rfl | h
    · omega
    · have := ih h; omega

/-- a type's value -/
def tyV (t : Int) (a : Option Addr) (l c : Nat) : Value := .agg #[.int .i64 t, .slice a l c]

/-- element i of the slice at a holds the type's value v -/
def TyAt (ok : Nat → Prop) (w : World) (a : Option Addr) (i : Nat) (v : Value) : Prop :=
  ∃ b o, a = some ⟨b, o, none⟩ ∧ ok b ∧ ∃ t a' l c, v = tyV t a' l c ∧ w.cell? ⟨b, o + i * 2, none⟩ = some (.int .i64 t) ∧ w.cell? ⟨b, o + i * 2 + 1, none⟩ = some (.slice a' l c)

inductive LiesT (ok : Nat → Prop) (w : World) : Ty → Value → Prop
  | mk {t : Int} {args : List Ty} {a : Option Addr} {c : Nat} (V : Nat → Value) (hl : args.length ≤ maxLen) (hlc : args.length ≤ c) (it : I64 t)
      (hc : ∀ i, i < args.length → TyAt ok w a i (V i)) (hr : ∀ i (h : i < args.length), LiesT ok w args[i] (V i)) : LiesT ok w (.nd t args) (tyV t a args.length c)

/-- a list of types lies in memory -/
def RowT (ok : Nat → Prop) (w : World) (ts : List Ty) (a : Option Addr) (V : Nat → Value) : Prop :=
  ts.length ≤ maxLen ∧ (∀ i, i < ts.length → TyAt ok w a i (V i)) ∧ ∀ i (h : i < ts.length), LiesT ok w ts[i] (V i)

theorem TyAt.same {ok : Nat → Prop} {w w' : World} {a : Option Addr} {i : Nat} {v : Value} (h : TyAt ok w a i v) (hs : Same ok w w') : TyAt ok w' a i v := by
  obtain ⟨b, o, ha, hb, t, a', l, c, hv, h0, h1⟩ := h
  have hlt : b < w.heap.size := World.block_lt_of_cell? w _ h0
  exact ⟨b, o, ha, hb, t, a', l, c, hv, (hs _ _ hb hlt).trans h0, (hs _ _ hb hlt).trans h1⟩

theorem TyAt.okMono {ok ok' : Nat → Prop} {w : World} {a : Option Addr} {i : Nat} {v : Value} (h : TyAt ok w a i v) (hm : ∀ b, b < w.heap.size → ok b → ok' b) : TyAt ok' w a i v := by
  obtain ⟨b, o, ha, hb, t, a', l, c, hv, h0, h1⟩ := h
  exact ⟨b, o, ha, hm b (World.block_lt_of_cell? w _ h0) hb, t, a', l, c, hv, h0, h1⟩

theorem LiesT.same {ok : Nat → Prop} {w w' : World} {t : Ty} {v : Value} (h : LiesT ok w t v) (hs : Same ok w w') : LiesT ok w' t v := by
  induction h with
  | mk V hl hlc it hc _ ih => exact .mk V hl hlc it (fun i hi => (hc i hi).same hs) ih

theorem LiesT.okMono {ok ok' : Nat → Prop} {w : World} {t : Ty} {v : Value} (h : LiesT ok w t v) (hm : ∀ b, b < w.heap.size → ok b → ok' b) : LiesT ok' w t v := by
  induction h with
  | mk V hl hlc it hc _ ih => exact .mk V hl hlc it (fun i hi => (hc i hi).okMono hm) ih

theorem RowT.same {ok : Nat → Prop} {w w' : World} {ts : List Ty} {a : Option Addr} {V : Nat → Value} (h : RowT ok w ts a V) (hs : Same ok w w') : RowT ok w' ts a V :=
  ⟨h.1, fun i hi => (h.2.1 i hi).same hs, fun i hi => (h.2.2 i hi).same hs⟩

theorem RowT.okMono {ok ok' : Nat → Prop} {w : World} {ts : List Ty} {a : Option Addr} {V : Nat → Value} (h : RowT ok w ts a V) (hm : ∀ b, b < w.heap.size → ok b → ok' b) : RowT ok' w ts a V :=
  ⟨h.1, fun i hi => (h.2.1 i hi).okMono hm, fun i hi => (h.2.2 i hi).okMono hm⟩

theorem RowT.nil (ok : Nat → Prop) (w : World) (a : Option Addr) (V : Nat → Value) : RowT ok w [] a V :=
  ⟨by simp [maxLen], fun i hi => by simp at hi, fun i hi => by simp at hi⟩

/-- what lies as a type, opened -/
theorem LiesT.inv {ok : Nat → Prop} {w : World} {t : Ty} {v : Value} (h : LiesT ok w t v) : ∃ a c V, v = tyV t.t a t.args.length c ∧ I64 t.t ∧ RowT ok w t.args a V := by
  cases h with
  | mk V hl hlc it hc hr => exact ⟨_, _, V, rfl, it, hl, hc, hr⟩

theorem LiesT.cap {ok : Nat → Prop} {w : World} {T : Ty} {t : Int} {a : Option Addr} {l c : Nat} (h : LiesT ok w T (Go.Proofs.Ytdninmanfncfiad.tyV t a l c)) : l ≤ c := by
  generalize hv : Go.Proofs.Ytdninmanfncfiad.tyV t a l c = v at h
  cases h with
  | mk V hl hlc it hc hr =>
    unfold Go.Proofs.Ytdninmanfncfiad.tyV at hv
    simp only [Value.agg.injEq, Array.mk.injEq, List.cons.injEq, Value.slice.injEq, and_true] at hv
    omega

/-- an owned slice's capacity -/
theorem own_capT {w : World} {B : Nat} {e : TypeId} {size n : Nat} {v : Value} {xs : List Value} (h : w.ownsRow B e size v n xs) {a : Option Addr} {l c : Nat} (hv : v = .slice a l c) : l ≤ c := by
  subst hv
  rcases h.2 with ⟨hq, _⟩ | ⟨g, cap, cur, hq, _, _, hnc, _⟩
  · simp only [Value.slice.injEq] at hq; omega
  · simp only [Value.slice.injEq] at hq; omega

theorem LiesT.of {ok : Nat → Prop} {w : World} {t : Int} {ts : List Ty} {a : Option Addr} {c : Nat} {V : Nat → Value} (it : I64 t) (h : RowT ok w ts a V) (hlc : ts.length ≤ c) : LiesT ok w (.nd t ts) (tyV t a ts.length c) :=
  .mk V h.1 hlc it h.2.1 h.2.2

/-- cells of an element -/
theorem TyAt.cells {ok : Nat → Prop} {w : World} {a : Option Addr} {i : Nat} {v : Value} (h : TyAt ok w a i v) :
    ∃ b o t a' l c, a = some ⟨b, o, none⟩ ∧ ok b ∧ v = tyV t a' l c ∧ w.cell? ⟨b, o + i * 2, none⟩ = some (.int .i64 t) ∧ w.cell? ⟨b, o + i * 2 + 1, none⟩ = some (.slice a' l c) := by
  obtain ⟨b, o, ha, hb, t, a', l, c, hv, h0, h1⟩ := h
  exact ⟨b, o, t, a', l, c, ha, hb, hv, h0, h1⟩

end Go.Proofs.Ytdninmanfncfiad
