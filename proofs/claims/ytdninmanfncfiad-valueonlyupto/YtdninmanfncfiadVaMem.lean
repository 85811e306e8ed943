/- Values as plain data, and what it is that a value lies in memory. -/
import Derived.Test.YtdninmanfncfiadTyMem
namespace Go.Proofs.Ytdninmanfncfiad
open Go.ChangeShapes Go.WideShapes Go.ChangeAt Go.RowKit

/-- a value -/
inductive Va where
  | mk (k n a : Int) (s : ByteArray) (args : List Va) (types : List Ty) (code : List Tr)

def Va.k : Va → Int
  | .mk k _ _ _ _ _ _ => k
def Va.n : Va → Int
  | .mk _ n _ _ _ _ _ => n
def Va.a : Va → Int
  | .mk _ _ a _ _ _ _ => a
def Va.s : Va → ByteArray
  | .mk _ _ _ s _ _ _ => s
def Va.args : Va → List Va
  | .mk _ _ _ _ l _ _ => l
def Va.types : Va → List Ty
  | .mk _ _ _ _ _ t _ => t
def Va.code : Va → List Tr
  | .mk _ _ _ _ _ _ c => c

mutual
def Va.size : Va → Nat
  | .mk _ _ _ _ args types code => vsizes args + tysizes types + sizes code + 1
def vsizes : List Va → Nat
  | [] => 0
  | t :: ts => t.size + vsizes ts
end

theorem vsizes_append (a b : List Va) : vsizes (a ++ b) = vsizes a + vsizes b := by
  induction a with
  | nil => simp [vsizes]
  | cons t ts ih => simp [vsizes, ih]; omega

theorem vsize_pos (t : Va) : 1 ≤ t.size := by cases t; simp [Va.size]

theorem vsize_eq (v : Va) : v.size = vsizes v.args + tysizes v.types + sizes v.code + 1 := by cases v; simp [Va.size, Va.args, Va.types, Va.code]

theorem vsizes_take_succ (l : List Va) (i : Nat) (h : i < l.length) : vsizes (l.take (i + 1)) = vsizes (l.take i) + (l[i]).size := by
  rw [List.take_succ_eq_append_getElem h, vsizes_append]; simp [vsizes]

theorem vsizes_take_le (l : List Va) (i : Nat) : vsizes (l.take i) ≤ vsizes l := by
  have h := vsizes_append (l.take i) (l.drop i)
  rw [List.take_append_drop] at h; omega

theorem vlength_le (l : List Va) : l.length ≤ vsizes l := by
  induction l with
  | nil => simp
  | cons t ts ih => have := vsize_pos t; simp [vsizes]; omega

theorem vsize_mem {l : List Va} {x : Va} (h : x ∈ l) : x.size ≤ vsizes l := by
  induction l with
  | nil => simp at h
  | cons t ts ih =>
    simp [vsizes]
    rcases List.mem_cons.1 h with rfl | h
    · omega
    · have := ih h; omega

/-- a list of nodes lies in memory -/
def RowN (ok : Nat → Prop) (w : World) (ts : List Tr) (a : Option Addr) (V : Nat → Value) : Prop :=
  ts.length ≤ maxLen ∧ (∀ i, i < ts.length → NodeAt ok w a i (V i)) ∧ ∀ i (h : i < ts.length), Lies ok w ts[i] (V i)

theorem NodeAt.okMono {ok ok' : Nat → Prop} {w : World} {a : Option Addr} {i : Nat} {v : Value} (h : NodeAt ok w a i v) (hm : ∀ b, b < w.heap.size → ok b → ok' b) : NodeAt ok' w a i v := by
  obtain ⟨b, o, ha, hb, k, n, p, s, a', l, c, hv, h0, h1⟩ := h
  exact ⟨b, o, ha, hm b (World.block_lt_of_cell? w _ h0) hb, k, n, p, s, a', l, c, hv, h0, h1⟩

theorem RowN.same {ok : Nat → Prop} {w w' : World} {ts : List Tr} {a : Option Addr} {V : Nat → Value} (h : RowN ok w ts a V) (hs : Same ok w w') : RowN ok w' ts a V :=
  ⟨h.1, fun i hi => (h.2.1 i hi).same hs, fun i hi => (h.2.2 i hi).same hs⟩

theorem RowN.okMono {ok ok' : Nat → Prop} {w : World} {ts : List Tr} {a : Option Addr} {V : Nat → Value} (h : RowN ok w ts a V) (hm : ∀ b, b < w.heap.size → ok b → ok' b) : RowN ok' w ts a V :=
  ⟨h.1, fun i hi => (h.2.1 i hi).okMono hm, fun i hi => (h.2.2 i hi).okMono hm⟩

theorem RowN.nil (ok : Nat → Prop) (w : World) (a : Option Addr) (V : Nat → Value) : RowN ok w [] a V :=
  ⟨by simp [maxLen], fun i hi => by simp at hi, fun i hi => by simp at hi⟩

/-- a value's value -/
def vaV (k n a : Int) (s : ByteArray) (aa : Option Addr) (al ac : Nat) (ta : Option Addr) (tl tc : Nat) (na : Option Addr) (nl nc : Nat) : Value :=
  .agg #[.int .i64 k, .int .i64 n, .int .i64 a, .string s, .slice aa al ac, .slice ta tl tc, .slice na nl nc]

/-- element i of the slice at a holds the value v -/
def VaAt (ok : Nat → Prop) (w : World) (p : Option Addr) (i : Nat) (v : Value) : Prop :=
  ∃ b o, p = some ⟨b, o, none⟩ ∧ ok b ∧ ∃ k n a s aa al ac ta tl tc na nl nc, v = vaV k n a s aa al ac ta tl tc na nl nc ∧ w.cell? ⟨b, o + i * 7, none⟩ = some (.int .i64 k) ∧ w.cell? ⟨b, o + i * 7 + 1, none⟩ = some (.int .i64 n) ∧
    w.cell? ⟨b, o + i * 7 + 2, none⟩ = some (.int .i64 a) ∧ w.cell? ⟨b, o + i * 7 + 3, none⟩ = some (.string s) ∧ w.cell? ⟨b, o + i * 7 + 4, none⟩ = some (.slice aa al ac) ∧ w.cell? ⟨b, o + i * 7 + 5, none⟩ = some (.slice ta tl tc) ∧ w.cell? ⟨b, o + i * 7 + 6, none⟩ = some (.slice na nl nc)

inductive LiesV (ok : Nat → Prop) (w : World) : Va → Value → Prop
  | mk {k n a : Int} {s : ByteArray} {args : List Va} {types : List Ty} {code : List Tr} {aa ta na : Option Addr} {ac tc nc : Nat} (V VT VN : Nat → Value) (hl : args.length ≤ maxLen) (hlc : args.length ≤ ac) (hs : s.size ≤ maxLen) (ik : I64 k) (iN : I64 n) (ia : I64 a)
      (hT : RowT ok w types ta VT) (hN : RowN ok w code na VN)
      (hc : ∀ i, i < args.length → VaAt ok w aa i (V i)) (hr : ∀ i (h : i < args.length), LiesV ok w args[i] (V i)) : LiesV ok w (.mk k n a s args types code) (vaV k n a s aa args.length ac ta types.length tc na code.length nc)

/-- a list of values lies in memory -/
def RowVa (ok : Nat → Prop) (w : World) (ts : List Va) (a : Option Addr) (V : Nat → Value) : Prop :=
  ts.length ≤ maxLen ∧ (∀ i, i < ts.length → VaAt ok w a i (V i)) ∧ ∀ i (h : i < ts.length), LiesV ok w ts[i] (V i)

theorem VaAt.same {ok : Nat → Prop} {w w' : World} {p : Option Addr} {i : Nat} {v : Value} (h : VaAt ok w p i v) (hs : Same ok w w') : VaAt ok w' p i v := by
  obtain ⟨b, o, hp, hb, k, n, a, s, aa, al, ac, ta, tl, tc, na, nl, nc, hv, h0, h1, h2, h3, h4, h5, h6⟩ := h
  have hlt : b < w.heap.size := World.block_lt_of_cell? w _ h0
  exact ⟨b, o, hp, hb, k, n, a, s, aa, al, ac, ta, tl, tc, na, nl, nc, hv, (hs _ _ hb hlt).trans h0, (hs _ _ hb hlt).trans h1, (hs _ _ hb hlt).trans h2, (hs _ _ hb hlt).trans h3, (hs _ _ hb hlt).trans h4, (hs _ _ hb hlt).trans h5, (hs _ _ hb hlt).trans h6⟩

theorem VaAt.okMono {ok ok' : Nat → Prop} {w : World} {p : Option Addr} {i : Nat} {v : Value} (h : VaAt ok w p i v) (hm : ∀ b, b < w.heap.size → ok b → ok' b) : VaAt ok' w p i v := by
  obtain ⟨b, o, hp, hb, k, n, a, s, aa, al, ac, ta, tl, tc, na, nl, nc, hv, h0, h1⟩ := h
  exact ⟨b, o, hp, hm b (World.block_lt_of_cell? w _ h0) hb, k, n, a, s, aa, al, ac, ta, tl, tc, na, nl, nc, hv, h0, h1⟩

theorem LiesV.same {ok : Nat → Prop} {w w' : World} {t : Va} {v : Value} (h : LiesV ok w t v) (hs : Same ok w w') : LiesV ok w' t v := by
  induction h with
  | mk V VT VN hl hlc hS ik iN ia hT hN hc _ ih => exact .mk V VT VN hl hlc hS ik iN ia (hT.same hs) (hN.same hs) (fun i hi => (hc i hi).same hs) ih

theorem LiesV.okMono {ok ok' : Nat → Prop} {w : World} {t : Va} {v : Value} (h : LiesV ok w t v) (hm : ∀ b, b < w.heap.size → ok b → ok' b) : LiesV ok' w t v := by
  induction h with
  | mk V VT VN hl hlc hS ik iN ia hT hN hc _ ih => exact .mk V VT VN hl hlc hS ik iN ia (hT.okMono hm) (hN.okMono hm) (fun i hi => (hc i hi).okMono hm) ih

theorem RowVa.same {ok : Nat → Prop} {w w' : World} {ts : List Va} {a : Option Addr} {V : Nat → Value} (h : RowVa ok w ts a V) (hs : Same ok w w') : RowVa ok w' ts a V :=
  ⟨h.1, fun i hi => (h.2.1 i hi).same hs, fun i hi => (h.2.2 i hi).same hs⟩

theorem RowVa.okMono {ok ok' : Nat → Prop} {w : World} {ts : List Va} {a : Option Addr} {V : Nat → Value} (h : RowVa ok w ts a V) (hm : ∀ b, b < w.heap.size → ok b → ok' b) : RowVa ok' w ts a V :=
  ⟨h.1, fun i hi => (h.2.1 i hi).okMono hm, fun i hi => (h.2.2 i hi).okMono hm⟩

theorem RowVa.nil (ok : Nat → Prop) (w : World) (a : Option Addr) (V : Nat → Value) : RowVa ok w [] a V :=
  ⟨by simp [maxLen], fun i hi => by simp at hi, fun i hi => by simp at hi⟩

/-- what lies as a value, opened -/
theorem LiesV.inv {ok : Nat → Prop} {w : World} {x : Va} {v : Value} (h : LiesV ok w x v) : ∃ aa ac ta tc na nc V VT VN, v = vaV x.k x.n x.a x.s aa x.args.length ac ta x.types.length tc na x.code.length nc ∧ (I64 x.k ∧ I64 x.n ∧ I64 x.a ∧ x.s.size ≤ maxLen ∧ x.args.length ≤ ac) ∧ RowVa ok w x.args aa V ∧ RowT ok w x.types ta VT ∧ RowN ok w x.code na VN := by
  cases h with
  | mk V VT VN hl hlc hs ik iN ia hT hN hc hr => exact ⟨_, _, _, _, _, _, V, VT, VN, rfl, ⟨ik, iN, ia, hs, hlc⟩, ⟨hl, hc, hr⟩, hT, hN⟩

theorem LiesV.of {ok : Nat → Prop} {w : World} {k n a : Int} {s : ByteArray} {args : List Va} {types : List Ty} {code : List Tr} {aa ta na : Option Addr} {ac tc nc : Nat} {V VT VN : Nat → Value} (hlc : args.length ≤ ac) (hs : s.size ≤ maxLen) (ik : I64 k) (iN : I64 n) (ia : I64 a)
    (h : RowVa ok w args aa V) (hT : RowT ok w types ta VT) (hN : RowN ok w code na VN) : LiesV ok w (.mk k n a s args types code) (vaV k n a s aa args.length ac ta types.length tc na code.length nc) :=
  .mk V VT VN h.1 hlc hs ik iN ia hT hN h.2.1 h.2.2

theorem LiesV.vaV {ok : Nat → Prop} {w : World} {t : Va} {u : Value} (h : LiesV ok w t u) : ∃ k n a s aa al ac ta tl tc na nl nc, u = vaV k n a s aa al ac ta tl tc na nl nc := by cases h; exact ⟨_, _, _, _, _, _, _, _, _, _, _, _, _, rfl⟩

/-- the cells of a block of seven -/
theorem box7 {w : World} {g : Nat} {T : TypeId} {x0 x1 x2 x3 x4 x5 x6 : Value} (h : w.heap[g]? = some (.cells #[x0, x1, x2, x3, x4, x5, x6] T (0, 0))) :
    w.cell? ⟨g, 0, none⟩ = some x0 ∧ w.cell? ⟨g, 1, none⟩ = some x1 ∧ w.cell? ⟨g, 2, none⟩ = some x2 ∧ w.cell? ⟨g, 3, none⟩ = some x3 ∧ w.cell? ⟨g, 4, none⟩ = some x4 ∧ w.cell? ⟨g, 5, none⟩ = some x5 ∧ w.cell? ⟨g, 6, none⟩ = some x6 := by
  simp [World.cell?, h]

theorem sameAll {w w' : World} (h : w.grownBy w' none) : Same (fun _ => True) w w' := fun b o _ hlt => World.cell?_of_block (h.block b hlt (by simp))

end Go.Proofs.Ytdninmanfncfiad
