/- The row of nodes with depths that the document's own GoodNode keeps: what it holds, and how it is put behind, read and cut. -/
import Derived.Test.YthjpngaapflclacGreatBasis
import Derived.Laws.OwnMore
import Derived.Test.YthjpngaapflclacGreatTreeA
namespace Go.Proofs.YthjpngaapflclacGreat
set_option maxRecDepth 20000
open Go.ChangeShapes Go.WideShapes Go.ChangeAt Go.RowKit
set_option linter.unusedVariables false

theorem info_deep : (Tryz.prog.info? 62).map (fun i => (i.zero, i.size, i.bytes)) = some (some (.agg #[.int .i64 0, .int .i64 0, .int .i64 0, .string ⟨#[]⟩, .slice none 0 0, .int .i64 0]), 6, 72) := by kernel_rfl

/-- a node with its depth, as it lies in the row -/
structure Dp where
  k : Int
  n : Int
  p : Int
  s : ByteArray
  a : Option Addr
  l : Nat
  c : Nat
  d : Nat

def Dp.cells (x : Dp) : List Value := [.int .i64 x.k, .int .i64 x.n, .int .i64 x.p, .string x.s, .slice x.a x.l x.c, .int .i64 x.d]
def dflat (xs : List Dp) : List Value := xs.flatMap Dp.cells

/-- the slice v is the call's own and holds the nodes xs -/
def OwnsD (B : Nat) (w : World) (v : Value) (xs : List Dp) : Prop := w.ownsRow B 62 6 v xs.length (dflat xs)

theorem dflat_append (a b : List Dp) : dflat (a ++ b) = dflat a ++ dflat b := by simp [dflat]
theorem dflat_cons (x : Dp) (l : List Dp) : dflat (x :: l) = x.cells ++ dflat l := by simp [dflat]

theorem dflat_len : ∀ xs : List Dp, (dflat xs).length = xs.length * 6
  | [] => by simp [dflat]
  | x :: xs => by rw [dflat_cons, List.length_append, dflat_len xs]; simp [Dp.cells]; omega

theorem dflat_one (xs : List Dp) : ∀ u ∈ dflat xs, u.oneCell' = true := by
  intro u hu
  obtain ⟨x, _, hx⟩ := List.mem_flatMap.1 hu
  simp [Dp.cells] at hx
  rcases hx with rfl | rfl | rfl | rfl | rfl | rfl <;> rfl

theorem dflat_get : ∀ (xs : List Dp) (i j : Nat) (x : Dp), xs[i]? = some x → j < 6 → (dflat xs)[i * 6 + j]? = x.cells[j]?
  | [], i, j, x, h, _ => by simp at h
  | y :: xs, 0, j, x, h, hj => by
    simp at h; subst h
    rw [dflat_cons, List.getElem?_append_left (by simp [Dp.cells]; omega)]
    simp
  | y :: xs, i + 1, j, x, h, hj => by
    simp at h
    rw [dflat_cons, List.getElem?_append_right (by simp [Dp.cells]; omega)]
    have e : (i + 1) * 6 + j - y.cells.length = i * 6 + j := by simp [Dp.cells]; omega
    rw [e]
    exact dflat_get xs i j x h hj

/-- an element's cells -/
theorem OwnsD.cell {B : Nat} {w : World} {g n cap : Nat} {xs : List Dp} (h : OwnsD B w (.slice (some ⟨g, 0, none⟩) n cap) xs) (hn : xs.length = n) {i : Nat} {x : Dp} (hx : xs[i]? = some x) :
    w.cell? ⟨g, i * 6, none⟩ = some (.int .i64 x.k) ∧ w.cell? ⟨g, i * 6 + 1, none⟩ = some (.int .i64 x.n) ∧ w.cell? ⟨g, i * 6 + 2, none⟩ = some (.int .i64 x.p) ∧ w.cell? ⟨g, i * 6 + 3, none⟩ = some (.string x.s) ∧ w.cell? ⟨g, i * 6 + 4, none⟩ = some (.slice x.a x.l x.c) ∧ w.cell? ⟨g, i * 6 + 5, none⟩ = some (.int .i64 x.d) := by
  subst hn
  have hi := (List.getElem?_eq_some_iff.1 hx).1
  have key : ∀ j, j < 6 → w.cell? ⟨g, i * 6 + j, none⟩ = x.cells[j]? := fun j hj => by
    rw [World.ownsRow.cellAt h (i * 6 + j) (by omega), dflat_get xs i j x hx hj]
  exact ⟨key 0 (by omega), key 1 (by omega), key 2 (by omega), key 3 (by omega), key 4 (by omega), key 5 (by omega)⟩

/-- a row cut shorter -/
theorem OwnsD.cut {B : Nat} {w : World} {g n cap : Nat} {xs ys : List Dp} (h : OwnsD B w (.slice (some ⟨g, 0, none⟩) n cap) (xs ++ ys)) : OwnsD B w (.slice (some ⟨g, 0, none⟩) xs.length cap) xs := by
  refine ⟨dflat_len xs, ?_⟩
  rcases h.2 with ⟨hx, _⟩ | ⟨g', cap', cur, hx, h1, h2, h3, h4, h5, h6⟩
  · simp at hx
  · simp only [Value.slice.injEq, Option.some.injEq, Addr.mk.injEq, and_true] at hx
    obtain ⟨rfl, hn, rfl⟩ := hx
    rw [List.length_append] at h3 h6
    refine .inr ⟨g, cap, cur, rfl, h1, h2, by omega, h4, h5, ?_⟩
    have h7 := congrArg (List.take (xs.length * 6)) h6
    rw [List.take_take, show min (xs.length * 6) ((xs.length + ys.length) * 6) = xs.length * 6 from by omega, dflat_append, List.take_append_of_le_length (by rw [dflat_len]; exact Nat.le_refl _)] at h7
    rw [h7, List.take_of_length_le (by rw [dflat_len]; exact Nat.le_refl _)]

/-- what is put behind a row of the call's own: the elements ys, which lie at ad -/
theorem appDs {ops : Array Oper} {rest : List Oper} {o : Oper} {a : Act} {Q : Exit → Act → World → Prop} (B : Nat) (xs ys : List Dp) (w0 : World) (v : Value) (hgd : o.guard = none) (s x : Operand)
    (ho : o.op = .call { callee := .builtin .append, args := #[s, x], argTypes := #[63, 63] }) (hs : a.eval s = v) (ad : Addr) (m c : Nat) (hx : a.eval x = .slice (some ad) m c) (hm : ys.length = m) (hm0 : 0 < m)
    (hnews : ∀ j u, (dflat ys)[j]? = some u → w0.cell? (ad.add j) = some u) (hown : OwnsD B w0 v xs) (hB : B ≤ w0.heap.size) (hlen : xs.length + ys.length ≤ 100000000)
    (h : ∀ g cap w', OwnsD B w' (.slice (some ⟨g, 0, none⟩) (xs.length + m) cap) (xs ++ ys) → Gr w0 v w' (.slice (some ⟨g, 0, none⟩) (xs.length + m) cap) → wpList Tryz.prog ops Q rest (a.put o.dst (.slice (some ⟨g, 0, none⟩) (xs.length + m) cap)) w') :
    wpList Tryz.prog ops Q (o :: rest) a w0 := by
  obtain ⟨i0, hi, hz0, hz1, hz2⟩ := info_parts info_deep
  subst hm
  refine wpList_append_lies _ hgd s x 63 ho B 62 i0 _ 6 72 Tryz.underlying63 hi hz0 hz1 hz2 rfl (by decide) v xs.length (dflat xs) hs hown ad ys.length c (dflat ys) hx (dflat_len ys) hnews (dflat_one ys) hm0 ?_ ?_ hB _ rfl ?_
  · unfold maxLen; omega
  · omega
  · intro g cap w' h1 h2 h3 _
    refine h g cap w' ?_ ⟨h2, ?_⟩
    · unfold OwnsD; rw [dflat_append, List.length_append]; exact h1
    · rcases h3 with h3 | h3
      · exact .inl h3.symm
      · exact .inr ⟨g, rfl, by omega⟩

end Go.Proofs.YthjpngaapflclacGreat

/- The document's own GoodNode, the plain part: a list of nodes still to be seen, with their depths. -/
namespace Go.Proofs.YthjpngaapflclacGreat
set_option linter.unusedVariables false

/-- the first that is wrong in a list of trees with depths -/
def fW : List (Nat × Tr) → Int
  | [] => 0
  | x :: l => if firstW x.1 x.2 ≠ 0 then firstW x.1 x.2 else fW l

/-- how many nodes they hold -/
def szW : List (Nat × Tr) → Nat
  | [] => 0
  | x :: l => x.2.size + szW l

/-- what is put in a node's place: its Args, one deeper -/
def kids (d : Nat) (args : List Tr) : List (Nat × Tr) := args.map fun t => (d + 1, t)

theorem fW_append (l m : List (Nat × Tr)) : fW (l ++ m) = if fW l ≠ 0 then fW l else fW m := by
  induction l with
  | nil => simp [fW]
  | cons x l ih =>
    rw [List.cons_append]
    by_cases h : firstW x.1 x.2 = 0
    · have h1 : ∀ r, fW (x :: r) = fW r := fun r => by rw [fW, if_neg (by simpa using h)]
      rw [h1, h1, ih]
    · have h1 : ∀ r, fW (x :: r) = firstW x.1 x.2 := fun r => by rw [fW, if_pos h]
      rw [h1, h1, if_pos h]

theorem fW_kids (d : Nat) (args : List Tr) : fW (kids d args) = firstWs (d + 1) args := by
  induction args with
  | nil => simp [kids, fW, firstWs]
  | cons t l ih =>
    have h : kids d (t :: l) = (d + 1, t) :: kids d l := rfl
    rw [h, fW, firstWs, ih]

theorem szW_append (l m : List (Nat × Tr)) : szW (l ++ m) = szW l + szW m := by
  induction l with
  | nil => simp [szW]
  | cons x l ih => simp only [List.cons_append, szW, ih]; omega

theorem szW_kids (d : Nat) (args : List Tr) : szW (kids d args) = sizes args := by
  induction args with
  | nil => simp [kids, szW, sizes]
  | cons t l ih =>
    have h : kids d (t :: l) = (d + 1, t) :: kids d l := rfl
    rw [h, szW, sizes, ih]

theorem fW_deep {d : Nat} {t : Tr} {l : List (Nat × Tr)} (h : 24 < d) : fW ((d, t) :: l) = 4 := by
  cases t with
  | nd k n p s args =>
    have : firstW d (.nd k n p s args) = 4 := by rw [firstW, if_pos h]
    simp [fW, this]

theorem fW_wrong {d : Nat} {k n p : Int} {s : ByteArray} {args : List Tr} {l : List (Nat × Tr)} (h : ¬ 24 < d) (hw : ¬ Lf.wrongF k n p s args.length = 0) : fW ((d, .nd k n p s args) :: l) = Lf.wrongF k n p s args.length := by
  have : firstW d (.nd k n p s args) = Lf.wrongF k n p s args.length := by rw [firstW, if_neg h, if_pos hw]
  simp only [fW, this]
  rw [if_pos hw]

theorem fW_step {d : Nat} {k n p : Int} {s : ByteArray} {args : List Tr} {l : List (Nat × Tr)} (h : ¬ 24 < d) (hw : Lf.wrongF k n p s args.length = 0) : fW ((d, .nd k n p s args) :: l) = fW (kids d args ++ l) := by
  have : firstW d (.nd k n p s args) = firstWs (d + 1) args := by rw [firstW, if_neg h, if_neg (by simpa using hw)]
  rw [fW_append, fW_kids]
  simp only [fW, this]

theorem szW_step {d : Nat} {k n p : Int} {s : ByteArray} {args : List Tr} {l : List (Nat × Tr)} : szW ((d, .nd k n p s args) :: l) = szW (kids d args ++ l) + 1 := by
  rw [szW_append, szW_kids, szW]
  show (Tr.nd k n p s args).size + szW l = _
  rw [Tr.size]; omega

theorem goodF_row (t : Tr) : goodF t = if fW [(1, t)] ≠ 0 then fW [(1, t)] else if 300 < szW [(1, t)] then 4 else 0 := by
  have h1 : fW [(1, t)] = firstW 1 t := by
    simp only [fW]
    by_cases h : firstW 1 t = 0
    · rw [if_neg (by simpa using h), h]
    · rw [if_pos h]
  have h2 : szW [(1, t)] = t.size := by simp [szW]
  rw [h1, h2]
  rfl

end Go.Proofs.YthjpngaapflclacGreat

/- The row of the document's own GoodNode, held against a list of trees with depths; what is put behind it. -/
namespace Go.Proofs.YthjpngaapflclacGreat
set_option maxRecDepth 20000
open Go.ChangeShapes Go.WideShapes Go.ChangeAt Go.RowKit
set_option linter.unusedVariables false

/-- the row's elements stand for trees with depths, which lie in w -/
def RowOf (w : World) : List (Nat × Tr) → List Dp → Prop
  | [], [] => True
  | p :: L, y :: ys => (y.d = p.1 ∧ Lies (fun _ => True) w p.2 (nodeV y.k y.n y.p y.s y.a y.l y.c)) ∧ RowOf w L ys
  | [], _ :: _ => False
  | _ :: _, [] => False

theorem RowOf.append {w : World} : ∀ {L M : List (Nat × Tr)} {ys zs : List Dp}, RowOf w L ys → RowOf w M zs → RowOf w (L ++ M) (ys ++ zs)
  | [], M, [], zs, _, h => h
  | p :: L, M, y :: ys, zs, h, k => ⟨h.1, RowOf.append h.2 k⟩
  | [], _, _ :: _, _, h, _ => h.elim
  | _ :: _, _, [], _, h, _ => h.elim

theorem RowOf.len {w : World} : ∀ {L : List (Nat × Tr)} {ys : List Dp}, RowOf w L ys → ys.length = L.length
  | [], [], _ => rfl
  | p :: L, y :: ys, h => by simp [RowOf.len h.2]
  | [], _ :: _, h => h.elim
  | _ :: _, [], h => h.elim

theorem len_szW : ∀ L : List (Nat × Tr), L.length ≤ szW L
  | [] => by simp
  | x :: L => by have := len_szW L; have := size_pos x.2; simp [szW]; omega

theorem kids_take_succ (d : Nat) (args : List Tr) (j : Nat) (h : j < args.length) : kids d (args.take (j + 1)) = kids d (args.take j) ++ [(d + 1, args[j])] := by
  unfold kids; rw [List.take_succ_eq_append_getElem h, List.map_append]; rfl

theorem kids_len (d : Nat) (args : List Tr) : (kids d args).length = args.length := by simp [kids]

/-- a row put behind a row of the call's own -/
theorem appD {ops : Array Oper} {rest : List Oper} {o : Oper} {a : Act} {Q : Exit → Act → World → Prop} (B : Nat) (xs ys : List Dp) (w0 : World) (v xv : Value) (hgd : o.guard = none) (s x : Operand)
    (ho : o.op = .call { callee := .builtin .append, args := #[s, x], argTypes := #[63, 63] }) (hs : a.eval s = v) (hx : a.eval x = xv)
    (hsrc : SrcAt w0 xv ys.length (dflat ys)) (hown : OwnsD B w0 v xs) (hB : B ≤ w0.heap.size) (hlen : xs.length + ys.length ≤ 100000000)
    (h : ∀ v' w', OwnsD B w' v' (xs ++ ys) → Gr w0 v w' v' → (v' = .slice none 0 0 ↔ v = .slice none 0 0 ∧ ys.length = 0) → wpList Tryz.prog ops Q rest (a.put o.dst v') w') :
    wpList Tryz.prog ops Q (o :: rest) a w0 := by
  refine wpList_app hgd s x 63 ho B 62 Tryz.underlying63 info_deep rfl (by decide) v xs.length (dflat xs) hs hown xv ys.length (dflat ys) hx (dflat_len ys) hsrc (dflat_one ys) ?_ ?_ hB ?_
  · unfold maxLen; omega
  · omega
  · intro v' w' h1 h2 h3
    exact h v' w' (by unfold OwnsD; rw [dflat_append, List.length_append]; exact h1) h2 h3

/-- the rest of an owned row, as what is put behind another -/
theorem OwnsD.tail {B : Nat} {w : World} {g n cap : Nat} {xs ys : List Dp} (h : OwnsD B w (.slice (some ⟨g, 0, none⟩) n cap) (xs ++ ys)) (hn : xs.length + ys.length = n) (c : Nat) :
    SrcAt w (.slice (some ⟨g, xs.length * 6, none⟩) ys.length c) ys.length (dflat ys) := by
  refine .inr ⟨_, _, rfl, fun j u hu => ?_⟩
  have hj : j < ys.length * 6 := by rw [← dflat_len]; exact (List.getElem?_eq_some_iff.1 hu).1
  subst hn
  rw [← List.length_append] at h
  have h2 := World.ownsRow.cellAt h (xs.length * 6 + j) (by rw [List.length_append]; omega)
  rw [dflat_append, List.getElem?_append_right (by rw [dflat_len]; omega), dflat_len, show xs.length * 6 + j - xs.length * 6 = j from by omega, hu] at h2
  have hadd : (⟨g, xs.length * 6, none⟩ : Addr).add j = ⟨g, xs.length * 6 + j, none⟩ := by unfold Addr.add; split <;> simp_all
  rw [hadd]; exact h2

theorem same_all {w w' : World} (h : w.grownBy w' none) : Same (fun _ => True) w w' := fun b o _ hlt => World.cell?_of_block (h.block b hlt (by simp))

theorem gmore0 (n p : Int) (s : ByteArray) (l : Nat) : Lf.moreB 0 n p s l = decide (p ≠ 0 ∨ s.size ≠ 0 ∨ l ≠ 0) := by unfold Lf.moreB; rw [if_pos rfl]
theorem gmore1 (n p : Int) (s : ByteArray) (l : Nat) : Lf.moreB 1 n p s l = decide (n ≠ 0 ∨ p ≠ 0 ∨ l ≠ 0) := by unfold Lf.moreB; rw [if_neg (by decide), if_pos rfl]
theorem gmore2 (n p : Int) (s : ByteArray) (l : Nat) : Lf.moreB 2 n p s l = decide (n ≠ 0 ∨ s.size ≠ 0) := by unfold Lf.moreB; rw [if_neg (by decide), if_neg (by decide), if_pos rfl]
theorem gmore3 (n p : Int) (s : ByteArray) (l : Nat) : Lf.moreB 3 n p s l = decide (n ≠ 0 ∨ p ≠ 0 ∨ s.size ≠ 0) := by unfold Lf.moreB; rw [if_neg (by decide), if_neg (by decide), if_neg (by decide)]

theorem box6 {w : World} {g : Nat} {T : TypeId} {x0 x1 x2 x3 x4 x5 : Value} (h : w.heap[g]? = some (.cells #[x0, x1, x2, x3, x4, x5] T (0, 0))) :
    w.cell? ⟨g, 0, none⟩ = some x0 ∧ w.cell? ⟨g, 1, none⟩ = some x1 ∧ w.cell? ⟨g, 2, none⟩ = some x2 ∧ w.cell? ⟨g, 3, none⟩ = some x3 ∧ w.cell? ⟨g, 4, none⟩ = some x4 ∧ w.cell? ⟨g, 5, none⟩ = some x5 := by
  simp [World.cell?, h]

/-- an owned row stays where another row grows -/
theorem OwnsD.keep {B : Nat} {w w' : World} {v v2 v2' : Value} {xs : List Dp} (h : OwnsD B w v xs) (hg : Gr w v2 w' v2') (hne : v.ownBlock = none ∨ v.ownBlock ≠ v2.ownBlock) : OwnsD B w' v xs :=
  World.ownsRow.kept h hg.1 hne

end Go.Proofs.YthjpngaapflclacGreat
