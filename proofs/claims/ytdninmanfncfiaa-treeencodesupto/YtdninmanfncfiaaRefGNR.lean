/- The row of the document's own GoodNode, held against a list of trees with depths; what is put behind it. -/
import Derived.Test.YtdninmanfncfiaaRefGNM
import Derived.Test.YtdninmanfncfiaaRefGNF
import Derived.Test.YtdninmanfncfiaaAppG
namespace Go.Proofs.Ytdninmanfncfiaa
open Go.ChangeShapes Go.WideShapes Go.ChangeAt Go.RowKit
set_option linter.unusedVariables false

/-- the row's elements stand for trees with depths, which lie in w -/
def RowOf (w : World) : List (Nat × Tr) → List Dp → Prop
  | [], [] => True
  | p :: L, y :: ys => (y.d = p.1 ∧ Lies (fun _ => True) w p.2 (nodeV y.k y.n y.p y.s y.a y.l y.c)) ∧ RowOf w L ys
  | [], _ :: _ => False
  | _ :: _, [] => False

theorem RowOf.append {w : World} : ∀ {L M : List (Nat × Tr)} {ys zs : List Dp}, RowOf w L ys → RowOf w M zs → RowOf w (L ++ M) (ys ++ zs)
  | [], M, [], zs, _, h => h
  | p :: L, M, y :: ys, zs, h, k => ⟨h.1, RowOf.append h.2 k⟩
  | [], _, _ :: _, _, h, _ => h.elim
  | _ :: _, _, [], _, h, _ => h.elim

theorem RowOf.len {w : World} : ∀ {L : List (Nat × Tr)} {ys : List Dp}, RowOf w L ys → ys.length = L.length
  | [], [], _ => rfl
  | p :: L, y :: ys, h => by simp [RowOf.len h.2]
  | [], _ :: _, h => h.elim
  | _ :: _, [], h => h.elim

theorem len_szW : ∀ L : List (Nat × Tr), L.length ≤ szW L
  | [] => by simp
  | x :: L => by have := len_szW L; have := size_pos x.2; simp [szW]; omega

theorem kids_take_succ (d : Nat) (args : List Tr) (j : Nat) (h : j < args.length) : kids d (args.take (j + 1)) = kids d (args.take j) ++ [(d + 1, args[j])] := by
  unfold kids; rw [List.take_succ_eq_append_getElem h, List.map_append]; rfl

theorem kids_len (d : Nat) (args : List Tr) : (kids d args).length = args.length := by simp [kids]

/-- a row put behind a row of the call's own -/
theorem appD {ops : Array Oper} {rest : List Oper} {o : Oper} {a : Act} {Q : Exit → Act → World → Prop} (B : Nat) (xs ys : List Dp) (w0 : World) (v xv : Value) (hgd : o.guard = none) (s x : Operand)
    (ho : o.op = .call { callee := .builtin .append, args := #[s, x], argTypes := #[55, 55] }) (hs : a.eval s = v) (hx : a.eval x = xv)
    (hsrc : SrcAt w0 xv ys.length (dflat ys)) (hown : OwnsD B w0 v xs) (hB : B ≤ w0.heap.size) (hlen : xs.length + ys.length ≤ 100000000)
    (h : ∀ v' w', OwnsD B w' v' (xs ++ ys) → Gr w0 v w' v' → (v' = .slice none 0 0 ↔ v = .slice none 0 0 ∧ ys.length = 0) → wpList Try.prog ops Q rest (a.put o.dst v') w') :
    wpList Try.prog ops Q (o :: rest) a w0 := by
  refine wpList_app hgd s x 55 ho B 54 Try.underlying55 info_deep rfl (by decide) v xs.length (dflat xs) hs hown xv ys.length (dflat ys) hx (dflat_len ys) hsrc (dflat_one ys) ?_ ?_ hB ?_
  · unfold maxLen; omega
  · omega
  · intro v' w' h1 h2 h3
    exact h v' w' (by unfold OwnsD; rw [dflat_append, List.length_append]; exact h1) h2 h3

/-- the rest of an owned row, as what is put behind another -/
theorem OwnsD.tail {B : Nat} {w : World} {g n cap : Nat} {xs ys : List Dp} (h : OwnsD B w (.slice (some ⟨g, 0, none⟩) n cap) (xs ++ ys)) (hn : xs.length + ys.length = n) (c : Nat) :
    SrcAt w (.slice (some ⟨g, xs.length * 6, none⟩) ys.length c) ys.length (dflat ys) := by
  refine .inr ⟨_, _, rfl, fun j u hu => ?_⟩
  have hj : j < ys.length * 6 := by rw [← dflat_len]; exact (List.getElem?_eq_some_iff.1 hu).1
  subst hn
  rw [← List.length_append] at h
  have h2 := World.ownsRow.cellAt h (xs.length * 6 + j) (by rw [List.length_append]; omega)
  rw [dflat_append, List.getElem?_append_right (by rw [dflat_len]; omega), dflat_len, show xs.length * 6 + j - xs.length * 6 = j from by omega, hu] at h2
  have hadd : (⟨g, xs.length * 6, none⟩ : Addr).add j = ⟨g, xs.length * 6 + j, none⟩ := by unfold Addr.add; split <;> simp_all
  rw [hadd]; exact h2

theorem same_all {w w' : World} (h : w.grownBy w' none) : Same (fun _ => True) w w' := fun b o _ hlt => World.cell?_of_block (h.block b hlt (by simp))

theorem more0 (n p : Int) (s : ByteArray) (l : Nat) : Lf.moreB 0 n p s l = decide (p ≠ 0 ∨ s.size ≠ 0 ∨ l ≠ 0) := by unfold Lf.moreB; rw [if_pos rfl]
theorem more1 (n p : Int) (s : ByteArray) (l : Nat) : Lf.moreB 1 n p s l = decide (n ≠ 0 ∨ p ≠ 0 ∨ l ≠ 0) := by unfold Lf.moreB; rw [if_neg (by decide), if_pos rfl]
theorem more2 (n p : Int) (s : ByteArray) (l : Nat) : Lf.moreB 2 n p s l = decide (n ≠ 0 ∨ s.size ≠ 0) := by unfold Lf.moreB; rw [if_neg (by decide), if_neg (by decide), if_pos rfl]
theorem more3 (n p : Int) (s : ByteArray) (l : Nat) : Lf.moreB 3 n p s l = decide (n ≠ 0 ∨ p ≠ 0 ∨ s.size ≠ 0) := by unfold Lf.moreB; rw [if_neg (by decide), if_neg (by decide), if_neg (by decide)]

theorem box6 {w : World} {g : Nat} {T : TypeId} {x0 x1 x2 x3 x4 x5 : Value} (h : w.heap[g]? = some (.cells #[x0, x1, x2, x3, x4, x5] T (0, 0))) :
    w.cell? ⟨g, 0, none⟩ = some x0 ∧ w.cell? ⟨g, 1, none⟩ = some x1 ∧ w.cell? ⟨g, 2, none⟩ = some x2 ∧ w.cell? ⟨g, 3, none⟩ = some x3 ∧ w.cell? ⟨g, 4, none⟩ = some x4 ∧ w.cell? ⟨g, 5, none⟩ = some x5 := by
  simp [World.cell?, h]

/-- an owned row stays where another row grows -/
theorem OwnsD.keep {B : Nat} {w w' : World} {v v2 v2' : Value} {xs : List Dp} (h : OwnsD B w v xs) (hg : Gr w v2 w' v2') (hne : v.ownBlock = none ∨ v.ownBlock ≠ v2.ownBlock) : OwnsD B w' v xs :=
  World.ownsRow.kept h hg.1 hne

end Go.Proofs.Ytdninmanfncfiaa
