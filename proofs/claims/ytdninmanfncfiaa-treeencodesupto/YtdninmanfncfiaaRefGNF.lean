/- The document's own GoodNode, the plain part: a list of nodes still to be seen, with their depths. -/
import Derived.Test.YtdninmanfncfiaaMem
namespace Go.Proofs.Ytdninmanfncfiaa
set_option linter.unusedVariables false

/-- the first that is wrong in a list of trees with depths -/
def fW : List (Nat × Tr) → Int
  | [] => 0
  | x :: l => if firstW x.1 x.2 ≠ 0 then firstW x.1 x.2 else fW l

/-- how many nodes they hold -/
def szW : List (Nat × Tr) → Nat
  | [] => 0
  | x :: l => x.2.size + szW l

/-- what is put in a node's place: its Args, one deeper -/
def kids (d : Nat) (args : List Tr) : List (Nat × Tr) := args.map fun t => (d + 1, t)

theorem fW_append (l m : List (Nat × Tr)) : fW (l ++ m) = if fW l ≠ 0 then fW l else fW m := by
  induction l with
  | nil => simp [fW]
  | cons x l ih =>
    rw [List.cons_append]
    by_cases h : firstW x.1 x.2 = 0
    · have h1 : ∀ r, fW (x :: r) = fW r := fun r => by rw [fW, if_neg (by simpa using h)]
      rw [h1, h1, ih]
    · have h1 : ∀ r, fW (x :: r) = firstW x.1 x.2 := fun r => by rw [fW, if_pos h]
      rw [h1, h1, if_pos h]

theorem fW_kids (d : Nat) (args : List Tr) : fW (kids d args) = firstWs (d + 1) args := by
  induction args with
  | nil => simp [kids, fW, firstWs]
  | cons t l ih =>
    have h : kids d (t :: l) = (d + 1, t) :: kids d l := rfl
    rw [h, fW, firstWs, ih]

theorem szW_append (l m : List (Nat × Tr)) : szW (l ++ m) = szW l + szW m := by
  induction l with
  | nil => simp [szW]
  | cons x l ih => simp only [List.cons_append, szW, ih]; omega

theorem szW_kids (d : Nat) (args : List Tr) : szW (kids d args) = sizes args := by
  induction args with
  | nil => simp [kids, szW, sizes]
  | cons t l ih =>
    have h : kids d (t :: l) = (d + 1, t) :: kids d l := rfl
    rw [h, szW, sizes, ih]

theorem fW_deep {d : Nat} {t : Tr} {l : List (Nat × Tr)} (h : 24 < d) : fW ((d, t) :: l) = 4 := by
  cases t with
  | nd k n p s args =>
    have : firstW d (.nd k n p s args) = 4 := by rw [firstW, if_pos h]
    simp [fW, this]

theorem fW_wrong {d : Nat} {k n p : Int} {s : ByteArray} {args : List Tr} {l : List (Nat × Tr)} (h : ¬ 24 < d) (hw : ¬ Lf.wrongF k n p s args.length = 0) : fW ((d, .nd k n p s args) :: l) = Lf.wrongF k n p s args.length := by
  have : firstW d (.nd k n p s args) = Lf.wrongF k n p s args.length := by rw [firstW, if_neg h, if_pos hw]
  simp only [fW, this]
  rw [if_pos hw]

theorem fW_step {d : Nat} {k n p : Int} {s : ByteArray} {args : List Tr} {l : List (Nat × Tr)} (h : ¬ 24 < d) (hw : Lf.wrongF k n p s args.length = 0) : fW ((d, .nd k n p s args) :: l) = fW (kids d args ++ l) := by
  have : firstW d (.nd k n p s args) = firstWs (d + 1) args := by rw [firstW, if_neg h, if_neg (by simpa using hw)]
  rw [fW_append, fW_kids]
  simp only [fW, this]

theorem szW_step {d : Nat} {k n p : Int} {s : ByteArray} {args : List Tr} {l : List (Nat × Tr)} : szW ((d, .nd k n p s args) :: l) = szW (kids d args ++ l) + 1 := by
  rw [szW_append, szW_kids, szW]
  show (Tr.nd k n p s args).size + szW l = _
  rw [Tr.size]; omega

theorem goodF_row (t : Tr) : goodF t = if fW [(1, t)] ≠ 0 then fW [(1, t)] else if 300 < szW [(1, t)] then 4 else 0 := by
  have h1 : fW [(1, t)] = firstW 1 t := by
    simp only [fW]
    by_cases h : firstW 1 t = 0
    · rw [if_neg (by simpa using h), h]
    · rw [if_pos h]
  have h2 : szW [(1, t)] = t.size := by simp [szW]
  rw [h1, h2]
  rfl

end Go.Proofs.Ytdninmanfncfiaa
