/- Trees as plain data, and what it is that a tree lies in memory. -/
import Derived.Test.YtdninmanfncfiadLeaf
namespace Go.Proofs.Ytdninmanfncfiad
open Go.ChangeShapes Go.WideShapes Go.ChangeAt Go.RowKit

mutual
/-- what is wrong with the first node that something is wrong with, the first node being d deep -/
def firstW (d : Nat) : Tr → Int
  | .nd k n p s args => if 24 < d then 4 else if Lf.wrongF k n p s args.length ≠ 0 then Lf.wrongF k n p s args.length else firstWs (d + 1) args
def firstWs (d : Nat) : List Tr → Int
  | [] => 0
  | t :: ts => if firstW d t ≠ 0 then firstW d t else firstWs d ts
end

def goodF (t : Tr) : Int := if firstW 1 t ≠ 0 then firstW 1 t else if 300 < t.size then 4 else 0

theorem firstWs_take_succ {d : Nat} {l : List Tr} {i : Nat} (h : i < l.length) (h0 : firstWs d (l.take i) = 0) : firstWs d (l.take (i + 1)) = firstW d l[i] := by
  induction l generalizing i with
  | nil => simp at h
  | cons t ts ih =>
    cases i with
    | zero => simp [firstWs]; exact fun h => h.symm
    | succ i =>
      simp only [List.take_succ_cons, firstWs] at h0 ⊢
      by_cases ht : firstW d t = 0
      · simp [ht] at h0 ⊢; exact ih (by simpa using h) h0
      · simp [ht] at h0

theorem firstWs_of_take {d : Nat} {l : List Tr} {i : Nat} (h : firstWs d (l.take i) ≠ 0) : firstWs d l = firstWs d (l.take i) := by
  induction l generalizing i with
  | nil => simp
  | cons t ts ih =>
    cases i with
    | zero => simp [firstWs] at h
    | succ i =>
      simp only [List.take_succ_cons, firstWs] at h ⊢
      by_cases ht : firstW d t = 0
      · simp [ht] at h ⊢; exact ih h
      · simp [ht]

end Go.Proofs.Ytdninmanfncfiad
