/-
  NARROWER THAN 'FOR EVERY INPUT', by the rows' own cells (each row's printed sentence says how): TopHeld: loops · TopMade: loops · TopSpent: loops · TopParts: loops · TopRuns: loops.
  DERIVED. THE GIVEN ROWS OF THIS SEAT. 5 by the template 'for every input the law returns true; each argument reads behind the call as it read before'; 0 by the template 'total and deterministic' (their statements: YtnamdihclpbdfabGreatTotals.lean).
  GIVEN WITH THE SEED: the statements are not yours to turn. If you find one false, say at which input.
  Laid BY PROGRAM, IN A SANDBOX (cutbox-rows.mjs): the forced cells as the released guide's own fill.sh prints them over the translation 7276bce0dc7888e8… (all of the seat's roots in one cut). By AI agents, Wed Nov 11 2026. No macro, syntax, notation, axiom, sorry.
-/
import Derived.Test.YtnamdihclpbdfabGreatChecked
import GoSem.Claim
import GoSem.ClaimJoined
import GoSem.ClaimMapViews
import Derived.JoinedTies
import Derived.KernelRfl
namespace Go.Proofs.YtnamdihclpbdfabGreat
/- THE CELL 'sum', in the pinned program and in every row, IS THE sha256 OF THE DUMP (.gsa) THAT YtnamdihclpbdfabGreatProg.lean LOADS. Nothing in Lean hashes anything: it is a label: what it is worth is what the hold of that sum in a sandbox is worth. -/
noncomputable def Tryz.pinned : Pinned := { name := "ytnamdihclpbdfabgreat", sum := "7276bce0dc7888e8080d447313c33390e4c51cdc27232630650b0fa38fd31984", checked := Tryz.checked }
namespace Rows
def none {H : Type} : Left H := { results := [], args := [] }

/-- 'touchstonetop.TopHeld': WHATEVER THE INPUT: true; the input reads as it did. -/
def topHeldSpec : ChangeSpec := { name := "topHeld", fn := fun _ => fun
  | [d1, d2, d3, d4] => { results := [.lit (.bool true)], args := [d1, d2, d3, d4] }
  | _ => none }
def topHeldRow : OpenClaim := { program := "ytnamdihclpbdfabgreat", sum := "7276bce0dc7888e8080d447313c33390e4c51cdc27232630650b0fa38fd31984", func := "touchstone/touchstonetop.TopHeld", spec := "topHeld", inPlace := ["slices.overlaps[touchstone/api.Value]"], unfollowed := true, recurses := true, loops := true, apart := false }
def TopHeldSaid : Prop := topHeldRow.holds Tryz.pinned (OpenSpec.ofChange topHeldSpec)

/-- ITS FALSE NEIGHBOUR: 'it returns false'. Refute it at one input. -/
def topHeldWrong : ChangeSpec := { name := "topHeld", fn := fun _ => fun
  | [d1, d2, d3, d4] => { results := [.lit (.bool false)], args := [d1, d2, d3, d4] }
  | _ => none }
def TopHeldWrongFalsely : Prop := topHeldRow.holds Tryz.pinned (OpenSpec.ofChange topHeldWrong)

/-- 'touchstonetop.TopMade': WHATEVER THE INPUT: true; the input reads as it did. -/
def topMadeSpec : ChangeSpec := { name := "topMade", fn := fun _ => fun
  | [d] => { results := [.lit (.bool true)], args := [d] }
  | _ => none }
def topMadeRow : OpenClaim := { program := "ytnamdihclpbdfabgreat", sum := "7276bce0dc7888e8080d447313c33390e4c51cdc27232630650b0fa38fd31984", func := "touchstone/touchstonetop.TopMade", spec := "topMade", inPlace := ["slices.overlaps[touchstone/api.Value]"], unfollowed := true, recurses := true, loops := true, apart := false }
def TopMadeSaid : Prop := topMadeRow.holds Tryz.pinned (OpenSpec.ofChange topMadeSpec)

/-- ITS FALSE NEIGHBOUR: 'it returns false'. Refute it at one input. -/
def topMadeWrong : ChangeSpec := { name := "topMade", fn := fun _ => fun
  | [d] => { results := [.lit (.bool false)], args := [d] }
  | _ => none }
def TopMadeWrongFalsely : Prop := topMadeRow.holds Tryz.pinned (OpenSpec.ofChange topMadeWrong)

/-- 'touchstonetop.TopSpent': WHATEVER THE INPUT: true; the input reads as it did. -/
def topSpentSpec : ChangeSpec := { name := "topSpent", fn := fun _ => fun
  | [d] => { results := [.lit (.bool true)], args := [d] }
  | _ => none }
def topSpentRow : OpenClaim := { program := "ytnamdihclpbdfabgreat", sum := "7276bce0dc7888e8080d447313c33390e4c51cdc27232630650b0fa38fd31984", func := "touchstone/touchstonetop.TopSpent", spec := "topSpent", inPlace := ["slices.overlaps[touchstone/api.Value]"], unfollowed := true, recurses := true, loops := true, apart := false }
def TopSpentSaid : Prop := topSpentRow.holds Tryz.pinned (OpenSpec.ofChange topSpentSpec)

/-- ITS FALSE NEIGHBOUR: 'it returns false'. Refute it at one input. -/
def topSpentWrong : ChangeSpec := { name := "topSpent", fn := fun _ => fun
  | [d] => { results := [.lit (.bool false)], args := [d] }
  | _ => none }
def TopSpentWrongFalsely : Prop := topSpentRow.holds Tryz.pinned (OpenSpec.ofChange topSpentWrong)

/-- 'touchstonetop.TopParts': WHATEVER THE INPUT: true; the input reads as it did. -/
def topPartsSpec : ChangeSpec := { name := "topParts", fn := fun _ => fun
  | [d1, d2] => { results := [.lit (.bool true)], args := [d1, d2] }
  | _ => none }
def topPartsRow : OpenClaim := { program := "ytnamdihclpbdfabgreat", sum := "7276bce0dc7888e8080d447313c33390e4c51cdc27232630650b0fa38fd31984", func := "touchstone/touchstonetop.TopParts", spec := "topParts", inPlace := ["slices.overlaps[touchstone/api.Value]"], unfollowed := true, recurses := true, loops := true, apart := false }
def TopPartsSaid : Prop := topPartsRow.holds Tryz.pinned (OpenSpec.ofChange topPartsSpec)

/-- ITS FALSE NEIGHBOUR: 'it returns false'. Refute it at one input. -/
def topPartsWrong : ChangeSpec := { name := "topParts", fn := fun _ => fun
  | [d1, d2] => { results := [.lit (.bool false)], args := [d1, d2] }
  | _ => none }
def TopPartsWrongFalsely : Prop := topPartsRow.holds Tryz.pinned (OpenSpec.ofChange topPartsWrong)

/-- 'touchstonetop.TopRuns': WHATEVER THE INPUT: true; the input reads as it did. -/
def topRunsSpec : ChangeSpec := { name := "topRuns", fn := fun _ => fun
  | [d] => { results := [.lit (.bool true)], args := [d] }
  | _ => none }
def topRunsRow : OpenClaim := { program := "ytnamdihclpbdfabgreat", sum := "7276bce0dc7888e8080d447313c33390e4c51cdc27232630650b0fa38fd31984", func := "touchstone/touchstonetop.TopRuns", spec := "topRuns", inPlace := ["slices.overlaps[touchstone/api.Value]"], unfollowed := true, recurses := true, loops := true, apart := false }
def TopRunsSaid : Prop := topRunsRow.holds Tryz.pinned (OpenSpec.ofChange topRunsSpec)

/-- ITS FALSE NEIGHBOUR: 'it returns false'. Refute it at one input. -/
def topRunsWrong : ChangeSpec := { name := "topRuns", fn := fun _ => fun
  | [d] => { results := [.lit (.bool false)], args := [d] }
  | _ => none }
def TopRunsWrongFalsely : Prop := topRunsRow.holds Tryz.pinned (OpenSpec.ofChange topRunsWrong)

/- THE SECOND FORM. 'bulk': how many values and letters a reading holds, each counted each time it is reached (what is shared counts as often as it is met; a slice's spare places count too). A statement '..UptoSaid' is the law's where the arguments, and the package variables that the reading takes, are together of bulk at most 1048576: NARROWER than '..Said'. Prove '..Said' where nothing that the law and all that it calls make is longer than what came in: it says more and counts as full. Else prove '..UptoSaid'. A law counts once. -/
mutual
def uptoBulk {H : Type} : DataW H → Nat
  | .lit (.string bytes) => bytes.length + 1
  | .lit _ => 1
  | .nil => 1
  | .ptr d => uptoBulk d + 1
  | .slice elems spare => uptoBulkAll elems + uptoBulkAll spare + 1
  | .agg parts => uptoBulkAll parts + 1
  | .iface _ d => uptoBulk d + 1
  | .map entries => uptoBulkEntries entries + 1
  | .held _ => 1
def uptoBulkAll {H : Type} : List (DataW H) → Nat
  | [] => 0
  | d :: r => uptoBulk d + uptoBulkAll r
def uptoBulkEntries {H : Type} : List (Lit × DataW H) → Nat
  | [] => 0
  | x :: r => uptoBulkEntry x + uptoBulkEntries r
def uptoBulkEntry {H : Type} : Lit × DataW H → Nat
  | (.string bytes, d) => bytes.length + uptoBulk d + 1
  | (_, d) => uptoBulk d + 1
 end
def uptoSmall : (H : Type) → List (DataW H) → Bool := fun _ ds => decide (uptoBulkAll ds ≤ 1048576)
def OpenSpec.upto (s : _root_.Go.ChangeSpec) : _root_.Go.OpenSpec := { _root_.Go.OpenSpec.ofChange s with cond := some uptoSmall }

/-- 'touchstonetop.TopHeld', WHERE WHAT IT READS IS OF BULK AT MOST 1048576: true; the input reads as it did. -/
def topHeldUptoRow : OpenClaim := { program := "ytnamdihclpbdfabgreat", sum := "7276bce0dc7888e8080d447313c33390e4c51cdc27232630650b0fa38fd31984", func := "touchstone/touchstonetop.TopHeld", spec := "topHeld", inPlace := ["slices.overlaps[touchstone/api.Value]"], unfollowed := true, recurses := true, loops := true, apart := false, narrowed := true }
def TopHeldUptoSaid : Prop := topHeldUptoRow.holds Tryz.pinned (OpenSpec.upto topHeldSpec)

/-- 'touchstonetop.TopMade', WHERE WHAT IT READS IS OF BULK AT MOST 1048576: true; the input reads as it did. -/
def topMadeUptoRow : OpenClaim := { program := "ytnamdihclpbdfabgreat", sum := "7276bce0dc7888e8080d447313c33390e4c51cdc27232630650b0fa38fd31984", func := "touchstone/touchstonetop.TopMade", spec := "topMade", inPlace := ["slices.overlaps[touchstone/api.Value]"], unfollowed := true, recurses := true, loops := true, apart := false, narrowed := true }
def TopMadeUptoSaid : Prop := topMadeUptoRow.holds Tryz.pinned (OpenSpec.upto topMadeSpec)

/-- 'touchstonetop.TopSpent', WHERE WHAT IT READS IS OF BULK AT MOST 1048576: true; the input reads as it did. -/
def topSpentUptoRow : OpenClaim := { program := "ytnamdihclpbdfabgreat", sum := "7276bce0dc7888e8080d447313c33390e4c51cdc27232630650b0fa38fd31984", func := "touchstone/touchstonetop.TopSpent", spec := "topSpent", inPlace := ["slices.overlaps[touchstone/api.Value]"], unfollowed := true, recurses := true, loops := true, apart := false, narrowed := true }
def TopSpentUptoSaid : Prop := topSpentUptoRow.holds Tryz.pinned (OpenSpec.upto topSpentSpec)

/-- 'touchstonetop.TopParts', WHERE WHAT IT READS IS OF BULK AT MOST 1048576: true; the input reads as it did. -/
def topPartsUptoRow : OpenClaim := { program := "ytnamdihclpbdfabgreat", sum := "7276bce0dc7888e8080d447313c33390e4c51cdc27232630650b0fa38fd31984", func := "touchstone/touchstonetop.TopParts", spec := "topParts", inPlace := ["slices.overlaps[touchstone/api.Value]"], unfollowed := true, recurses := true, loops := true, apart := false, narrowed := true }
def TopPartsUptoSaid : Prop := topPartsUptoRow.holds Tryz.pinned (OpenSpec.upto topPartsSpec)

/-- 'touchstonetop.TopRuns', WHERE WHAT IT READS IS OF BULK AT MOST 1048576: true; the input reads as it did. -/
def topRunsUptoRow : OpenClaim := { program := "ytnamdihclpbdfabgreat", sum := "7276bce0dc7888e8080d447313c33390e4c51cdc27232630650b0fa38fd31984", func := "touchstone/touchstonetop.TopRuns", spec := "topRuns", inPlace := ["slices.overlaps[touchstone/api.Value]"], unfollowed := true, recurses := true, loops := true, apart := false, narrowed := true }
def TopRunsUptoSaid : Prop := topRunsUptoRow.holds Tryz.pinned (OpenSpec.upto topRunsSpec)

end Rows
end Go.Proofs.YtnamdihclpbdfabGreat
