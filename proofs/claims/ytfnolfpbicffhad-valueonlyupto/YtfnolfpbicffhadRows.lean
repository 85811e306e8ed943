/-
  NARROWER THAN 'FOR EVERY INPUT', by the rows' own cells (each row's printed sentence says how): ValueOnly: loops · ValueOneType: loops.
  DERIVED. THE GIVEN ROWS OF THIS SEAT. 2 by the template 'for every input the law returns true; each argument reads behind the call as it read before'; 0 by the template 'total and deterministic' (their statements: YtfnolfpbicffhadTotals.lean).
  GIVEN WITH THE SEED: the statements are not yours to turn. If you find one false, say at which input.
  Laid BY PROGRAM, IN A SANDBOX (cutbox-rows.mjs): the forced cells as the released guide's own fill.sh prints them over the translation c72b1d286e568749… (all of the seat's roots in one cut). By AI agents, Wed Nov 11 2026. No macro, syntax, notation, axiom, sorry.
-/
import Derived.Test.YtfnolfpbicffhadChecked
import GoSem.Claim
import GoSem.ClaimJoined
import GoSem.ClaimMapViews
import Derived.JoinedTies
import Derived.KernelRfl
namespace Go.Proofs.Ytfnolfpbicffhad
/- THE CELL 'sum', in the pinned program and in every row, IS THE sha256 OF THE DUMP (.gsa) THAT YtfnolfpbicffhadProg.lean LOADS. Nothing in Lean hashes anything: it is a label: what it is worth is what the hold of that sum in a sandbox is worth. -/
noncomputable def Try.pinned : Pinned := { name := "ytfnolfpbicffhad", sum := "c72b1d286e568749cafb057a4dbba2b05101c21145a80523319761ccd223525e", checked := Try.checked }
namespace Rows
def none {H : Type} : Left H := { results := [], args := [] }

/-- 'touchstonekeep.ValueOnly': WHATEVER THE INPUT: true; the input reads as it did. -/
def valueOnlySpec : ChangeSpec := { name := "valueOnly", fn := fun _ => fun
  | [d1, d2, d3] => { results := [.lit (.bool true)], args := [d1, d2, d3] }
  | _ => none }
def valueOnlyRow : OpenClaim := { program := "ytfnolfpbicffhad", sum := "c72b1d286e568749cafb057a4dbba2b05101c21145a80523319761ccd223525e", func := "touchstone/touchstonekeep.ValueOnly", spec := "valueOnly", unfollowed := true, recurses := true, loops := true, apart := false }
def ValueOnlySaid : Prop := valueOnlyRow.holds Try.pinned (OpenSpec.ofChange valueOnlySpec)

/-- ITS FALSE NEIGHBOUR: 'it returns false'. Refute it at one input. -/
def valueOnlyWrong : ChangeSpec := { name := "valueOnly", fn := fun _ => fun
  | [d1, d2, d3] => { results := [.lit (.bool false)], args := [d1, d2, d3] }
  | _ => none }
def ValueOnlyWrongFalsely : Prop := valueOnlyRow.holds Try.pinned (OpenSpec.ofChange valueOnlyWrong)

/-- 'touchstonekeep.ValueOneType': WHATEVER THE INPUT: true; the input reads as it did. -/
def valueOneTypeSpec : ChangeSpec := { name := "valueOneType", fn := fun _ => fun
  | [d1, d2, d3] => { results := [.lit (.bool true)], args := [d1, d2, d3] }
  | _ => none }
def valueOneTypeRow : OpenClaim := { program := "ytfnolfpbicffhad", sum := "c72b1d286e568749cafb057a4dbba2b05101c21145a80523319761ccd223525e", func := "touchstone/touchstonekeep.ValueOneType", spec := "valueOneType", unfollowed := true, recurses := true, loops := true, apart := false }
def ValueOneTypeSaid : Prop := valueOneTypeRow.holds Try.pinned (OpenSpec.ofChange valueOneTypeSpec)

/-- ITS FALSE NEIGHBOUR: 'it returns false'. Refute it at one input. -/
def valueOneTypeWrong : ChangeSpec := { name := "valueOneType", fn := fun _ => fun
  | [d1, d2, d3] => { results := [.lit (.bool false)], args := [d1, d2, d3] }
  | _ => none }
def ValueOneTypeWrongFalsely : Prop := valueOneTypeRow.holds Try.pinned (OpenSpec.ofChange valueOneTypeWrong)

/- THE SECOND FORM. 'bulk': how many values and letters a reading holds, each counted each time it is reached (what is shared counts as often as it is met; a slice's spare places count too). A statement '..UptoSaid' is the law's where the arguments, and the package variables that the reading takes, are together of bulk at most 1048576: NARROWER than '..Said'. Prove '..Said' where nothing that the law and all that it calls make is longer than what came in: it says more and counts as full. Else prove '..UptoSaid'. A law counts once. -/
mutual
def uptoBulk {H : Type} : DataW H → Nat
  | .lit (.string bytes) => bytes.length + 1
  | .lit _ => 1
  | .nil => 1
  | .ptr d => uptoBulk d + 1
  | .slice elems spare => uptoBulkAll elems + uptoBulkAll spare + 1
  | .agg parts => uptoBulkAll parts + 1
  | .iface _ d => uptoBulk d + 1
  | .map entries => uptoBulkEntries entries + 1
  | .held _ => 1
def uptoBulkAll {H : Type} : List (DataW H) → Nat
  | [] => 0
  | d :: r => uptoBulk d + uptoBulkAll r
def uptoBulkEntries {H : Type} : List (Lit × DataW H) → Nat
  | [] => 0
  | x :: r => uptoBulkEntry x + uptoBulkEntries r
def uptoBulkEntry {H : Type} : Lit × DataW H → Nat
  | (.string bytes, d) => bytes.length + uptoBulk d + 1
  | (_, d) => uptoBulk d + 1
 end
def uptoSmall : (H : Type) → List (DataW H) → Bool := fun _ ds => decide (uptoBulkAll ds ≤ 1048576)
def OpenSpec.upto (s : _root_.Go.ChangeSpec) : _root_.Go.OpenSpec := { _root_.Go.OpenSpec.ofChange s with cond := some uptoSmall }

/-- 'touchstonekeep.ValueOnly', WHERE WHAT IT READS IS OF BULK AT MOST 1048576: true; the input reads as it did. -/
def valueOnlyUptoRow : OpenClaim := { program := "ytfnolfpbicffhad", sum := "c72b1d286e568749cafb057a4dbba2b05101c21145a80523319761ccd223525e", func := "touchstone/touchstonekeep.ValueOnly", spec := "valueOnly", unfollowed := true, recurses := true, loops := true, apart := false, narrowed := true }
def ValueOnlyUptoSaid : Prop := valueOnlyUptoRow.holds Try.pinned (OpenSpec.upto valueOnlySpec)

/-- 'touchstonekeep.ValueOneType', WHERE WHAT IT READS IS OF BULK AT MOST 1048576: true; the input reads as it did. -/
def valueOneTypeUptoRow : OpenClaim := { program := "ytfnolfpbicffhad", sum := "c72b1d286e568749cafb057a4dbba2b05101c21145a80523319761ccd223525e", func := "touchstone/touchstonekeep.ValueOneType", spec := "valueOneType", unfollowed := true, recurses := true, loops := true, apart := false, narrowed := true }
def ValueOneTypeUptoSaid : Prop := valueOneTypeUptoRow.holds Try.pinned (OpenSpec.upto valueOneTypeSpec)

end Rows
end Go.Proofs.Ytfnolfpbicffhad
