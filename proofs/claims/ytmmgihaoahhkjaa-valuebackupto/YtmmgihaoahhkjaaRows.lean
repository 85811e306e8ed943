/-
  NARROWER THAN 'FOR EVERY INPUT', by the rows' own cells (each row's printed sentence says how): ValueHas: loops · ValueOrder: loops · ValueBack: loops · ValueOnly: loops · ValueOneType: loops.
  DERIVED. THE GIVEN ROWS OF THIS SEAT. 5 by the template 'for every input the law returns true; each argument reads behind the call as it read before'; 0 by the template 'total and deterministic' (their statements: YtmmgihaoahhkjaaTotals.lean).
  GIVEN WITH THE SEED: the statements are not yours to turn. If you find one false, say at which input.
  Laid BY PROGRAM, IN A SANDBOX (cutbox-rows.mjs): the forced cells as the released guide's own fill.sh prints them over the translation d44fe482b9db1b3e… (all of the seat's roots in one cut). By AI agents, Wed Nov 11 2026. No macro, syntax, notation, axiom, sorry.
-/
import Derived.Test.YtmmgihaoahhkjaaChecked
import GoSem.Claim
import GoSem.ClaimJoined
import GoSem.ClaimMapViews
import Derived.JoinedTies
import Derived.KernelRfl
namespace Go.Proofs.Ytmmgihaoahhkjaa
/- THE CELL 'sum', in the pinned program and in every row, IS THE sha256 OF THE DUMP (.gsa) THAT YtmmgihaoahhkjaaProg.lean LOADS. Nothing in Lean hashes anything: it is a label: what it is worth is what the hold of that sum in a sandbox is worth. -/
noncomputable def Try.pinned : Pinned := { name := "ytmmgihaoahhkjaa", sum := "d44fe482b9db1b3e7c33d9c76347f287b76e55d443eb983c4d1fdf5ae8e0863b", checked := Try.checked }
namespace Rows
def none {H : Type} : Left H := { results := [], args := [] }

/-- 'touchstonelaw.ValueHas': WHATEVER THE INPUT: true; the input reads as it did. -/
def valueHasSpec : ChangeSpec := { name := "valueHas", fn := fun _ => fun
  | [d1, d2, d3] => { results := [.lit (.bool true)], args := [d1, d2, d3] }
  | _ => none }
def valueHasRow : OpenClaim := { program := "ytmmgihaoahhkjaa", sum := "d44fe482b9db1b3e7c33d9c76347f287b76e55d443eb983c4d1fdf5ae8e0863b", func := "touchstone/touchstonelaw.ValueHas", spec := "valueHas", unfollowed := true, recurses := true, loops := true, apart := false }
def ValueHasSaid : Prop := valueHasRow.holds Try.pinned (OpenSpec.ofChange valueHasSpec)

/-- ITS FALSE NEIGHBOUR: 'it returns false'. Refute it at one input. -/
def valueHasWrong : ChangeSpec := { name := "valueHas", fn := fun _ => fun
  | [d1, d2, d3] => { results := [.lit (.bool false)], args := [d1, d2, d3] }
  | _ => none }
def ValueHasWrongFalsely : Prop := valueHasRow.holds Try.pinned (OpenSpec.ofChange valueHasWrong)

/-- 'touchstonekeep.ValueOrder': WHATEVER THE INPUT: true; the input reads as it did. -/
def valueOrderSpec : ChangeSpec := { name := "valueOrder", fn := fun _ => fun
  | [d1, d2, d3, d4] => { results := [.lit (.bool true)], args := [d1, d2, d3, d4] }
  | _ => none }
def valueOrderRow : OpenClaim := { program := "ytmmgihaoahhkjaa", sum := "d44fe482b9db1b3e7c33d9c76347f287b76e55d443eb983c4d1fdf5ae8e0863b", func := "touchstone/touchstonekeep.ValueOrder", spec := "valueOrder", unfollowed := true, recurses := true, loops := true, apart := false }
def ValueOrderSaid : Prop := valueOrderRow.holds Try.pinned (OpenSpec.ofChange valueOrderSpec)

/-- ITS FALSE NEIGHBOUR: 'it returns false'. Refute it at one input. -/
def valueOrderWrong : ChangeSpec := { name := "valueOrder", fn := fun _ => fun
  | [d1, d2, d3, d4] => { results := [.lit (.bool false)], args := [d1, d2, d3, d4] }
  | _ => none }
def ValueOrderWrongFalsely : Prop := valueOrderRow.holds Try.pinned (OpenSpec.ofChange valueOrderWrong)

/-- 'touchstonekeep.ValueBack': WHATEVER THE INPUT: true; the input reads as it did. -/
def valueBackSpec : ChangeSpec := { name := "valueBack", fn := fun _ => fun
  | [d1, d2] => { results := [.lit (.bool true)], args := [d1, d2] }
  | _ => none }
def valueBackRow : OpenClaim := { program := "ytmmgihaoahhkjaa", sum := "d44fe482b9db1b3e7c33d9c76347f287b76e55d443eb983c4d1fdf5ae8e0863b", func := "touchstone/touchstonekeep.ValueBack", spec := "valueBack", unfollowed := true, recurses := true, loops := true, apart := false }
def ValueBackSaid : Prop := valueBackRow.holds Try.pinned (OpenSpec.ofChange valueBackSpec)

/-- ITS FALSE NEIGHBOUR: 'it returns false'. Refute it at one input. -/
def valueBackWrong : ChangeSpec := { name := "valueBack", fn := fun _ => fun
  | [d1, d2] => { results := [.lit (.bool false)], args := [d1, d2] }
  | _ => none }
def ValueBackWrongFalsely : Prop := valueBackRow.holds Try.pinned (OpenSpec.ofChange valueBackWrong)

/-- 'touchstonekeep.ValueOnly': WHATEVER THE INPUT: true; the input reads as it did. -/
def valueOnlySpec : ChangeSpec := { name := "valueOnly", fn := fun _ => fun
  | [d1, d2, d3] => { results := [.lit (.bool true)], args := [d1, d2, d3] }
  | _ => none }
def valueOnlyRow : OpenClaim := { program := "ytmmgihaoahhkjaa", sum := "d44fe482b9db1b3e7c33d9c76347f287b76e55d443eb983c4d1fdf5ae8e0863b", func := "touchstone/touchstonekeep.ValueOnly", spec := "valueOnly", unfollowed := true, recurses := true, loops := true, apart := false }
def ValueOnlySaid : Prop := valueOnlyRow.holds Try.pinned (OpenSpec.ofChange valueOnlySpec)

/-- ITS FALSE NEIGHBOUR: 'it returns false'. Refute it at one input. -/
def valueOnlyWrong : ChangeSpec := { name := "valueOnly", fn := fun _ => fun
  | [d1, d2, d3] => { results := [.lit (.bool false)], args := [d1, d2, d3] }
  | _ => none }
def ValueOnlyWrongFalsely : Prop := valueOnlyRow.holds Try.pinned (OpenSpec.ofChange valueOnlyWrong)

/-- 'touchstonekeep.ValueOneType': WHATEVER THE INPUT: true; the input reads as it did. -/
def valueOneTypeSpec : ChangeSpec := { name := "valueOneType", fn := fun _ => fun
  | [d1, d2, d3] => { results := [.lit (.bool true)], args := [d1, d2, d3] }
  | _ => none }
def valueOneTypeRow : OpenClaim := { program := "ytmmgihaoahhkjaa", sum := "d44fe482b9db1b3e7c33d9c76347f287b76e55d443eb983c4d1fdf5ae8e0863b", func := "touchstone/touchstonekeep.ValueOneType", spec := "valueOneType", unfollowed := true, recurses := true, loops := true, apart := false }
def ValueOneTypeSaid : Prop := valueOneTypeRow.holds Try.pinned (OpenSpec.ofChange valueOneTypeSpec)

/-- ITS FALSE NEIGHBOUR: 'it returns false'. Refute it at one input. -/
def valueOneTypeWrong : ChangeSpec := { name := "valueOneType", fn := fun _ => fun
  | [d1, d2, d3] => { results := [.lit (.bool false)], args := [d1, d2, d3] }
  | _ => none }
def ValueOneTypeWrongFalsely : Prop := valueOneTypeRow.holds Try.pinned (OpenSpec.ofChange valueOneTypeWrong)

/- THE SECOND FORM. 'bulk': how many values and letters a reading holds, each counted each time it is reached (what is shared counts as often as it is met; a slice's spare places count too). A statement '..UptoSaid' is the law's where the arguments, and the package variables that the reading takes, are together of bulk at most 1048576: NARROWER than '..Said'. Prove '..Said' where nothing that the law and all that it calls make is longer than what came in: it says more and counts as full. Else prove '..UptoSaid'. A law counts once. -/
mutual
def uptoBulk {H : Type} : DataW H → Nat
  | .lit (.string bytes) => bytes.length + 1
  | .lit _ => 1
  | .nil => 1
  | .ptr d => uptoBulk d + 1
  | .slice elems spare => uptoBulkAll elems + uptoBulkAll spare + 1
  | .agg parts => uptoBulkAll parts + 1
  | .iface _ d => uptoBulk d + 1
  | .map entries => uptoBulkEntries entries + 1
  | .held _ => 1
def uptoBulkAll {H : Type} : List (DataW H) → Nat
  | [] => 0
  | d :: r => uptoBulk d + uptoBulkAll r
def uptoBulkEntries {H : Type} : List (Lit × DataW H) → Nat
  | [] => 0
  | x :: r => uptoBulkEntry x + uptoBulkEntries r
def uptoBulkEntry {H : Type} : Lit × DataW H → Nat
  | (.string bytes, d) => bytes.length + uptoBulk d + 1
  | (_, d) => uptoBulk d + 1
 end
def uptoSmall : (H : Type) → List (DataW H) → Bool := fun _ ds => decide (uptoBulkAll ds ≤ 1048576)
def OpenSpec.upto (s : _root_.Go.ChangeSpec) : _root_.Go.OpenSpec := { _root_.Go.OpenSpec.ofChange s with cond := some uptoSmall }

/-- 'touchstonelaw.ValueHas', WHERE WHAT IT READS IS OF BULK AT MOST 1048576: true; the input reads as it did. -/
def valueHasUptoRow : OpenClaim := { program := "ytmmgihaoahhkjaa", sum := "d44fe482b9db1b3e7c33d9c76347f287b76e55d443eb983c4d1fdf5ae8e0863b", func := "touchstone/touchstonelaw.ValueHas", spec := "valueHas", unfollowed := true, recurses := true, loops := true, apart := false, narrowed := true }
def ValueHasUptoSaid : Prop := valueHasUptoRow.holds Try.pinned (OpenSpec.upto valueHasSpec)

/-- 'touchstonekeep.ValueOrder', WHERE WHAT IT READS IS OF BULK AT MOST 1048576: true; the input reads as it did. -/
def valueOrderUptoRow : OpenClaim := { program := "ytmmgihaoahhkjaa", sum := "d44fe482b9db1b3e7c33d9c76347f287b76e55d443eb983c4d1fdf5ae8e0863b", func := "touchstone/touchstonekeep.ValueOrder", spec := "valueOrder", unfollowed := true, recurses := true, loops := true, apart := false, narrowed := true }
def ValueOrderUptoSaid : Prop := valueOrderUptoRow.holds Try.pinned (OpenSpec.upto valueOrderSpec)

/-- 'touchstonekeep.ValueBack', WHERE WHAT IT READS IS OF BULK AT MOST 1048576: true; the input reads as it did. -/
def valueBackUptoRow : OpenClaim := { program := "ytmmgihaoahhkjaa", sum := "d44fe482b9db1b3e7c33d9c76347f287b76e55d443eb983c4d1fdf5ae8e0863b", func := "touchstone/touchstonekeep.ValueBack", spec := "valueBack", unfollowed := true, recurses := true, loops := true, apart := false, narrowed := true }
def ValueBackUptoSaid : Prop := valueBackUptoRow.holds Try.pinned (OpenSpec.upto valueBackSpec)

/-- 'touchstonekeep.ValueOnly', WHERE WHAT IT READS IS OF BULK AT MOST 1048576: true; the input reads as it did. -/
def valueOnlyUptoRow : OpenClaim := { program := "ytmmgihaoahhkjaa", sum := "d44fe482b9db1b3e7c33d9c76347f287b76e55d443eb983c4d1fdf5ae8e0863b", func := "touchstone/touchstonekeep.ValueOnly", spec := "valueOnly", unfollowed := true, recurses := true, loops := true, apart := false, narrowed := true }
def ValueOnlyUptoSaid : Prop := valueOnlyUptoRow.holds Try.pinned (OpenSpec.upto valueOnlySpec)

/-- 'touchstonekeep.ValueOneType', WHERE WHAT IT READS IS OF BULK AT MOST 1048576: true; the input reads as it did. -/
def valueOneTypeUptoRow : OpenClaim := { program := "ytmmgihaoahhkjaa", sum := "d44fe482b9db1b3e7c33d9c76347f287b76e55d443eb983c4d1fdf5ae8e0863b", func := "touchstone/touchstonekeep.ValueOneType", spec := "valueOneType", unfollowed := true, recurses := true, loops := true, apart := false, narrowed := true }
def ValueOneTypeUptoSaid : Prop := valueOneTypeUptoRow.holds Try.pinned (OpenSpec.upto valueOneTypeSpec)

end Rows
end Go.Proofs.Ytmmgihaoahhkjaa
