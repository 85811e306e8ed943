/-
  NARROWER THAN 'FOR EVERY INPUT', by the rows' own cells (each row's printed sentence says how): TreeBack: loops · TreeCut: loops · KindTells: loops · KindParses: loops · KindBack: loops.
  DERIVED. THE GIVEN ROWS OF THIS SEAT. 6 by the template 'for every input the law returns true; each argument reads behind the call as it read before'; 0 by the template 'total and deterministic' (their statements: YtjhhcdiipbjiaabTotals.lean).
  GIVEN WITH THE SEED: the statements are not yours to turn. If you find one false, say at which input.
  Laid BY PROGRAM, IN A SANDBOX (cutbox-rows.mjs): the forced cells as the released guide's own fill.sh prints them over the translation cb41edc2a224b7dd… (all of the seat's roots in one cut). By AI agents, Wed Nov 11 2026. No macro, syntax, notation, axiom, sorry.
-/
import Derived.Test.YtjhhcdiipbjiaabChecked
import GoSem.Claim
import GoSem.ClaimJoined
import GoSem.ClaimMapViews
import Derived.JoinedTies
import Derived.KernelRfl
namespace Go.Proofs.Ytjhhcdiipbjiaab
/- THE CELL 'sum', in the pinned program and in every row, IS THE sha256 OF THE DUMP (.gsa) THAT YtjhhcdiipbjiaabProg.lean LOADS. Nothing in Lean hashes anything: it is a label: what it is worth is what the hold of that sum in a sandbox is worth. -/
noncomputable def Try.pinned : Pinned := { name := "ytjhhcdiipbjiaab", sum := "cb41edc2a224b7ddae9ccf4384995d99eadd241a3da3648b8ec6e70b8b7bf19f", checked := Try.checked }
namespace Rows
def none {H : Type} : Left H := { results := [], args := [] }

/-- 'touchstonekeep.TreeBack': WHATEVER THE INPUT: true; the input reads as it did. -/
def treeBackSpec : ChangeSpec := { name := "treeBack", fn := fun _ => fun
  | [d] => { results := [.lit (.bool true)], args := [d] }
  | _ => none }
def treeBackRow : OpenClaim := { program := "ytjhhcdiipbjiaab", sum := "cb41edc2a224b7ddae9ccf4384995d99eadd241a3da3648b8ec6e70b8b7bf19f", func := "touchstone/touchstonekeep.TreeBack", spec := "treeBack", recurses := true, loops := true, apart := false }
def TreeBackSaid : Prop := treeBackRow.holds Try.pinned (OpenSpec.ofChange treeBackSpec)

/-- ITS FALSE NEIGHBOUR: 'it returns false'. Refute it at one input. -/
def treeBackWrong : ChangeSpec := { name := "treeBack", fn := fun _ => fun
  | [d] => { results := [.lit (.bool false)], args := [d] }
  | _ => none }
def TreeBackWrongFalsely : Prop := treeBackRow.holds Try.pinned (OpenSpec.ofChange treeBackWrong)

/-- 'touchstonekeep.TreeOnly': WHATEVER THE INPUT: true; the input reads as it did. -/
def treeOnlySpec : ChangeSpec := { name := "treeOnly", fn := fun _ => fun
  | [d] => { results := [.lit (.bool true)], args := [d] }
  | _ => none }
def treeOnlyRow : OpenClaim := { program := "ytjhhcdiipbjiaab", sum := "cb41edc2a224b7ddae9ccf4384995d99eadd241a3da3648b8ec6e70b8b7bf19f", func := "touchstone/touchstonekeep.TreeOnly", spec := "treeOnly", recurses := true, apart := false }
def TreeOnlySaid : Prop := treeOnlyRow.holds Try.pinned (OpenSpec.ofChange treeOnlySpec)

/-- ITS FALSE NEIGHBOUR: 'it returns false'. Refute it at one input. -/
def treeOnlyWrong : ChangeSpec := { name := "treeOnly", fn := fun _ => fun
  | [d] => { results := [.lit (.bool false)], args := [d] }
  | _ => none }
def TreeOnlyWrongFalsely : Prop := treeOnlyRow.holds Try.pinned (OpenSpec.ofChange treeOnlyWrong)

/-- 'touchstonekeep.TreeCut': WHATEVER THE INPUT: true; the input reads as it did. -/
def treeCutSpec : ChangeSpec := { name := "treeCut", fn := fun _ => fun
  | [d1, d2] => { results := [.lit (.bool true)], args := [d1, d2] }
  | _ => none }
def treeCutRow : OpenClaim := { program := "ytjhhcdiipbjiaab", sum := "cb41edc2a224b7ddae9ccf4384995d99eadd241a3da3648b8ec6e70b8b7bf19f", func := "touchstone/touchstonekeep.TreeCut", spec := "treeCut", recurses := true, loops := true, apart := false }
def TreeCutSaid : Prop := treeCutRow.holds Try.pinned (OpenSpec.ofChange treeCutSpec)

/-- ITS FALSE NEIGHBOUR: 'it returns false'. Refute it at one input. -/
def treeCutWrong : ChangeSpec := { name := "treeCut", fn := fun _ => fun
  | [d1, d2] => { results := [.lit (.bool false)], args := [d1, d2] }
  | _ => none }
def TreeCutWrongFalsely : Prop := treeCutRow.holds Try.pinned (OpenSpec.ofChange treeCutWrong)

/-- 'touchstonelaw.KindTells': WHATEVER THE INPUT: true; the input reads as it did. -/
def kindTellsSpec : ChangeSpec := { name := "kindTells", fn := fun _ => fun
  | [d1, d2] => { results := [.lit (.bool true)], args := [d1, d2] }
  | _ => none }
def kindTellsRow : OpenClaim := { program := "ytjhhcdiipbjiaab", sum := "cb41edc2a224b7ddae9ccf4384995d99eadd241a3da3648b8ec6e70b8b7bf19f", func := "touchstone/touchstonelaw.KindTells", spec := "kindTells", unfollowed := true, recurses := true, loops := true, apart := false }
def KindTellsSaid : Prop := kindTellsRow.holds Try.pinned (OpenSpec.ofChange kindTellsSpec)

/-- ITS FALSE NEIGHBOUR: 'it returns false'. Refute it at one input. -/
def kindTellsWrong : ChangeSpec := { name := "kindTells", fn := fun _ => fun
  | [d1, d2] => { results := [.lit (.bool false)], args := [d1, d2] }
  | _ => none }
def KindTellsWrongFalsely : Prop := kindTellsRow.holds Try.pinned (OpenSpec.ofChange kindTellsWrong)

/-- 'touchstonelaw.KindParses': WHATEVER THE INPUT: true; the input reads as it did. -/
def kindParsesSpec : ChangeSpec := { name := "kindParses", fn := fun _ => fun
  | [d] => { results := [.lit (.bool true)], args := [d] }
  | _ => none }
def kindParsesRow : OpenClaim := { program := "ytjhhcdiipbjiaab", sum := "cb41edc2a224b7ddae9ccf4384995d99eadd241a3da3648b8ec6e70b8b7bf19f", func := "touchstone/touchstonelaw.KindParses", spec := "kindParses", unfollowed := true, recurses := true, loops := true, apart := false }
def KindParsesSaid : Prop := kindParsesRow.holds Try.pinned (OpenSpec.ofChange kindParsesSpec)

/-- ITS FALSE NEIGHBOUR: 'it returns false'. Refute it at one input. -/
def kindParsesWrong : ChangeSpec := { name := "kindParses", fn := fun _ => fun
  | [d] => { results := [.lit (.bool false)], args := [d] }
  | _ => none }
def KindParsesWrongFalsely : Prop := kindParsesRow.holds Try.pinned (OpenSpec.ofChange kindParsesWrong)

/-- 'touchstonekeep.KindBack': WHATEVER THE INPUT: true; the input reads as it did. -/
def kindBackSpec : ChangeSpec := { name := "kindBack", fn := fun _ => fun
  | [d1, d2] => { results := [.lit (.bool true)], args := [d1, d2] }
  | _ => none }
def kindBackRow : OpenClaim := { program := "ytjhhcdiipbjiaab", sum := "cb41edc2a224b7ddae9ccf4384995d99eadd241a3da3648b8ec6e70b8b7bf19f", func := "touchstone/touchstonekeep.KindBack", spec := "kindBack", unfollowed := true, recurses := true, loops := true, apart := false }
def KindBackSaid : Prop := kindBackRow.holds Try.pinned (OpenSpec.ofChange kindBackSpec)

/-- ITS FALSE NEIGHBOUR: 'it returns false'. Refute it at one input. -/
def kindBackWrong : ChangeSpec := { name := "kindBack", fn := fun _ => fun
  | [d1, d2] => { results := [.lit (.bool false)], args := [d1, d2] }
  | _ => none }
def KindBackWrongFalsely : Prop := kindBackRow.holds Try.pinned (OpenSpec.ofChange kindBackWrong)

/- THE SECOND FORM. 'bulk': how many values and letters a reading holds, each counted each time it is reached (what is shared counts as often as it is met; a slice's spare places count too). A statement '..UptoSaid' is the law's where the arguments, and the package variables that the reading takes, are together of bulk at most 1048576: NARROWER than '..Said'. Prove '..Said' where nothing that the law and all that it calls make is longer than what came in: it says more and counts as full. Else prove '..UptoSaid'. A law counts once. -/
mutual
def uptoBulk {H : Type} : DataW H → Nat
  | .lit (.string bytes) => bytes.length + 1
  | .lit _ => 1
  | .nil => 1
  | .ptr d => uptoBulk d + 1
  | .slice elems spare => uptoBulkAll elems + uptoBulkAll spare + 1
  | .agg parts => uptoBulkAll parts + 1
  | .iface _ d => uptoBulk d + 1
  | .map entries => uptoBulkEntries entries + 1
  | .held _ => 1
def uptoBulkAll {H : Type} : List (DataW H) → Nat
  | [] => 0
  | d :: r => uptoBulk d + uptoBulkAll r
def uptoBulkEntries {H : Type} : List (Lit × DataW H) → Nat
  | [] => 0
  | x :: r => uptoBulkEntry x + uptoBulkEntries r
def uptoBulkEntry {H : Type} : Lit × DataW H → Nat
  | (.string bytes, d) => bytes.length + uptoBulk d + 1
  | (_, d) => uptoBulk d + 1
 end
def uptoSmall : (H : Type) → List (DataW H) → Bool := fun _ ds => decide (uptoBulkAll ds ≤ 1048576)
def OpenSpec.upto (s : _root_.Go.ChangeSpec) : _root_.Go.OpenSpec := { _root_.Go.OpenSpec.ofChange s with cond := some uptoSmall }

/-- 'touchstonekeep.TreeBack', WHERE WHAT IT READS IS OF BULK AT MOST 1048576: true; the input reads as it did. -/
def treeBackUptoRow : OpenClaim := { program := "ytjhhcdiipbjiaab", sum := "cb41edc2a224b7ddae9ccf4384995d99eadd241a3da3648b8ec6e70b8b7bf19f", func := "touchstone/touchstonekeep.TreeBack", spec := "treeBack", recurses := true, loops := true, apart := false, narrowed := true }
def TreeBackUptoSaid : Prop := treeBackUptoRow.holds Try.pinned (OpenSpec.upto treeBackSpec)

/-- 'touchstonekeep.TreeOnly', WHERE WHAT IT READS IS OF BULK AT MOST 1048576: true; the input reads as it did. -/
def treeOnlyUptoRow : OpenClaim := { program := "ytjhhcdiipbjiaab", sum := "cb41edc2a224b7ddae9ccf4384995d99eadd241a3da3648b8ec6e70b8b7bf19f", func := "touchstone/touchstonekeep.TreeOnly", spec := "treeOnly", recurses := true, apart := false, narrowed := true }
def TreeOnlyUptoSaid : Prop := treeOnlyUptoRow.holds Try.pinned (OpenSpec.upto treeOnlySpec)

/-- 'touchstonekeep.TreeCut', WHERE WHAT IT READS IS OF BULK AT MOST 1048576: true; the input reads as it did. -/
def treeCutUptoRow : OpenClaim := { program := "ytjhhcdiipbjiaab", sum := "cb41edc2a224b7ddae9ccf4384995d99eadd241a3da3648b8ec6e70b8b7bf19f", func := "touchstone/touchstonekeep.TreeCut", spec := "treeCut", recurses := true, loops := true, apart := false, narrowed := true }
def TreeCutUptoSaid : Prop := treeCutUptoRow.holds Try.pinned (OpenSpec.upto treeCutSpec)

/-- 'touchstonelaw.KindTells', WHERE WHAT IT READS IS OF BULK AT MOST 1048576: true; the input reads as it did. -/
def kindTellsUptoRow : OpenClaim := { program := "ytjhhcdiipbjiaab", sum := "cb41edc2a224b7ddae9ccf4384995d99eadd241a3da3648b8ec6e70b8b7bf19f", func := "touchstone/touchstonelaw.KindTells", spec := "kindTells", unfollowed := true, recurses := true, loops := true, apart := false, narrowed := true }
def KindTellsUptoSaid : Prop := kindTellsUptoRow.holds Try.pinned (OpenSpec.upto kindTellsSpec)

/-- 'touchstonelaw.KindParses', WHERE WHAT IT READS IS OF BULK AT MOST 1048576: true; the input reads as it did. -/
def kindParsesUptoRow : OpenClaim := { program := "ytjhhcdiipbjiaab", sum := "cb41edc2a224b7ddae9ccf4384995d99eadd241a3da3648b8ec6e70b8b7bf19f", func := "touchstone/touchstonelaw.KindParses", spec := "kindParses", unfollowed := true, recurses := true, loops := true, apart := false, narrowed := true }
def KindParsesUptoSaid : Prop := kindParsesUptoRow.holds Try.pinned (OpenSpec.upto kindParsesSpec)

/-- 'touchstonekeep.KindBack', WHERE WHAT IT READS IS OF BULK AT MOST 1048576: true; the input reads as it did. -/
def kindBackUptoRow : OpenClaim := { program := "ytjhhcdiipbjiaab", sum := "cb41edc2a224b7ddae9ccf4384995d99eadd241a3da3648b8ec6e70b8b7bf19f", func := "touchstone/touchstonekeep.KindBack", spec := "kindBack", unfollowed := true, recurses := true, loops := true, apart := false, narrowed := true }
def KindBackUptoSaid : Prop := kindBackUptoRow.holds Try.pinned (OpenSpec.upto kindBackSpec)

end Rows
end Go.Proofs.Ytjhhcdiipbjiaab
