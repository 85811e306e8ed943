/-
  NARROWER THAN 'FOR EVERY INPUT', by the rows' own cells (each row's printed sentence says how): TopMoney: loops · TopGood: loops · TopWhole: loops · TopGas: loops · TopCounters: loops · TopTickets: loops.
  DERIVED. THE GIVEN ROWS OF THIS SEAT. 6 by the template 'for every input the law returns true; each argument reads behind the call as it read before'; 0 by the template 'total and deterministic' (their statements: YtnamdihclpbdfaaGreatTotals.lean).
  GIVEN WITH THE SEED: the statements are not yours to turn. If you find one false, say at which input.
  Laid BY PROGRAM, IN A SANDBOX (cutbox-rows.mjs): the forced cells as the released guide's own fill.sh prints them over the translation 467e00c1b1e1b757… (all of the seat's roots in one cut). By AI agents, Wed Nov 11 2026. No macro, syntax, notation, axiom, sorry.
-/
import Derived.Test.YtnamdihclpbdfaaGreatChecked
import GoSem.Claim
import GoSem.ClaimJoined
import GoSem.ClaimMapViews
import Derived.JoinedTies
import Derived.KernelRfl
namespace Go.Proofs.YtnamdihclpbdfaaGreat
/- THE CELL 'sum', in the pinned program and in every row, IS THE sha256 OF THE DUMP (.gsa) THAT YtnamdihclpbdfaaGreatProg.lean LOADS. Nothing in Lean hashes anything: it is a label: what it is worth is what the hold of that sum in a sandbox is worth. -/
noncomputable def Tryz.pinned : Pinned := { name := "ytnamdihclpbdfaagreat", sum := "467e00c1b1e1b7571b77d05d2c287b36337b7a37a26a111a964570d732447d28", checked := Tryz.checked }
namespace Rows
def none {H : Type} : Left H := { results := [], args := [] }

/-- 'touchstonetop.TopMoney': WHATEVER THE INPUT: true; the input reads as it did. -/
def topMoneySpec : ChangeSpec := { name := "topMoney", fn := fun _ => fun
  | [d] => { results := [.lit (.bool true)], args := [d] }
  | _ => none }
def topMoneyRow : OpenClaim := { program := "ytnamdihclpbdfaagreat", sum := "467e00c1b1e1b7571b77d05d2c287b36337b7a37a26a111a964570d732447d28", func := "touchstone/touchstonetop.TopMoney", spec := "topMoney", inPlace := ["slices.overlaps[touchstone/api.Value]"], unfollowed := true, recurses := true, loops := true, apart := false }
def TopMoneySaid : Prop := topMoneyRow.holds Tryz.pinned (OpenSpec.ofChange topMoneySpec)

/-- ITS FALSE NEIGHBOUR: 'it returns false'. Refute it at one input. -/
def topMoneyWrong : ChangeSpec := { name := "topMoney", fn := fun _ => fun
  | [d] => { results := [.lit (.bool false)], args := [d] }
  | _ => none }
def TopMoneyWrongFalsely : Prop := topMoneyRow.holds Tryz.pinned (OpenSpec.ofChange topMoneyWrong)

/-- 'touchstonetop.TopGood': WHATEVER THE INPUT: true; the input reads as it did. -/
def topGoodSpec : ChangeSpec := { name := "topGood", fn := fun _ => fun
  | [d] => { results := [.lit (.bool true)], args := [d] }
  | _ => none }
def topGoodRow : OpenClaim := { program := "ytnamdihclpbdfaagreat", sum := "467e00c1b1e1b7571b77d05d2c287b36337b7a37a26a111a964570d732447d28", func := "touchstone/touchstonetop.TopGood", spec := "topGood", inPlace := ["slices.overlaps[touchstone/api.Value]"], unfollowed := true, recurses := true, loops := true, apart := false }
def TopGoodSaid : Prop := topGoodRow.holds Tryz.pinned (OpenSpec.ofChange topGoodSpec)

/-- ITS FALSE NEIGHBOUR: 'it returns false'. Refute it at one input. -/
def topGoodWrong : ChangeSpec := { name := "topGood", fn := fun _ => fun
  | [d] => { results := [.lit (.bool false)], args := [d] }
  | _ => none }
def TopGoodWrongFalsely : Prop := topGoodRow.holds Tryz.pinned (OpenSpec.ofChange topGoodWrong)

/-- 'touchstonetop.TopWhole': WHATEVER THE INPUT: true; the input reads as it did. -/
def topWholeSpec : ChangeSpec := { name := "topWhole", fn := fun _ => fun
  | [d] => { results := [.lit (.bool true)], args := [d] }
  | _ => none }
def topWholeRow : OpenClaim := { program := "ytnamdihclpbdfaagreat", sum := "467e00c1b1e1b7571b77d05d2c287b36337b7a37a26a111a964570d732447d28", func := "touchstone/touchstonetop.TopWhole", spec := "topWhole", inPlace := ["slices.overlaps[touchstone/api.Value]"], unfollowed := true, recurses := true, loops := true, apart := false }
def TopWholeSaid : Prop := topWholeRow.holds Tryz.pinned (OpenSpec.ofChange topWholeSpec)

/-- ITS FALSE NEIGHBOUR: 'it returns false'. Refute it at one input. -/
def topWholeWrong : ChangeSpec := { name := "topWhole", fn := fun _ => fun
  | [d] => { results := [.lit (.bool false)], args := [d] }
  | _ => none }
def TopWholeWrongFalsely : Prop := topWholeRow.holds Tryz.pinned (OpenSpec.ofChange topWholeWrong)

/-- 'touchstonetop.TopGas': WHATEVER THE INPUT: true; the input reads as it did. -/
def topGasSpec : ChangeSpec := { name := "topGas", fn := fun _ => fun
  | [d] => { results := [.lit (.bool true)], args := [d] }
  | _ => none }
def topGasRow : OpenClaim := { program := "ytnamdihclpbdfaagreat", sum := "467e00c1b1e1b7571b77d05d2c287b36337b7a37a26a111a964570d732447d28", func := "touchstone/touchstonetop.TopGas", spec := "topGas", inPlace := ["slices.overlaps[touchstone/api.Value]"], unfollowed := true, recurses := true, loops := true, apart := false }
def TopGasSaid : Prop := topGasRow.holds Tryz.pinned (OpenSpec.ofChange topGasSpec)

/-- ITS FALSE NEIGHBOUR: 'it returns false'. Refute it at one input. -/
def topGasWrong : ChangeSpec := { name := "topGas", fn := fun _ => fun
  | [d] => { results := [.lit (.bool false)], args := [d] }
  | _ => none }
def TopGasWrongFalsely : Prop := topGasRow.holds Tryz.pinned (OpenSpec.ofChange topGasWrong)

/-- 'touchstonetop.TopCounters': WHATEVER THE INPUT: true; the input reads as it did. -/
def topCountersSpec : ChangeSpec := { name := "topCounters", fn := fun _ => fun
  | [d] => { results := [.lit (.bool true)], args := [d] }
  | _ => none }
def topCountersRow : OpenClaim := { program := "ytnamdihclpbdfaagreat", sum := "467e00c1b1e1b7571b77d05d2c287b36337b7a37a26a111a964570d732447d28", func := "touchstone/touchstonetop.TopCounters", spec := "topCounters", inPlace := ["slices.overlaps[touchstone/api.Value]"], unfollowed := true, recurses := true, loops := true, apart := false }
def TopCountersSaid : Prop := topCountersRow.holds Tryz.pinned (OpenSpec.ofChange topCountersSpec)

/-- ITS FALSE NEIGHBOUR: 'it returns false'. Refute it at one input. -/
def topCountersWrong : ChangeSpec := { name := "topCounters", fn := fun _ => fun
  | [d] => { results := [.lit (.bool false)], args := [d] }
  | _ => none }
def TopCountersWrongFalsely : Prop := topCountersRow.holds Tryz.pinned (OpenSpec.ofChange topCountersWrong)

/-- 'touchstonetop.TopTickets': WHATEVER THE INPUT: true; the input reads as it did. -/
def topTicketsSpec : ChangeSpec := { name := "topTickets", fn := fun _ => fun
  | [d] => { results := [.lit (.bool true)], args := [d] }
  | _ => none }
def topTicketsRow : OpenClaim := { program := "ytnamdihclpbdfaagreat", sum := "467e00c1b1e1b7571b77d05d2c287b36337b7a37a26a111a964570d732447d28", func := "touchstone/touchstonetop.TopTickets", spec := "topTickets", inPlace := ["slices.overlaps[touchstone/api.Value]"], unfollowed := true, recurses := true, loops := true, apart := false }
def TopTicketsSaid : Prop := topTicketsRow.holds Tryz.pinned (OpenSpec.ofChange topTicketsSpec)

/-- ITS FALSE NEIGHBOUR: 'it returns false'. Refute it at one input. -/
def topTicketsWrong : ChangeSpec := { name := "topTickets", fn := fun _ => fun
  | [d] => { results := [.lit (.bool false)], args := [d] }
  | _ => none }
def TopTicketsWrongFalsely : Prop := topTicketsRow.holds Tryz.pinned (OpenSpec.ofChange topTicketsWrong)

/- THE SECOND FORM. 'bulk': how many values and letters a reading holds, each counted each time it is reached (what is shared counts as often as it is met; a slice's spare places count too). A statement '..UptoSaid' is the law's where the arguments, and the package variables that the reading takes, are together of bulk at most 1048576: NARROWER than '..Said'. Prove '..Said' where nothing that the law and all that it calls make is longer than what came in: it says more and counts as full. Else prove '..UptoSaid'. A law counts once. -/
mutual
def uptoBulk {H : Type} : DataW H → Nat
  | .lit (.string bytes) => bytes.length + 1
  | .lit _ => 1
  | .nil => 1
  | .ptr d => uptoBulk d + 1
  | .slice elems spare => uptoBulkAll elems + uptoBulkAll spare + 1
  | .agg parts => uptoBulkAll parts + 1
  | .iface _ d => uptoBulk d + 1
  | .map entries => uptoBulkEntries entries + 1
  | .held _ => 1
def uptoBulkAll {H : Type} : List (DataW H) → Nat
  | [] => 0
  | d :: r => uptoBulk d + uptoBulkAll r
def uptoBulkEntries {H : Type} : List (Lit × DataW H) → Nat
  | [] => 0
  | x :: r => uptoBulkEntry x + uptoBulkEntries r
def uptoBulkEntry {H : Type} : Lit × DataW H → Nat
  | (.string bytes, d) => bytes.length + uptoBulk d + 1
  | (_, d) => uptoBulk d + 1
 end
def uptoSmall : (H : Type) → List (DataW H) → Bool := fun _ ds => decide (uptoBulkAll ds ≤ 1048576)
def OpenSpec.upto (s : _root_.Go.ChangeSpec) : _root_.Go.OpenSpec := { _root_.Go.OpenSpec.ofChange s with cond := some uptoSmall }

/-- 'touchstonetop.TopMoney', WHERE WHAT IT READS IS OF BULK AT MOST 1048576: true; the input reads as it did. -/
def topMoneyUptoRow : OpenClaim := { program := "ytnamdihclpbdfaagreat", sum := "467e00c1b1e1b7571b77d05d2c287b36337b7a37a26a111a964570d732447d28", func := "touchstone/touchstonetop.TopMoney", spec := "topMoney", inPlace := ["slices.overlaps[touchstone/api.Value]"], unfollowed := true, recurses := true, loops := true, apart := false, narrowed := true }
def TopMoneyUptoSaid : Prop := topMoneyUptoRow.holds Tryz.pinned (OpenSpec.upto topMoneySpec)

/-- 'touchstonetop.TopGood', WHERE WHAT IT READS IS OF BULK AT MOST 1048576: true; the input reads as it did. -/
def topGoodUptoRow : OpenClaim := { program := "ytnamdihclpbdfaagreat", sum := "467e00c1b1e1b7571b77d05d2c287b36337b7a37a26a111a964570d732447d28", func := "touchstone/touchstonetop.TopGood", spec := "topGood", inPlace := ["slices.overlaps[touchstone/api.Value]"], unfollowed := true, recurses := true, loops := true, apart := false, narrowed := true }
def TopGoodUptoSaid : Prop := topGoodUptoRow.holds Tryz.pinned (OpenSpec.upto topGoodSpec)

/-- 'touchstonetop.TopWhole', WHERE WHAT IT READS IS OF BULK AT MOST 1048576: true; the input reads as it did. -/
def topWholeUptoRow : OpenClaim := { program := "ytnamdihclpbdfaagreat", sum := "467e00c1b1e1b7571b77d05d2c287b36337b7a37a26a111a964570d732447d28", func := "touchstone/touchstonetop.TopWhole", spec := "topWhole", inPlace := ["slices.overlaps[touchstone/api.Value]"], unfollowed := true, recurses := true, loops := true, apart := false, narrowed := true }
def TopWholeUptoSaid : Prop := topWholeUptoRow.holds Tryz.pinned (OpenSpec.upto topWholeSpec)

/-- 'touchstonetop.TopGas', WHERE WHAT IT READS IS OF BULK AT MOST 1048576: true; the input reads as it did. -/
def topGasUptoRow : OpenClaim := { program := "ytnamdihclpbdfaagreat", sum := "467e00c1b1e1b7571b77d05d2c287b36337b7a37a26a111a964570d732447d28", func := "touchstone/touchstonetop.TopGas", spec := "topGas", inPlace := ["slices.overlaps[touchstone/api.Value]"], unfollowed := true, recurses := true, loops := true, apart := false, narrowed := true }
def TopGasUptoSaid : Prop := topGasUptoRow.holds Tryz.pinned (OpenSpec.upto topGasSpec)

/-- 'touchstonetop.TopCounters', WHERE WHAT IT READS IS OF BULK AT MOST 1048576: true; the input reads as it did. -/
def topCountersUptoRow : OpenClaim := { program := "ytnamdihclpbdfaagreat", sum := "467e00c1b1e1b7571b77d05d2c287b36337b7a37a26a111a964570d732447d28", func := "touchstone/touchstonetop.TopCounters", spec := "topCounters", inPlace := ["slices.overlaps[touchstone/api.Value]"], unfollowed := true, recurses := true, loops := true, apart := false, narrowed := true }
def TopCountersUptoSaid : Prop := topCountersUptoRow.holds Tryz.pinned (OpenSpec.upto topCountersSpec)

/-- 'touchstonetop.TopTickets', WHERE WHAT IT READS IS OF BULK AT MOST 1048576: true; the input reads as it did. -/
def topTicketsUptoRow : OpenClaim := { program := "ytnamdihclpbdfaagreat", sum := "467e00c1b1e1b7571b77d05d2c287b36337b7a37a26a111a964570d732447d28", func := "touchstone/touchstonetop.TopTickets", spec := "topTickets", inPlace := ["slices.overlaps[touchstone/api.Value]"], unfollowed := true, recurses := true, loops := true, apart := false, narrowed := true }
def TopTicketsUptoSaid : Prop := topTicketsUptoRow.holds Tryz.pinned (OpenSpec.upto topTicketsSpec)

end Rows
end Go.Proofs.YtnamdihclpbdfaaGreat
