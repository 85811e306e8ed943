import Derived.Test.YtkglnoimbekhhaaGreatKLedTa
import Derived.Test.YtkglnoimbekhhaaGreatKLedTb
import Derived.Test.YtkglnoimbekhhaaGreatKLedTc
namespace Go.Proofs.YtkglnoimbekhhaaGreat
open Go.ChangeShapes Go.WideShapes Go.ChangeAt Go.RowKit
set_option linter.unusedVariables false
set_option linter.unusedSimpArgs false
set_option maxRecDepth 100000
set_option maxHeartbeats 8000000
theorem keeps_any {W:World} {L:Nat -> Acc} {fees:Int} {cs:Array Value} (hL:LedV W L fees cs) (hS:∀ i,i < 12 -> Small (L i)) (fr dn n:Int) (hn:I64 n) :
 Calls Tryz.prog 3 #[.agg cs,.int .i64 fr,.int .i64 dn,.int .i64 n] W fun e w'=>e = .returned (.bool true) /\ W.grownBy w' none:=by
 cases hG:goodLF L fees with
 | false=>exact keeps_a hL hS fr dn n hn hG
 | true =>
 by_cases he:movE L fr dn n = 0
 ·exact keeps_c hL hS fr dn n hn hG he
 ·exact keeps_b hL hS fr dn n hn hG he
end Go.Proofs.YtkglnoimbekhhaaGreat
