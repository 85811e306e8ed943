import Derived.Test.YtamohjlhndedhadGreatRRRValA
import Derived.Test.YtamohjlhndedhadGreatRRRTreeA
namespace Go.Proofs.YtamohjlhndedhadGreatRRR
set_option linter.unusedVariables false
def eltT : Tr -> Tr
 | .nd k n p s args => .nd k n 28 s args
def Tr.k0 : Tr -> Int
 | .nd k _ _ _ _ => k
def Tr.n0 : Tr -> Int
 | .nd _ n _ _ _ => n
def Tr.p0 : Tr -> Int
 | .nd _ _ p _ _ => p
def Tr.s0 : Tr -> ByteArray
 | .nd _ _ _ s _ => s
def Tr.args0 : Tr -> List Tr
 | .nd _ _ _ _ l => l
def branchF (T : Ty) (p : Int) : Option (Int × List Ty) :=
 if T.t = 1 /\ p = 20 then some (0, []) else if T.t = 2 /\ p = 22 then some (0, []) else if T.t = 2 /\ p = 21 then some (1, [])
 else if T.t = 9 /\ p = 27 then some (0, []) else if T.t = 9 /\ p = 26 then some (0, T.args) else if T.t = 11 /\ p = 23 then some (0, T.args)
 else if T.t = 12 /\ p = 24 then some (0, T.args.take 1) else if T.t = 12 /\ p = 25 then some (1, T.args.drop 1) else none
def leafVa (t n : Int) (s : ByteArray) (l : List Va) : Va := .mk t n 0 s l [] []
mutual
def readT : Tr -> Ty -> Option Va
 | .nd k n p s args, T =>
  if T.t = 3 \/ T.t = 4 \/ T.t = 5 \/ T.t = 7 then (if k = 0 then some (leafVa T.t n ⟨#[]⟩ []) else none)
  else if T.t = 6 then (if k = 1 then some (leafVa 6 0 s []) else none)
  else if T.t = 10 then (if k = 3 then (readTs args (List.replicate args.length (tyAt T.args 0))).map (leafVa 10 0 ⟨#[]⟩) else none)
  else if T.t = 13 then (if k = 3 then (readEs args T.args).map (leafVa 13 0 ⟨#[]⟩) else none)
  else match branchF T p with
   | none => none
   | some (m, ts) => (readTs args ts).map (leafVa T.t m ⟨#[]⟩)
def readTs : List Tr -> List Ty -> Option (List Va)
 | [], [] => some []
 | t :: l, T :: ts => match readT t T with
  | none => none
  | some x => (readTs l ts).map (x :: ·)
 | [], _ :: _ => none
 | _ :: _, [] => none
def readEs : List Tr -> List Ty -> Option (List Va)
 | [], _ => some []
 | .nd k n p s args :: l, ts => match readTs args ts with
  | none => none
  | some ys => if p = 28 then (readEs l ts).map (leafVa 11 0 ⟨#[]⟩ ys :: ·) else none
end
end Go.Proofs.YtamohjlhndedhadGreatRRR
