import Derived.Test.YtkglnoimbekhhaaGreatKZx
import Derived.Test.YtkglnoimbekhhaaGreatKLedS
import Derived.Test.YtkglnoimbekhhaaGreatKLedR
namespace Go.Proofs.YtkglnoimbekhhaaGreat
open Go.ChangeShapes Go.WideShapes Go.ChangeAt Go.RowKit
set_option linter.unusedVariables false
set_option linter.unusedSimpArgs false
set_option maxRecDepth 100000
set_option maxHeartbeats 4000000
def movR (cs:Array Value) (L:Nat -> Acc) (fr dn n:Int):Array Value:=if movE L fr dn n = 0 then movC cs L fr dn n else cs
def movQ (L:Nat -> Acc) (fr dn n:Int):Nat -> Acc:=if movE L fr dn n = 0 then movL L fr dn n else L
theorem move_any {w:World} {L:Nat -> Acc} {fees:Int} {cs:Array Value} (hL:LedV w L fees cs) (fr dn n:Int) (W:World) :
 Calls Tryz.prog 4 #[.agg cs,.int .i64 fr,.int .i64 dn,.int .i64 n] W fun e w'=>e = .returned (.tuple #[.agg (movR cs L fr dn n),.int .i64 (movE L fr dn n)]) /\ W.grownBy w' none:=by
 unfold movR movE
 cases h1:bodyB L fr with
 | false=>exact move_a hL fr dn n h1 W
 | true =>
 cases h2:bodyB L dn with
 | false=>exact move_b hL fr dn n h1 h2 W
 | true =>
 cases h3:amtB n with
 | false=>exact move_c hL fr dn n h1 h2 h3 W
 | true =>
 by_cases h4:(L fr.toNat).bal < n
 ·simp only [Bool.and_self,if_true,if_pos h4]
  exact move_d hL fr dn n h1 h2 h3 h4 W
 ·simp only [Bool.and_self,if_true,if_neg h4]
  exact move_ok hL fr dn n h1 h2 h3 h4 W
theorem movE_zero {L:Nat -> Acc} {fr dn n:Int} (h:movE L fr dn n = 0):fr.toNat < 12 /\ dn.toNat < 12:=by
 have : bodyB L fr = true /\ bodyB L dn = true:=by
  unfold movE at h
  revert h
  cases bodyB L fr <;> cases bodyB L dn <;> cases amtB n <;> simp
 have h1:=body_lt this.1
 have h2:=body_lt this.2
 omega
theorem movRed {w:World} {L:Nat -> Acc} {fees:Int} {cs:Array Value} (h:LedV w L fees cs) (fr dn n:Int):LedV w (movQ L fr dn n) fees (movR cs L fr dn n):=by
 unfold movQ movR
 split
 ·rename_i he
  obtain ⟨h1,h2⟩:=movE_zero he
  exact movLed h h1 h2
 ·exact h
theorem small_set {L:Nat -> Acc} {i j:Nat} {v:Int} (h:Small (L j)):Small (setBal L i v j):=by unfold setBal;split <;> exact h
theorem small_mov {L:Nat -> Acc} {fr dn n:Int} {j:Nat} (h:Small (L j)):Small (movQ L fr dn n j):=by
 unfold movQ movL
 split
 ·exact small_set (small_set h)
 ·exact h
theorem small_new (i:Nat):Small (newL i):=by
 unfold newL
 split <;> exact ⟨by simp [zerA,zeroTy,Ty.size,tysizes],by simp [zerA,zeroTy,Ty.size,tysizes],by simp [zerA,sizes],by simp [zerA,zeroVa,Va.size,vsizes,tysizes,sizes]⟩
theorem books_any (W:World):Calls Tryz.prog 6 #[] W fun e w'=>e = .returned (.bool true) /\ W.grownBy w' none:=by
 have hF:=new_facts
 have HE:=jh hF.1
 have hQ:movQ newL 0 1 5 = movL newL 0 1 5:=by unfold movQ;rw [if_pos hF.1]
 have hG:goodLF (movQ newL 0 1 5) 0 = true:=by rw [hQ];exact (move_keeps hF.2.2 hF.1 ⟨by decide,by decide⟩).1
 have hL:∀ w,LedV w (movQ newL 0 1 5) 0 (movR (newD Tryz.zeroCells33 4) newL 0 1 5):=fun w=>movRed (new_led w) 0 1 5
 have HN:=jh (fun w=>new_any w)
 have HM:=jh (fun w=>move_any (new_led w) 0 1 5 w)
 rw [hF.1] at HM
 have HGD:=jh (fun w=>good_led (hL w) (fun i hi=>small_mov (small_new i)) w (gRf _ _))
 rw [hG] at HGD
 have hcl:=((hL W).cell (i:=1) (by omega)).2.1
 rw [hQ,hF.2.1] at hcl
 have HZ:=jh (hL W).1
 have HO:=jh (hL W).one
 have HC:=jh hcl
 clear hF hQ hG hL hcl HE
 generalize movR (newD Tryz.zeroCells33 4) newL 0 1 5 = cm at *
 generalize newD Tryz.zeroCells33 4 = cn at *
 go_enter Tryz.func6,Tryz.ntmps6
 go_wp2_with (first
  | (go_at_call 12;(with_reducible refine (HN.out _).mono ?_);rintro e w1 ⟨rfl,hg⟩;have hS1:=hg;clear hg)
  | (go_at_call 4;(with_reducible refine (HM.out _).mono ?_);rintro e w2 ⟨rfl,hg⟩;have hS2:=gTq hS1 hg;clear hg)
  | (refine wlSt rfl _ _ _ rfl rfl rfl (heap_alloc_new w2 (.cells Tryz.zeroCells33 33)) (zled_size.trans HZ.out.symm) (by rw [HZ.out];exact info_led) HO.out ?_;have HB:=jh (setRow_block (cs:=cm) (heap_alloc_new w2 (.cells Tryz.zeroCells33 33)));have HGM:=jh (grow_row (b:=w2.heap.size) (cs:=cm) (gTq hS2 (gBq (.cells Tryz.zeroCells33 33))) hS2.size);generalize World.setRow _ _ _ = W5 at *;have hc:W5.cell? ⟨w2.heap.size,16,none⟩ = some (.int .i64 1000005):=by simp [World.cell?,HB.out,HC.out]))
 refine wpLd _ rfl rfl HB.out HZ.out ?_
 go_wp2_with (go_at_call 5;(with_reducible refine (HGD.out _).mono ?_);rintro e w3 ⟨rfl,hg⟩;have HG3:=jh (gTq HGM.out hg);clear hg)
 go_ret
 exact ⟨rfl,HG3.out⟩
end Go.Proofs.YtkglnoimbekhhaaGreat
