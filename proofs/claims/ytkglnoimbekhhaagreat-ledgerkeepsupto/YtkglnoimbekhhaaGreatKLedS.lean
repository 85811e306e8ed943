import Derived.Test.YtkglnoimbekhhaaGreatKZx
import Derived.Test.YtkglnoimbekhhaaGreatKZy
import Derived.Laws.CopyRow
namespace Go.Proofs.YtkglnoimbekhhaaGreat
open Go.ChangeShapes Go.WideShapes Go.ChangeAt Go.RowKit
set_option linter.unusedVariables false
set_option linter.unusedSimpArgs false
set_option maxRecDepth 100000
set_option maxHeartbeats 4000000
def zerC (is bal:Int):Array Value:=accC is bal 0 0 none 0 0 0 none 0 0 none 0 0 0 0 0 ⟨#[]⟩ none 0 0 none 0 0 none 0 0
def zerA (is bal:Int):Acc:=⟨is,bal,0,zeroTy,zeroTy,[],zeroVa⟩
def setMany (cs:Array Value) (o:Nat):List Value -> Array Value
 | []=>cs
 | v :: vs=>setMany (cs.setIfInBounds o v) (o + 1) vs
def newD (z:Array Value):Nat -> Array Value
 | 0=>z
 | j + 1=>setMany (newD z j) (j * 15) (zerC 1 1000000).toList
def newL:Nat -> Acc:=fun i=>if i < 4 then zerA 1 1000000 else zerA 0 0
theorem setMany_size:∀ (vs:List Value) (cs:Array Value) (o:Nat),(setMany cs o vs).size = cs.size
 | [],_,_=>rfl
 | v :: vs,cs,o=>by rw [setMany,setMany_size];simp
theorem new_size:∀ j,(newD Tryz.zeroCells33 j).size = 181
 | 0=>zled_size
 | j + 1=>by rw [newD,setMany_size,new_size]
theorem setCells_row {b:Nat} {t:TypeId} {fr:Nat × Nat} : ∀ (vs:List Value) (o:Nat) (cs:Array Value) (w:World),w.heap[b]? = some (.cells cs t fr) -> w.setCells b o vs = w.setRow b (setMany cs o vs)
 | [],o,cs,w,h=>(setRow_self w b cs t fr h).symm
 | v :: vs,o,cs,w,h=>by
  rw [World.setCells,setMany,setCell_eq_setRow w b o cs t fr v h,setCells_row vs (o + 1) (cs.setIfInBounds o v) _ (setRow_heap w b cs _ t fr h),setRow_setRow]
theorem wlSt15 {o:Oper} {a:Act} {w:World} {Q:Exit -> Act -> World -> Prop} {b j:Nat} {t:TypeId} {ops:Array Oper} {rest:List Oper} (hgd:o.guard = none) (x y:Operand) (ho:o.op = .store 30 x y) (hx:a.eval x = .pointer (some ⟨b,j * 15,none⟩)) (hy:a.eval y = .agg (zerC 1 1000000)) (hb:w.heap[b]? = some (.cells (newD Tryz.zeroCells33 j) t (0,0))) (hj:j < 4)
 (h:wpList Tryz.prog ops Q rest (a.put o.dst undef) (w.setRow b (newD Tryz.zeroCells33 (j + 1)))):wpList Tryz.prog ops Q (o :: rest) a w:=by
 refine wpList_store_mid hgd _ x y ho b (j * 15) (zerC 1 1000000) hx hy (fun i hi=>?_) info_acc (by kernel_rfl) ?_
 ·have hz:=new_size j
  have h15:(zerC 1 1000000).size = 15:=rfl
  exact ⟨by rw [cell_of_row w b (j * 15 + i) _ t _ hb,Array.getElem?_eq_getElem (by omega)];rfl,by simp [World.frozen?,hb]⟩
 ·rw [setCells_row _ _ _ _ hb]
  exact h
theorem new_acc:∀ i,i < 12 -> accAt (newD Tryz.zeroCells33 4) i = if i < 4 then zerC 1 1000000 else zerC 0 0:=by
 intro i hi
 rcases (show i = 0 \/ i = 1 \/ i = 2 \/ i = 3 \/ i = 4 \/ i = 5 \/ i = 6 \/ i = 7 \/ i = 8 \/ i = 9 \/ i = 10 \/ i = 11 by omega) with rfl | rfl | rfl | rfl | rfl | rfl | rfl | rfl | rfl | rfl | rfl | rfl <;> kernel_rfl
theorem acc_zero (w:World) (is bal:Int) (h1:I64 is) (h2:I64 bal):AccV w (zerA is bal) (zerC is bal) :=
 ⟨0,none,0,0,0,none,0,0,none,0,0,0,0,0,⟨#[]⟩,none,0,0,none,0,0,none,0,0,fun _=>.int .i64 0,rfl,⟨h1,h2,show I64 0 from ⟨by decide,by decide⟩⟩,LiesT.of (V:=fun _=>.int .i64 0) ⟨by decide,by decide⟩ (RowT.nil _ _ _ _) (Nat.zero_le _),LiesT.of (V:=fun _=>.int .i64 0) ⟨by decide,by decide⟩ (RowT.nil _ _ _ _) (Nat.zero_le _),⟨rfl,Nat.le_refl _⟩,⟨Nat.zero_le _,fun i hi=>absurd hi (Nat.not_lt_zero _),fun i hi=>absurd hi (Nat.not_lt_zero _)⟩,liesV_zero _ w⟩
theorem new_led (w:World):LedV w newL 0 (newD Tryz.zeroCells33 4):=by
 refine ⟨new_size 4,by kernel_rfl,⟨by decide,by decide⟩,fun i hi=>?_⟩
 rw [new_acc i hi]
 unfold newL
 split
 ·exact acc_zero w 1 1000000 ⟨by decide,by decide⟩ ⟨by decide,by decide⟩
 ·exact acc_zero w 0 0 ⟨by decide,by decide⟩ ⟨by decide,by decide⟩
theorem new_any (W:World):Calls Tryz.prog 12 #[] W fun e w'=>e = .returned (.agg (newD Tryz.zeroCells33 4)) /\ W.grownBy w' none:=by
 have HG2:=jh (gTq (gBq (w:=W) (.cells Tryz.zeroCells33 33)) (gBq (.cells Tryz.zeroCells33 33)))
 have HB0:=jh (rNw W (.cells Tryz.zeroCells33 33) (.cells Tryz.zeroCells33 33))
 have hB1:=heap_alloc_new (W.alloc (.cells Tryz.zeroCells33 33)) (.cells Tryz.zeroCells33 33)
 rw [World.size_alloc] at hB1
 have HB1:Hid (_ = some (Obj.cells (newD Tryz.zeroCells33 0) _ _)):=hB1
 clear hB1
 go_enter Tryz.func12,Tryz.ntmps12
 go_wp2_with fail
 generalize (W.alloc _).alloc _ = W2 at *
 go_loopw [3] (fun iv wr=>∃ j:Nat,j <= 4 /\ iv = .int .i64 j /\ wr.heap[W.heap.size + 1]? = some (.cells (newD Tryz.zeroCells33 j) 33 (0,0)) /\ wr.heap[W.heap.size]? = some (.cells Tryz.zeroCells33 33 (0,0)) /\ W.grownBy wr none) (fun iv _=>4 - (intOf iv).toNat)
 case atStart=>exact ⟨0,by omega,rfl,HB1.out,HB0.out,HG2.out⟩
 case round =>
  obtain ⟨j,hj,rfl,hb,hb0,hg⟩:=hrel
  have HB:=jh hb
  have HBZ:=jh hb0
  have HG:=jh hg
  clear hb hb0 hg HB0 HB1
  by_cases hlt:j < 4
  ·go_wp2_with (refine wlSt15 rfl _ _ rfl rfl rfl HB.out hlt ?_)
   go_roundw
   case rel=>exact ⟨j + 1,by omega,by go_num,setRow_block HB.out,((setRow_grow wr (W.heap.size + 1) _).block _ (Array.getElem?_eq_some_iff.1 HBZ.out).1 (by simp)).trans HBZ.out,grow_row HG.out (Nat.le_succ _)⟩
   case measure=>simp [intOf];omega
  ·obtain rfl:j = 4:=by omega
   have HZ:=jh (new_size 4)
   have HO:=jh (new_led wr).one
   go_wp2_with (first
    | (refine wlLd rfl _ rfl rfl HB.out HZ.out ?_)
    | (refine wlSt rfl _ _ _ rfl rfl rfl HBZ.out (zled_size.trans HZ.out.symm) (by rw [HZ.out];exact info_led) HO.out ?_;have HD:=jh (setRow_block (cs:=newD Tryz.zeroCells33 4) HBZ.out);have HGD:=jh (grow_row (b:=W.heap.size) (cs:=newD Tryz.zeroCells33 4) HG.out (Nat.le_refl _));generalize World.setRow _ _ _ = W5 at *))
   exact bodyPost_ret (results_cell_row Tryz.results12 _ _ _ _ _ _ _ rfl HD.out Tryz.underlying33 rfl (by rw [HZ.out];exact info_led)) rfl ⟨rfl,HGD.out⟩
theorem new_facts:movE newL 0 1 5 = 0 /\ (movL newL 0 1 5 1).bal = 1000005 /\ goodLF newL 0 = true:=by
 refine ⟨by kernel_rfl,by kernel_rfl,by kernel_rfl⟩
end Go.Proofs.YtkglnoimbekhhaaGreat
