import Derived.Test.YtkglnoimbekhhaaGreatKZa
import Derived.Deep.MidRow
import Derived.Laws.Rows
namespace Go.Proofs.YtkglnoimbekhhaaGreat
open Go.ChangeShapes Go.WideShapes Go.ChangeAt Go.RowKit
set_option linter.unusedVariables false
set_option maxRecDepth 100000
theorem info_led:(Tryz.prog.info? 33).map (·.size) = some 181:=by kernel_rfl
theorem info_accs:(Tryz.prog.info? 31).map (·.size) = some 180:=by kernel_rfl
theorem info_acc:(Tryz.prog.info? 30).map (·.size) = some 15:=by kernel_rfl
def accAt (cs:Array Value) (i:Nat):Array Value:=(cs.extract 0 180).extract (i * 15) (i * 15 + 15)
section
variable {o:Oper} {a:Act} {w:World} {K:Act -> World -> Prop} {Q:Exit -> Act -> World -> Prop} {b:Nat} {cs:Array Value} {t:TypeId} {fr:Nat × Nat}
theorem wpLd (x:Operand) (ho:o.op = .load 33 x) (hx:a.eval x = .pointer (some ⟨b,0,none⟩)) (hg:w.heap[b]? = some (.cells cs t fr)) (hz:cs.size = 181) (h:K (a.put o.dst (.agg cs)) w):o.wp Tryz.prog a w K Q :=
 wp_load_row 33 x ho b hx t cs fr _ hg Tryz.underlying33 rfl (by rw [hz];exact info_led) h
theorem wpLdA (x:Operand) (ho:o.op = .load 31 x) (hx:a.eval x = .pointer (some ⟨b,0,none⟩)) (hg:w.heap[b]? = some (.cells cs t fr)) (hz:cs.size = 181) (h:K (a.put o.dst (.agg (cs.extract 0 180))) w):o.wp Tryz.prog a w K Q:=by
 have h2:=wp_load_mid (P:=Tryz.prog) (Q:=Q) (K:=K) (a:=a) (w:=w) 31 x ho b 0 hx (cs.extract 0 180).toList _ (fun j v hv=>by
  rw [cell_of_row w b (0 + j) cs t fr hg]
  rw [Array.getElem?_toList,Array.getElem?_extract] at hv
  split at hv
  ·simpa using hv
  ·cases hv) Tryz.underlying31 rfl (by rw [show (cs.extract 0 180).toList.length = 180 from by simp [hz]];exact info_accs)
 simp only [Array.toArray_toList] at h2
 exact h2 h
theorem wlLd {ops:Array Oper} {rest:List Oper} (hgd:o.guard = none) (x:Operand) (ho:o.op = .load 33 x) (hx:a.eval x = .pointer (some ⟨b,0,none⟩)) (hg:w.heap[b]? = some (.cells cs t fr)) (hz:cs.size = 181) (h:wpList Tryz.prog ops Q rest (a.put o.dst (.agg cs)) w):wpList Tryz.prog ops Q (o :: rest) a w :=
 wpList_plain hgd fun _ hK=>wpLd x ho hx hg hz (hK _ _ h)
theorem wlLdA {ops:Array Oper} {rest:List Oper} (hgd:o.guard = none) (x:Operand) (ho:o.op = .load 31 x) (hx:a.eval x = .pointer (some ⟨b,0,none⟩)) (hg:w.heap[b]? = some (.cells cs t fr)) (hz:cs.size = 181) (h:wpList Tryz.prog ops Q rest (a.put o.dst (.agg (cs.extract 0 180))) w):wpList Tryz.prog ops Q (o :: rest) a w :=
 wpList_plain hgd fun _ hK=>wpLdA x ho hx hg hz (hK _ _ h)
theorem wpSt {z:Array Value} (T:TypeId) (x y:Operand) (ho:o.op = .store T x y) (hx:a.eval x = .pointer (some ⟨b,0,none⟩)) (hy:a.eval y = .agg cs) (hb:w.heap[b]? = some (.cells z t (0,0))) (hz:z.size = cs.size) (hi:(Tryz.prog.info? T).map (·.size) = some cs.size) (h1:cs.all (·.oneCell') = true)
 (h:K (a.put o.dst undef) (w.setRow b cs)):o.wp Tryz.prog a w K Q :=
 wp_store_row T x y ho b cs hx hy t z hb hi hz h1 h
theorem wlSt {ops:Array Oper} {rest:List Oper} {z:Array Value} (hgd:o.guard = none) (T:TypeId) (x y:Operand) (ho:o.op = .store T x y) (hx:a.eval x = .pointer (some ⟨b,0,none⟩)) (hy:a.eval y = .agg cs) (hb:w.heap[b]? = some (.cells z t (0,0))) (hz:z.size = cs.size) (hi:(Tryz.prog.info? T).map (·.size) = some cs.size) (h1:cs.all (·.oneCell') = true)
 (h:wpList Tryz.prog ops Q rest (a.put o.dst undef) (w.setRow b cs)):wpList Tryz.prog ops Q (o :: rest) a w :=
 wpList_plain hgd fun _ hK=>wpSt T x y ho hx hy hb hz hi h1 (hK _ _ h)
end
theorem setRow_block {w:World} {b:Nat} {z cs:Array Value} {t:TypeId} (hb:w.heap[b]? = some (.cells z t (0,0))):(w.setRow b cs).heap[b]? = some (.cells cs t (0,0)):=by
 simp [World.setRow,Array.getElem?_modify,hb]
theorem setRow_grow (w:World) (b:Nat) (cs:Array Value):w.grownBy (w.setRow b cs) (some b) :=
 ⟨rfl,rfl,rfl,by simp [World.setRow],fun k hk hr=>by simp [World.setRow,Array.getElem?_modify];intro e;exact absurd (by rw [e]) hr⟩
theorem run_idx (c:Array Value) (i:Nat) (hi:i < 12) (w:World):(Instr.index 31 (.agg c) (.int .i64 (i:Int))).run Tryz.prog w = .ok (.agg (c.extract (i * 15) (i * 15 + 15))) w:=by
 have h3:(0:Int) <= (i:Int) /\ (i:Int) < 12:=by omega
 simp [Instr.index,run_underlying Tryz.underlying31,asIntOf,go_sem]
 intro h;omega
theorem accAt_get {cs:Array Value} (hz:cs.size = 181) {i j:Nat} (hi:i < 12) (hj:j < 15):(accAt cs i)[j]? = cs[i * 15 + j]?:=by
 unfold accAt
 rw [Array.getElem?_extract,if_pos (by simp [hz];omega),Array.getElem?_extract,if_pos (by simp [hz];omega)]
 simp
structure Acc where
 is:Int
 bal:Int
 cnt:Int
 par:Ty
 sto:Ty
 code:List Tr
 val:Va
def accC (is bal cnt pt:Int) (pa:Option Addr) (pl pc:Nat) (st:Int) (sa:Option Addr) (sl sc:Nat) (na:Option Addr) (nl nc:Nat) (k n a:Int) (s:ByteArray) (aa:Option Addr) (al ac:Nat) (ta:Option Addr) (tl tc:Nat) (ma:Option Addr) (ml mc:Nat):Array Value :=
 #[.int .i64 is,.int .i64 bal,.int .i64 cnt,.int .i64 pt,.slice pa pl pc,.int .i64 st,.slice sa sl sc,.slice na nl nc,.int .i64 k,.int .i64 n,.int .i64 a,.string s,.slice aa al ac,.slice ta tl tc,.slice ma ml mc]
def AccV (w:World) (A:Acc) (c:Array Value):Prop :=
 ∃ pt pa pl pc st sa sl sc na nl nc k n a s aa al ac ta tl tc ma ml mc VN,c = accC A.is A.bal A.cnt pt pa pl pc st sa sl sc na nl nc k n a s aa al ac ta tl tc ma ml mc /\ (I64 A.is /\ I64 A.bal /\ I64 A.cnt) /\
  LiesT (fun _=>True) w A.par (tyV pt pa pl pc) /\ LiesT (fun _=>True) w A.sto (tyV st sa sl sc) /\ (nl = A.code.length /\ nl <= nc) /\ RowN (fun _=>True) w A.code na VN /\ LiesV (fun _=>True) w A.val (vaV k n a s aa al ac ta tl tc ma ml mc)
theorem AccV.grow {w w':World} {A:Acc} {c:Array Value} (h:AccV w A c) (hg:w.grownBy w' none):AccV w' A c:=by
 obtain ⟨pt,pa,pl,pc,st,sa,sl,sc,na,nl,nc,k,n,a,s,aa,al,ac,ta,tl,tc,ma,ml,mc,VN,h1,h2,h3,h4,h5,h6,h7⟩:=h
 exact ⟨pt,pa,pl,pc,st,sa,sl,sc,na,nl,nc,k,n,a,s,aa,al,ac,ta,tl,tc,ma,ml,mc,VN,h1,h2,h3.same (sAl hg),h4.same (sAl hg),h5,h6.same (sAl hg),h7.same (sAl hg)⟩
def LedV (w:World) (L:Nat -> Acc) (fees:Int) (cs:Array Value):Prop :=
 cs.size = 181 /\ cs[180]? = some (.int .i64 fees) /\ I64 fees /\ ∀ i,i < 12 -> AccV w (L i) (accAt cs i)
theorem LedV.grow {w w':World} {L:Nat -> Acc} {fees:Int} {cs:Array Value} (h:LedV w L fees cs) (hg:w.grownBy w' none):LedV w' L fees cs :=
 ⟨h.1,h.2.1,h.2.2.1,fun i hi=>(h.2.2.2 i hi).grow hg⟩
theorem LedV.cell {w:World} {L:Nat -> Acc} {fees:Int} {cs:Array Value} (h:LedV w L fees cs) {i:Nat} (hi:i < 12) :
 cs[i * 15]? = some (.int .i64 (L i).is) /\ cs[i * 15 + 1]? = some (.int .i64 (L i).bal) /\ I64 (L i).bal:=by
 obtain ⟨pt,pa,pl,pc,st,sa,sl,sc,na,nl,nc,k,n,a,s,aa,al,ac,ta,tl,tc,ma,ml,mc,VN,h1,h2,_⟩:=h.2.2.2 i hi
 have e0:=accAt_get h.1 hi (j:=0) (by omega)
 have e1:=accAt_get h.1 hi (j:=1) (by omega)
 rw [h1] at e0 e1
 exact ⟨e0.symm,e1.symm,h2.2.1⟩
theorem LedV.one {w:World} {L:Nat -> Acc} {fees:Int} {cs:Array Value} (h:LedV w L fees cs):cs.all (·.oneCell') = true:=by
 rw [Array.all_eq_true]
 intro j hj
 have hz:=h.1
 by_cases h180:j = 180
 ·subst h180
  have:=h.2.1
  rw [Array.getElem?_eq_getElem hj] at this
  simp only [Option.some.injEq] at this
  rw [this];rfl
 ·obtain ⟨i,k,hk,rfl⟩:∃ i k,k < 15 /\ j = i * 15 + k:=⟨j / 15,j % 15,Nat.mod_lt _ (by omega),by omega⟩
  have hi:i < 12:=by omega
  obtain ⟨pt,pa,pl,pc,st,sa,sl,sc,na,nl,nc,kk,n,a,s,aa,al,ac,ta,tl,tc,ma,ml,mc,VN,h1,_⟩:=h.2.2.2 i hi
  have e:=accAt_get hz hi hk
  rw [h1,Array.getElem?_eq_getElem hj] at e
  rcases (show k = 0 \/ k = 1 \/ k = 2 \/ k = 3 \/ k = 4 \/ k = 5 \/ k = 6 \/ k = 7 \/ k = 8 \/ k = 9 \/ k = 10 \/ k = 11 \/ k = 12 \/ k = 13 \/ k = 14 from by omega) with rfl | rfl | rfl | rfl | rfl | rfl | rfl | rfl | rfl | rfl | rfl | rfl | rfl | rfl | rfl <;>
   (simp only [accC,List.getElem?_toArray,List.getElem?_cons_zero,List.getElem?_cons_succ,Option.some.injEq] at e;rw [← e];rfl)
set_option maxHeartbeats 1000000
def shareB (n:Int):Bool:=decide (0 <= n /\ n <= 4000000)
def amtB (n:Int):Bool:=decide (0 <= n /\ n <= 1152921504606846976)
theorem share_any (n:Int) (w:World):Calls Tryz.prog 13 #[.int .i64 n] w fun e w'=>e = .returned (.bool (shareB n)) /\ w' = w:=by
 go_enter Tryz.func13,Tryz.ntmps13
 go_wp2_with fail
 all_goals
  go_ret
  refine Lf.retb ?_ rfl
  simp only [shareB]
  first | (rw [decide_eq_decide];omega) | (symm;rw [decide_eq_true_eq];omega) | (symm;rw [decide_eq_false_iff_not];omega)
theorem amt_any (n:Int) (w:World):Calls Tryz.prog 9 #[.int .i64 n] w fun e w'=>e = .returned (.bool (amtB n)) /\ w' = w:=by
 go_enter Tryz.func9,Tryz.ntmps9
 go_wp2_with fail
 all_goals
  go_ret
  refine Lf.retb ?_ rfl
  simp only [amtB]
  first | (rw [decide_eq_decide];omega) | (symm;rw [decide_eq_true_eq];omega) | (symm;rw [decide_eq_false_iff_not];omega)
def bodyB (L:Nat -> Acc) (n:Int):Bool:=decide (0 <= n /\ n < 12) && !decide ((L n.toNat).is = 0)
theorem body_any {w:World} {L:Nat -> Acc} {fees:Int} {cs:Array Value} (hL:LedV w L fees cs) (n:Int) (W:World):Calls Tryz.prog 8 #[.agg cs,.int .i64 n] W fun e w'=>e = .returned (.bool (bodyB L n)) /\ W.grownBy w' none:=by
 by_cases hn:0 <= n /\ n < 12
 ·have hc:=(hL.cell (i:=n.toNat) (by omega)).1
  obtain ⟨h1,h2⟩:=hn
  generalize hi:(L n.toNat).is = is at *
  have HB:Hid (bodyB L n = !decide (is = 0)):=by
   show _ = _
   unfold bodyB
   rw [decide_eq_true ⟨h1,h2⟩,hi];rfl
  generalize bodyB L n = r at *
  clear hL hi
  by_cases h0:is = 0
  ·subst h0
   go_enter Tryz.func8,Tryz.ntmps8
   go_wp2_with fail
   go_ret
   exact Lf.retb (by rw [HB.out];rfl) (gBq _)
  ·have z1:(is == 0) = false:=by simpa using h0
   have z2:(is != 0) = true:=by simpa using h0
   have HB2:Hid (r = true):=by show r = true;rw [HB.out,decide_eq_false h0];rfl
   go_enter Tryz.func8,Tryz.ntmps8
   go_wp2_with fail
   go_ret
   exact Lf.retb HB2.out.symm (gBq _)
 ·have HB:Hid (bodyB L n = false):=by show _ = _;unfold bodyB;rw [decide_eq_false hn];rfl
  generalize bodyB L n = r at *
  clear hL
  go_enter Tryz.func8,Tryz.ntmps8
  go_wp2_with fail
  all_goals first | (exfalso;omega) | (go_ret;exact Lf.retb HB.out.symm (gBq _))
def balSum (L:Nat -> Acc):Nat -> Int
 | 0=>0
 | j + 1=>balSum L j + (L j).bal
def sumF (L:Nat -> Acc) (fees:Int):Int:=wrap64 (fees + balSum L 12)
theorem wrap_put (a b:Int):wrap64 (wrap64 a + b) = wrap64 (a + b):=by unfold wrap64;omega
theorem sum_any {w:World} {L:Nat -> Acc} {fees:Int} {cs:Array Value} (hL:LedV w L fees cs) (W:World):Calls Tryz.prog 7 #[.agg cs] W fun e w'=>e = .returned (.int .i64 (sumF L fees)) /\ W.grownBy w' none:=by
 have hz:=hL.1
 have hf:=hL.2.1
 have hif:=hL.2.2.1
 have hI:=run_idx (cs.extract 0 180)
 have HL:=jh hL
 have HZ:=jh hz
 clear hz
 have HN:=jh (heap_alloc_new W (.cells cs 33))
 have HS:Hid (sumF L fees = wrap64 (fees + balSum L 12)):=rfl
 generalize sumF L fees = r at *
 clear hL
 go_enter Tryz.func7,Tryz.ntmps7
 go_wp2_with (refine wlLdA rfl _ rfl rfl HN.out HZ.out ?_)
 go_loopw [3,10] (fun sv iv wr=>∃ j:Nat,j <= 12 /\ iv = .int .i64 j /\ sv = .int .i64 (wrap64 (fees + balSum L j)) /\ W.grownBy wr none) (fun _ iv _=>12 - (intOf iv).toNat)
 case atStart =>
  refine ⟨0,by omega,rfl,?_,gBq _⟩
  simp only [balSum,Int.add_zero,Value.int.injEq,true_and]
  unfold I64 at hif
  unfold wrap64
  omega
 case round =>
  obtain ⟨j,hj,rfl,rfl,hg⟩:=hrel
  by_cases hlt:j < 12
  ·obtain ⟨pt,pa,pl,pc,st,sa,sl,sc,na,nl,nc,k,n,a,s,aa,al,ac,ta,tl,tc,ma,ml,mc,VN,h1,_⟩:=HL.out.2.2.2 j hlt
   have hI2:=hI j hlt
   rw [show (cs.extract 0 180).extract (j * 15) (j * 15 + 15) = _ from h1] at hI2
   unfold accC at hI2
   have HG:=jh hg
   clear hg hI h1
   generalize hb:(L j).bal = bal at *
   have HB:=jh hb
   clear hb
   go_wp2_with fail
   go_roundw
   case rel =>
    refine ⟨j + 1,by omega,by go_num,?_,gTq HG.out (gBq _)⟩
    simp only [balSum,Value.int.injEq,true_and,HB.out]
    rw [wrap_put,Int.add_assoc]
   case measure=>simp [intOf];omega
  ·obtain rfl:j = 12:=by omega
   have HG:=jh hg
   clear hg hI
   go_wp2_with fail
   go_ret
   exact Lf.reti HS.out.symm HG.out
def sharesF (L:Nat -> Acc):Nat -> Bool
 | 0=>true
 | j + 1=>sharesF L j && shareB (L j).bal
theorem sharesF_no {L:Nat -> Acc} {j m:Nat} (h:shareB (L j).bal = false) (hm:j < m):sharesF L m = false:=by
 induction m with
 | zero=>omega
 | succ m ih =>
  rw [sharesF]
  by_cases e:j = m
  ·subst e;rw [h];simp
  ·rw [ih (by omega)];rfl
def coveredF (L:Nat -> Acc) (fees:Int):Bool:=shareB fees && sharesF L 12 && decide (sumF L fees = 4000000)
theorem covered_any {w:World} {L:Nat -> Acc} {fees:Int} {cs:Array Value} (hL:LedV w L fees cs) (W:World):Calls Tryz.prog 10 #[.agg cs] W fun e w'=>e = .returned (.bool (coveredF L fees)) /\ W.grownBy w' none:=by
 have hf:=hL.2.1
 have hI:=run_idx (cs.extract 0 180)
 have HL:=jh hL
 have HZ:=jh hL.1
 have HSM:=jh (fun W2=>sum_any hL W2)
 have HSH:=jh share_any
 have HN:=jh (heap_alloc_new W (.cells cs 33))
 have HS:Hid (coveredF L fees = (shareB fees && sharesF L 12 && decide (sumF L fees = 4000000))):=rfl
 generalize coveredF L fees = r at *
 clear hL
 cases hsf:shareB fees with
 | false =>
  have HQ:Hid (r = false):=by show r = false;rw [HS.out,hsf];rfl
  clear HS
  go_enter Tryz.func10,Tryz.ntmps10
  go_wp2_with ((go_at_call 13;refine (HSH.out _ _).mono ?_;rintro e w1 ⟨rfl,rfl⟩))
  go_ret
  exact Lf.retb HQ.out.symm (gBq _)
 | true =>
  rw [hsf] at HS
  go_enter Tryz.func10,Tryz.ntmps10
  go_wp2_with (first | (go_at_call 13;refine (HSH.out _ _).mono ?_;rintro e w1 ⟨rfl,rfl⟩) | (refine wlLdA rfl _ rfl rfl HN.out HZ.out ?_))
  go_loopw [11] (fun iv wr=>∃ j:Nat,j <= 12 /\ iv = .int .i64 j /\ sharesF L j = true /\ W.grownBy wr none /\ wr.heap[W.heap.size]? = some (.cells cs 33)) (fun iv _=>12 - (intOf iv).toNat)
  case atStart=>exact ⟨0,by omega,rfl,rfl,gBq _,HN.out⟩
  case round =>
   obtain ⟨j,hj,rfl,hsj,hg,hb⟩:=hrel
   have HG:=jh hg
   have HB:=jh hb
   have HSJ:=jh hsj
   clear hg hb hsj
   by_cases hlt:j < 12
   ·obtain ⟨pt,pa,pl,pc,st,sa,sl,sc,na,nl,nc,k,n,a,s,aa,al,ac,ta,tl,tc,ma,ml,mc,VN,h1,_⟩:=HL.out.2.2.2 j hlt
    have hI2:=hI j hlt
    rw [show (cs.extract 0 180).extract (j * 15) (j * 15 + 15) = _ from h1] at hI2
    unfold accC at hI2
    clear hI h1
    have HNO:=jh (fun h=>sharesF_no (L:=L) (j:=j) h hlt)
    have HYE:Hid (sharesF L (j + 1) = shareB (L j).bal):=by show _ = _;rw [sharesF,HSJ.out];rfl
    generalize (L j).bal = bal at *
    cases hsb:shareB bal with
    | false =>
     have HQ:Hid (r = false):=by show r = false;rw [HS.out,HNO.out hsb];rfl
     go_wp2_with ((go_at_call 13;refine (HSH.out _ _).mono ?_;rintro e w1 ⟨rfl,rfl⟩))
     go_ret
     exact Lf.retb HQ.out.symm (gTq HG.out (gBq _))
    | true =>
     rw [hsb] at HYE
     go_wp2_with ((go_at_call 13;refine (HSH.out _ _).mono ?_;rintro e w1 ⟨rfl,rfl⟩))
     go_roundw
     case rel=>exact ⟨j + 1,by omega,by go_num,HYE.out,gTq HG.out (gBq _),heap_keep HB.out⟩
     case measure=>simp [intOf];omega
   ·obtain rfl:j = 12:=by omega
    have HQ:Hid (r = decide (sumF L fees = 4000000)):=by show _ = _;rw [HS.out,HSJ.out];rfl
    clear hI
    generalize sumF L fees = sm at *
    go_wp2_with (first | (go_at_call 7;refine (HSM.out _).mono ?_;rintro e w1 ⟨rfl,hg⟩;have HG2:=jh (gTq HG.out hg);clear hg) | (refine wlLd rfl _ rfl rfl HB.out HZ.out ?_))
    go_ret
    exact Lf.retb (by rw [HQ.out,Bool.eq_iff_iff];simp) HG2.out
set_option maxHeartbeats 2000000
theorem info_int:(Tryz.prog.info? 3).map (·.size) = some 1:=by kernel_rfl
section
variable {o:Oper} {a:Act} {w:World} {Q:Exit -> Act -> World -> Prop} {b k:Nat} {cs:Array Value} {t:TypeId} {v:Int} {ops:Array Oper} {rest:List Oper}
theorem run_st1 (hb:w.heap[b]? = some (.cells cs t (0,0))) (hk:k < cs.size) :
 (storeVar 3 ⟨b,k,none⟩ (.int .i64 v)).run Tryz.prog w = .ok () (w.setRow b (cs.setIfInBounds k (.int .i64 v))):=by
 have hadd:(⟨b,k,none⟩:Addr).add 0 = ⟨b,k,none⟩:=by unfold Addr.add;split <;> simp_all
 have hcell:w.cell? ⟨b,k,none⟩ = some cs[k]:=by simp [World.cell?,hb,hk]
 have hfro:w.frozen? ⟨b,k,none⟩ = false:=by simp [World.frozen?,hb]
 have hst:(store ((⟨b,k,none⟩:Addr).add 0) (.int .i64 v)).run Tryz.prog w = .ok () (w.setRow b (cs.setIfInBounds k (.int .i64 v))):=by
  rw [hadd,run_store Tryz.prog w _ _ _ rfl,hcell]
  simp [hfro,setCell_eq_setRow w b k cs t (0,0) _ hb]
 cases hq:Tryz.prog.info? 3 with
 | none=>have:=info_int;simp [hq] at this
 | some i =>
  have hs:i.size = 1:=by have:=info_int;simpa [hq] using this
  simp [storeVar,sizeOf,typeInfo,hq,Value.cells,hs,storeCells,hst]
theorem wlSt1 (hgd:o.guard = none) (x y:Operand) (ho:o.op = .store 3 x y) (hx:a.eval x = .pointer (some ⟨b,k,none⟩)) (hy:a.eval y = .int .i64 v) (hb:w.heap[b]? = some (.cells cs t (0,0))) (hk:k < cs.size)
 (h:wpList Tryz.prog ops Q rest (a.put o.dst undef) (w.setRow b (cs.setIfInBounds k (.int .i64 v)))):wpList Tryz.prog ops Q (o :: rest) a w :=
 wpList_plain hgd fun _ hK=>by
  unfold Oper.wp execOp
  simp only [ho,hx,hy,Instr.storeAt,Instr.sureAddr,Sem.run_bind,Sem.run_pure,Result.andThen_ok,run_st1 hb hk]
  exact hK _ _ h
theorem wlLd1 (hgd:o.guard = none) (x:Operand) (ho:o.op = .load 3 x) (hx:a.eval x = .pointer (some ⟨b,k,none⟩)) (hb:w.heap[b]? = some (.cells cs t (0,0))) (hk:cs[k]? = some (.int .i64 v))
 (h:wpList Tryz.prog ops Q rest (a.put o.dst (.int .i64 v)) w):wpList Tryz.prog ops Q (o :: rest) a w :=
 wpList_plain hgd fun _ hK=>by
  have hc:w.cell? ⟨b,k,none⟩ = some (.int .i64 v):=by simp [World.cell?,hb,hk]
  have h1:(loadVar 3 ⟨b,k,none⟩).run Tryz.prog w = .ok (.int .i64 v) w:=by simp [go_sem,hc]
  unfold Oper.wp execOp
  simp only [ho,hx,Instr.loadAt,Instr.sureAddr,Sem.run_bind,Sem.run_pure,Result.andThen_ok,h1]
  exact hK _ _ h
end
def setBal (L:Nat -> Acc) (i:Nat) (v:Int):Nat -> Acc:=fun j=>if j = i then { L j with bal:=v } else L j
def putBal (cs:Array Value) (i:Nat) (v:Int):Array Value:=cs.setIfInBounds (i * 15 + 1) (.int .i64 v)
theorem putBal_acc {cs:Array Value} (hz:cs.size = 181) {i j:Nat} (hi:i < 12) (hj:j < 12) (v:Int):accAt (putBal cs i v) j = if j = i then (accAt cs j).setIfInBounds 1 (.int .i64 v) else accAt cs j:=by
 have hz2:(putBal cs i v).size = 181:=by simp [putBal,hz]
 have hsz:∀ c:Array Value,c.size = 181 -> (accAt c j).size = 15:=fun c h=>by simp [accAt,h];omega
 apply Array.ext_getElem?
 intro k
 by_cases hk:k < 15
 ·rw [accAt_get hz2 hj hk]
  unfold putBal
  rw [Array.getElem?_setIfInBounds]
  split
  ·rename_i h
   have e1:j = i:=by omega
   have e2:k = 1:=by omega
   subst e1 e2
   rw [if_pos rfl,Array.getElem?_setIfInBounds,if_pos rfl,if_pos (by omega),if_pos (by rw [hsz cs hz];omega)]
  ·rename_i h
   by_cases e:j = i
   ·subst e
    rw [if_pos rfl,Array.getElem?_setIfInBounds,if_neg (by omega),accAt_get hz hj hk]
   ·rw [if_neg e,accAt_get hz hj hk]
 ·rw [Array.getElem?_eq_none (by rw [hsz _ hz2];omega)]
  split
  ·rw [Array.getElem?_eq_none (by simp [hsz cs hz];omega)]
  ·rw [Array.getElem?_eq_none (by rw [hsz cs hz];omega)]
theorem LedV.put {w:World} {L:Nat -> Acc} {fees:Int} {cs:Array Value} (h:LedV w L fees cs) {i:Nat} (hi:i < 12) {v:Int} (hv:I64 v):LedV w (setBal L i v) fees (putBal cs i v):=by
 refine ⟨by simp [putBal,h.1],?_,h.2.2.1,fun j hj=>?_⟩
 ·unfold putBal
  rw [Array.getElem?_setIfInBounds,if_neg (by omega)]
  exact h.2.1
 ·rw [putBal_acc h.1 hi hj]
  have hA:=h.2.2.2 j hj
  unfold setBal
  split
  ·obtain ⟨pt,pa,pl,pc,st,sa,sl,sc,na,nl,nc,k,n,a,s,aa,al,ac,ta,tl,tc,ma,ml,mc,VN,h1,h2,h3⟩:=hA
   exact ⟨pt,pa,pl,pc,st,sa,sl,sc,na,nl,nc,k,n,a,s,aa,al,ac,ta,tl,tc,ma,ml,mc,VN,by rw [h1];rfl,⟨h2.1,hv,h2.2.2⟩,h3⟩
  ·exact hA
def movE (L:Nat -> Acc) (fr dn n:Int):Int:=if (bodyB L fr && bodyB L dn) = true then (if amtB n = true then (if (L fr.toNat).bal < n then 8 else 0) else 2) else 6
def movL (L:Nat -> Acc) (fr dn n:Int):Nat -> Acc :=
 setBal (setBal L fr.toNat (wrap64 ((L fr.toNat).bal - n))) dn.toNat (wrap64 ((setBal L fr.toNat (wrap64 ((L fr.toNat).bal - n)) dn.toNat).bal + n))
def movC (cs:Array Value) (L:Nat -> Acc) (fr dn n:Int):Array Value :=
 putBal (putBal cs fr.toNat (wrap64 ((L fr.toNat).bal - n))) dn.toNat (wrap64 ((setBal L fr.toNat (wrap64 ((L fr.toNat).bal - n)) dn.toNat).bal + n))
theorem movLed {w:World} {L:Nat -> Acc} {fees:Int} {cs:Array Value} (h:LedV w L fees cs) {fr dn n:Int} (h1:fr.toNat < 12) (h2:dn.toNat < 12):LedV w (movL L fr dn n) fees (movC cs L fr dn n) :=
 LedV.put (LedV.put h h1 (by unfold I64 wrap64;omega)) h2 (by unfold I64 wrap64;omega)
theorem body_lt {L:Nat -> Acc} {n:Int} (h:bodyB L n = true):0 <= n /\ n < 12:=by
 unfold bodyB at h
 simp only [Bool.and_eq_true,decide_eq_true_eq] at h
 exact h.1
end Go.Proofs.YtkglnoimbekhhaaGreat
