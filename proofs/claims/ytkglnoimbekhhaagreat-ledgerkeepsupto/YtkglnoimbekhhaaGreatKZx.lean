import Derived.Test.YtkglnoimbekhhaaGreatKZw
import Derived.Test.YtkglnoimbekhhaaGreatKZd
import Derived.Laws.ResultCell
namespace Go.Proofs.YtkglnoimbekhhaaGreat
open Go.ChangeShapes Go.WideShapes Go.ChangeAt Go.RowKit
set_option linter.unusedVariables false
set_option linter.unusedSimpArgs false
set_option maxRecDepth 100000
set_option maxHeartbeats 8000000
theorem zled_size:Tryz.zeroCells33.size = 181:=by kernel_rfl
theorem grow_row {W w:World} {b:Nat} {cs:Array Value} (hg:W.grownBy w none) (hb:W.heap.size <= b):W.grownBy (w.setRow b cs) none where
 os:=hg.os
 tape:=hg.tape
 output:=hg.output
 size:=Nat.le_trans hg.size (setRow_grow w b cs).size
 block:=fun k hk hr=>((setRow_grow w b cs).block k (Nat.lt_of_lt_of_le hk hg.size) (by simp;omega)).trans (hg.block k hk hr)
theorem res_led {w:World} {b:Nat} {cs:Array Value} {t:TypeId} {fr:Nat × Nat} (hb:w.heap[b]? = some (.cells cs t fr)) (hz:cs.size = 181):(loadVar 33 ⟨b,0,none⟩).run Tryz.prog w = .ok (.agg cs) w :=
 run_loadVar_row w b t 33 cs fr _ hb Tryz.underlying33 rfl (by rw [hz];exact info_led)
theorem res2 {fn:Func} {p u:Tmp} {ty:TypeId} {tmps:Array Value} {w:World} {ad:Addr} {v1 v2:Value} (h:fn.results = #[.cell p ty,.tmp u]) (h1:tmps.getD p undef = .pointer (some ad)) (h2:tmps.getD u undef = v2) (hl:(loadVar ty ad).run Tryz.prog w = .ok v1 w):(results fn tmps).run Tryz.prog w = .ok (.tuple #[v1,v2]) w:=by
 rw [results_cell_tmp h,h1,h2]
 simp [asAddr,hl]
theorem wlPut {o:Oper} {a:Act} {w:World} {Q:Exit -> Act -> World -> Prop} {b i:Nat} {cs:Array Value} {t:TypeId} {v:Int} {ops:Array Oper} {rest:List Oper} (hgd:o.guard = none) (x y:Operand) (ho:o.op = .store 3 x y) (hx:a.eval x = .pointer (some ⟨b,i * 15 + 1,none⟩)) (hy:a.eval y = .int .i64 v) (hb:w.heap[b]? = some (.cells cs t (0,0))) (hk:i * 15 + 1 < cs.size)
 (h:wpList Tryz.prog ops Q rest (a.put o.dst undef) (w.setRow b (putBal cs i v))):wpList Tryz.prog ops Q (o :: rest) a w:=wlSt1 hgd x y ho hx hy hb hk h
theorem move_a {w:World} {L:Nat -> Acc} {fees:Int} {cs:Array Value} (hL:LedV w L fees cs) (fr dn n:Int) (h1:bodyB L fr = false) (W:World) :
 Calls Tryz.prog 4 #[.agg cs,.int .i64 fr,.int .i64 dn,.int .i64 n] W fun e w'=>e = .returned (.tuple #[.agg cs,.int .i64 6]) /\ W.grownBy w' none:=by
 have HZ:=jh hL.1
 have HO:=jh hL.one
 have H1:=jh (body_any hL fr)
 have H2:=jh (body_any hL dn)
 have HA:=jh (amt_any n)
 have HG2:=jh (gTq (gBq (w:=W) (.cells cs 33)) (gBq (.cells Tryz.zeroCells33 33)))
 have HB0:=jh (fun w' (h:((W.alloc (.cells cs 33)).alloc (.cells Tryz.zeroCells33 33)).grownBy w' none)=>kBq (rNw W (.cells cs 33) (.cells Tryz.zeroCells33 33)) h)
 have hB1:=heap_alloc_new (W.alloc (.cells cs 33)) (.cells Tryz.zeroCells33 33)
 rw [World.size_alloc] at hB1
 have HB1:=jh (fun w' (h:((W.alloc (.cells cs 33)).alloc (.cells Tryz.zeroCells33 33)).grownBy w' none)=>kBq hB1 h)
 rw [h1] at H1
 clear h1
 clear hB1 hL
 go_enter Tryz.func4,Tryz.ntmps4
 go_upto_region 1 with (fail)
 generalize (W.alloc _).alloc _ = W2 at *
 have hS0:W2.grownBy W2 none:=gRf _ _
 go_wp2_with (first
  | (go_at_call 9;(with_reducible refine (HA.out _).mono ?_);rintro e w1 ⟨rfl,rfl⟩)
  | (go_at_call 8;(first | with_reducible refine (H1.out _).mono ?_ | with_reducible refine (H2.out _).mono ?_);rintro e w1 ⟨rfl,hg⟩;have hS1:=gTq (by assumption) hg;clear hg)
  | (refine wpLd _ rfl rfl (HB0.out _ (by assumption)) HZ.out ?_)
  | (refine wlLd rfl _ rfl rfl (HB0.out _ (by assumption)) HZ.out ?_)
  | (refine wlSt rfl _ _ _ rfl rfl rfl (HB1.out _ (by assumption)) (zled_size.trans HZ.out.symm) (by rw [HZ.out];exact info_led) HO.out ?_;have HD:=jh (setRow_block (cs:=cs) (HB1.out _ (by assumption)));have HGD:=jh (grow_row (cs:=cs) (gTq HG2.out (by assumption)) (Nat.le_succ W.heap.size));generalize World.setRow _ _ _ = W5 at *))
 exact bodyPost_ret (res2 (v1:=.agg cs) (v2:=.int .i64 6) Tryz.results4 rfl rfl (res_led HD.out HZ.out)) rfl ⟨rfl,HGD.out⟩
theorem move_b {w:World} {L:Nat -> Acc} {fees:Int} {cs:Array Value} (hL:LedV w L fees cs) (fr dn n:Int) (h1:bodyB L fr = true) (h2:bodyB L dn = false) (W:World) :
 Calls Tryz.prog 4 #[.agg cs,.int .i64 fr,.int .i64 dn,.int .i64 n] W fun e w'=>e = .returned (.tuple #[.agg cs,.int .i64 6]) /\ W.grownBy w' none:=by
 have HZ:=jh hL.1
 have HO:=jh hL.one
 have H1:=jh (body_any hL fr)
 have H2:=jh (body_any hL dn)
 have HA:=jh (amt_any n)
 have HG2:=jh (gTq (gBq (w:=W) (.cells cs 33)) (gBq (.cells Tryz.zeroCells33 33)))
 have HB0:=jh (fun w' (h:((W.alloc (.cells cs 33)).alloc (.cells Tryz.zeroCells33 33)).grownBy w' none)=>kBq (rNw W (.cells cs 33) (.cells Tryz.zeroCells33 33)) h)
 have hB1:=heap_alloc_new (W.alloc (.cells cs 33)) (.cells Tryz.zeroCells33 33)
 rw [World.size_alloc] at hB1
 have HB1:=jh (fun w' (h:((W.alloc (.cells cs 33)).alloc (.cells Tryz.zeroCells33 33)).grownBy w' none)=>kBq hB1 h)
 rw [h1] at H1
 rw [h2] at H2
 clear h1 h2
 clear hB1 hL
 go_enter Tryz.func4,Tryz.ntmps4
 go_upto_region 1 with (fail)
 generalize (W.alloc _).alloc _ = W2 at *
 have hS0:W2.grownBy W2 none:=gRf _ _
 go_wp2_with (first
  | (go_at_call 9;(with_reducible refine (HA.out _).mono ?_);rintro e w1 ⟨rfl,rfl⟩)
  | (go_at_call 8;(first | with_reducible refine (H1.out _).mono ?_ | with_reducible refine (H2.out _).mono ?_);rintro e w1 ⟨rfl,hg⟩;have hS1:=gTq (by assumption) hg;clear hg)
  | (refine wpLd _ rfl rfl (HB0.out _ (by assumption)) HZ.out ?_)
  | (refine wlLd rfl _ rfl rfl (HB0.out _ (by assumption)) HZ.out ?_)
  | (refine wlSt rfl _ _ _ rfl rfl rfl (HB1.out _ (by assumption)) (zled_size.trans HZ.out.symm) (by rw [HZ.out];exact info_led) HO.out ?_;have HD:=jh (setRow_block (cs:=cs) (HB1.out _ (by assumption)));have HGD:=jh (grow_row (cs:=cs) (gTq HG2.out (by assumption)) (Nat.le_succ W.heap.size));generalize World.setRow _ _ _ = W5 at *))
 refine wpLd _ rfl rfl (HB0.out _ (by assumption)) HZ.out ?_
 go_wp2_with (first
  | (go_at_call 9;(with_reducible refine (HA.out _).mono ?_);rintro e w1 ⟨rfl,rfl⟩)
  | (go_at_call 8;(first | with_reducible refine (H1.out _).mono ?_ | with_reducible refine (H2.out _).mono ?_);rintro e w1 ⟨rfl,hg⟩;have hS1:=gTq (by assumption) hg;clear hg)
  | (refine wpLd _ rfl rfl (HB0.out _ (by assumption)) HZ.out ?_)
  | (refine wlLd rfl _ rfl rfl (HB0.out _ (by assumption)) HZ.out ?_)
  | (refine wlSt rfl _ _ _ rfl rfl rfl (HB1.out _ (by assumption)) (zled_size.trans HZ.out.symm) (by rw [HZ.out];exact info_led) HO.out ?_;have HD:=jh (setRow_block (cs:=cs) (HB1.out _ (by assumption)));have HGD:=jh (grow_row (cs:=cs) (gTq HG2.out (by assumption)) (Nat.le_succ W.heap.size));generalize World.setRow _ _ _ = W5 at *))
 exact bodyPost_ret (res2 (v1:=.agg cs) (v2:=.int .i64 6) Tryz.results4 rfl rfl (res_led HD.out HZ.out)) rfl ⟨rfl,HGD.out⟩
theorem move_c {w:World} {L:Nat -> Acc} {fees:Int} {cs:Array Value} (hL:LedV w L fees cs) (fr dn n:Int) (h1:bodyB L fr = true) (h2:bodyB L dn = true) (h3:amtB n = false) (W:World) :
 Calls Tryz.prog 4 #[.agg cs,.int .i64 fr,.int .i64 dn,.int .i64 n] W fun e w'=>e = .returned (.tuple #[.agg cs,.int .i64 2]) /\ W.grownBy w' none:=by
 have HZ:=jh hL.1
 have HO:=jh hL.one
 have H1:=jh (body_any hL fr)
 have H2:=jh (body_any hL dn)
 have HA:=jh (amt_any n)
 have HG2:=jh (gTq (gBq (w:=W) (.cells cs 33)) (gBq (.cells Tryz.zeroCells33 33)))
 have HB0:=jh (fun w' (h:((W.alloc (.cells cs 33)).alloc (.cells Tryz.zeroCells33 33)).grownBy w' none)=>kBq (rNw W (.cells cs 33) (.cells Tryz.zeroCells33 33)) h)
 have hB1:=heap_alloc_new (W.alloc (.cells cs 33)) (.cells Tryz.zeroCells33 33)
 rw [World.size_alloc] at hB1
 have HB1:=jh (fun w' (h:((W.alloc (.cells cs 33)).alloc (.cells Tryz.zeroCells33 33)).grownBy w' none)=>kBq hB1 h)
 rw [h1] at H1
 rw [h2] at H2
 rw [h3] at HA
 clear h1 h2 h3
 clear hB1 hL
 go_enter Tryz.func4,Tryz.ntmps4
 go_upto_region 1 with (fail)
 generalize (W.alloc _).alloc _ = W2 at *
 have hS0:W2.grownBy W2 none:=gRf _ _
 go_wp2_with (first
  | (go_at_call 9;(with_reducible refine (HA.out _).mono ?_);rintro e w1 ⟨rfl,rfl⟩)
  | (go_at_call 8;(first | with_reducible refine (H1.out _).mono ?_ | with_reducible refine (H2.out _).mono ?_);rintro e w1 ⟨rfl,hg⟩;have hS1:=gTq (by assumption) hg;clear hg)
  | (refine wpLd _ rfl rfl (HB0.out _ (by assumption)) HZ.out ?_)
  | (refine wlLd rfl _ rfl rfl (HB0.out _ (by assumption)) HZ.out ?_)
  | (refine wlSt rfl _ _ _ rfl rfl rfl (HB1.out _ (by assumption)) (zled_size.trans HZ.out.symm) (by rw [HZ.out];exact info_led) HO.out ?_;have HD:=jh (setRow_block (cs:=cs) (HB1.out _ (by assumption)));have HGD:=jh (grow_row (cs:=cs) (gTq HG2.out (by assumption)) (Nat.le_succ W.heap.size));generalize World.setRow _ _ _ = W5 at *))
 refine wpLd _ rfl rfl (HB0.out _ (by assumption)) HZ.out ?_
 go_wp2_with (first
  | (go_at_call 9;(with_reducible refine (HA.out _).mono ?_);rintro e w1 ⟨rfl,rfl⟩)
  | (go_at_call 8;(first | with_reducible refine (H1.out _).mono ?_ | with_reducible refine (H2.out _).mono ?_);rintro e w1 ⟨rfl,hg⟩;have hS1:=gTq (by assumption) hg;clear hg)
  | (refine wpLd _ rfl rfl (HB0.out _ (by assumption)) HZ.out ?_)
  | (refine wlLd rfl _ rfl rfl (HB0.out _ (by assumption)) HZ.out ?_)
  | (refine wlSt rfl _ _ _ rfl rfl rfl (HB1.out _ (by assumption)) (zled_size.trans HZ.out.symm) (by rw [HZ.out];exact info_led) HO.out ?_;have HD:=jh (setRow_block (cs:=cs) (HB1.out _ (by assumption)));have HGD:=jh (grow_row (cs:=cs) (gTq HG2.out (by assumption)) (Nat.le_succ W.heap.size));generalize World.setRow _ _ _ = W5 at *))
 exact bodyPost_ret (res2 (v1:=.agg cs) (v2:=.int .i64 2) Tryz.results4 rfl rfl (res_led HD.out HZ.out)) rfl ⟨rfl,HGD.out⟩
theorem move_d {w:World} {L:Nat -> Acc} {fees:Int} {cs:Array Value} (hL:LedV w L fees cs) (fr dn n:Int) (h1:bodyB L fr = true) (h2:bodyB L dn = true) (h3:amtB n = true) (h4:(L fr.toNat).bal < n) (W:World) :
 Calls Tryz.prog 4 #[.agg cs,.int .i64 fr,.int .i64 dn,.int .i64 n] W fun e w'=>e = .returned (.tuple #[.agg cs,.int .i64 8]) /\ W.grownBy w' none:=by
 have HZ:=jh hL.1
 have HO:=jh hL.one
 have H1:=jh (body_any hL fr)
 have H2:=jh (body_any hL dn)
 have HA:=jh (amt_any n)
 have HG2:=jh (gTq (gBq (w:=W) (.cells cs 33)) (gBq (.cells Tryz.zeroCells33 33)))
 have HB0:=jh (fun w' (h:((W.alloc (.cells cs 33)).alloc (.cells Tryz.zeroCells33 33)).grownBy w' none)=>kBq (rNw W (.cells cs 33) (.cells Tryz.zeroCells33 33)) h)
 have hB1:=heap_alloc_new (W.alloc (.cells cs 33)) (.cells Tryz.zeroCells33 33)
 rw [World.size_alloc] at hB1
 have HB1:=jh (fun w' (h:((W.alloc (.cells cs 33)).alloc (.cells Tryz.zeroCells33 33)).grownBy w' none)=>kBq hB1 h)
 rw [h1] at H1
 rw [h2] at H2
 rw [h3] at HA
 obtain ⟨b1,b2⟩:=body_lt h1
 obtain ⟨b3,b4⟩:=body_lt h2
 have HC:=jh (hL.cell (i:=fr.toNat) (by omega)).2.1
 clear h1 h2 h3
 clear hB1 hL
 generalize (L fr.toNat).bal = bl at *
 go_enter Tryz.func4,Tryz.ntmps4
 go_upto_region 1 with (fail)
 generalize (W.alloc _).alloc _ = W2 at *
 have hS0:W2.grownBy W2 none:=gRf _ _
 go_wp2_with (first
  | (go_at_call 9;(with_reducible refine (HA.out _).mono ?_);rintro e w1 ⟨rfl,rfl⟩)
  | (go_at_call 8;(first | with_reducible refine (H1.out _).mono ?_ | with_reducible refine (H2.out _).mono ?_);rintro e w1 ⟨rfl,hg⟩;have hS1:=gTq (by assumption) hg;clear hg)
  | (refine wpLd _ rfl rfl (HB0.out _ (by assumption)) HZ.out ?_)
  | (refine wlLd rfl _ rfl rfl (HB0.out _ (by assumption)) HZ.out ?_)
  | (refine wlLd1 rfl _ rfl rfl (HB0.out _ (by assumption)) (by simpa using HC.out) ?_)
  | (refine wlSt rfl _ _ _ rfl rfl rfl (HB1.out _ (by assumption)) (zled_size.trans HZ.out.symm) (by rw [HZ.out];exact info_led) HO.out ?_;have HD:=jh (setRow_block (cs:=cs) (HB1.out _ (by assumption)));have HGD:=jh (grow_row (cs:=cs) (gTq HG2.out (by assumption)) (Nat.le_succ W.heap.size));generalize World.setRow _ _ _ = W5 at *))
 refine wpLd _ rfl rfl (HB0.out _ (by assumption)) HZ.out ?_
 go_wp2_with (first
  | (go_at_call 9;(with_reducible refine (HA.out _).mono ?_);rintro e w1 ⟨rfl,rfl⟩)
  | (go_at_call 8;(first | with_reducible refine (H1.out _).mono ?_ | with_reducible refine (H2.out _).mono ?_);rintro e w1 ⟨rfl,hg⟩;have hS1:=gTq (by assumption) hg;clear hg)
  | (refine wpLd _ rfl rfl (HB0.out _ (by assumption)) HZ.out ?_)
  | (refine wlLd rfl _ rfl rfl (HB0.out _ (by assumption)) HZ.out ?_)
  | (refine wlLd1 rfl _ rfl rfl (HB0.out _ (by assumption)) (by simpa using HC.out) ?_)
  | (refine wlSt rfl _ _ _ rfl rfl rfl (HB1.out _ (by assumption)) (zled_size.trans HZ.out.symm) (by rw [HZ.out];exact info_led) HO.out ?_;have HD:=jh (setRow_block (cs:=cs) (HB1.out _ (by assumption)));have HGD:=jh (grow_row (cs:=cs) (gTq HG2.out (by assumption)) (Nat.le_succ W.heap.size));generalize World.setRow _ _ _ = W5 at *))
 exact bodyPost_ret (res2 (v1:=.agg cs) (v2:=.int .i64 8) Tryz.results4 rfl rfl (res_led HD.out HZ.out)) rfl ⟨rfl,HGD.out⟩
theorem move_ok {w:World} {L:Nat -> Acc} {fees:Int} {cs:Array Value} (hL:LedV w L fees cs) (fr dn n:Int) (h1:bodyB L fr = true) (h2:bodyB L dn = true) (h3:amtB n = true) (h4:¬ (L fr.toNat).bal < n) (W:World) :
 Calls Tryz.prog 4 #[.agg cs,.int .i64 fr,.int .i64 dn,.int .i64 n] W fun e w'=>e = .returned (.tuple #[.agg (movC cs L fr dn n),.int .i64 0]) /\ W.grownBy w' none:=by
 have HZ:=jh hL.1
 have HO:=jh hL.one
 have H1:=jh (body_any hL fr)
 have H2:=jh (body_any hL dn)
 have HA:=jh (amt_any n)
 have HG2:=jh (gTq (gBq (w:=W) (.cells cs 33)) (gBq (.cells Tryz.zeroCells33 33)))
 have HB0:=jh (fun w' (h:((W.alloc (.cells cs 33)).alloc (.cells Tryz.zeroCells33 33)).grownBy w' none)=>kBq (rNw W (.cells cs 33) (.cells Tryz.zeroCells33 33)) h)
 have hB1:=heap_alloc_new (W.alloc (.cells cs 33)) (.cells Tryz.zeroCells33 33)
 rw [World.size_alloc] at hB1
 have HB1:=jh (fun w' (h:((W.alloc (.cells cs 33)).alloc (.cells Tryz.zeroCells33 33)).grownBy w' none)=>kBq hB1 h)
 rw [h1] at H1
 rw [h2] at H2
 rw [h3] at HA
 obtain ⟨b1,b2⟩:=body_lt h1
 obtain ⟨b3,b4⟩:=body_lt h2
 have HC:=jh (hL.cell (i:=fr.toNat) (by omega)).2.1
 have HP1:=jh (LedV.put hL (i:=fr.toNat) (by omega) (v:=wrap64 ((L fr.toNat).bal - n)) (by unfold I64 wrap64;omega))
 have HC2:=jh (HP1.out.cell (i:=dn.toNat) (by omega)).2.1
 have HP2:=jh (LedV.put HP1.out (i:=dn.toNat) (by omega) (v:=wrap64 ((setBal L fr.toNat (wrap64 ((L fr.toNat).bal - n)) dn.toNat).bal + n)) (by unfold I64 wrap64;omega))
 have HZ1:=jh HP1.out.1
 have HZ2:=jh HP2.out.1
 have HO2:=jh HP2.out.one
 have HK1:=jh (show fr.toNat * 15 + 1 < cs.size by have:=hL.1;omega)
 have HK2:=jh (show dn.toNat * 15 + 1 < (putBal cs fr.toNat (wrap64 ((L fr.toNat).bal - n))).size by have:=HZ1.out;omega)
 unfold movC
 clear HP1 HP2 h1 h2 h3
 clear hB1 hL
 generalize (setBal L fr.toNat (wrap64 ((L fr.toNat).bal - n)) dn.toNat).bal = bd at *
 generalize (L fr.toNat).bal = bl at *
 go_enter Tryz.func4,Tryz.ntmps4
 go_upto_region 1 with (fail)
 generalize (W.alloc _).alloc _ = W2 at *
 have hS0:W2.grownBy W2 none:=gRf _ _
 go_wp2_with (first
  | (go_at_call 9;(with_reducible refine (HA.out _).mono ?_);rintro e w1 ⟨rfl,rfl⟩)
  | (go_at_call 8;(first | with_reducible refine (H1.out _).mono ?_ | with_reducible refine (H2.out _).mono ?_);rintro e w1 ⟨rfl,hg⟩;have hS1:=gTq (by assumption) hg;clear hg)
  | (refine wpLd _ rfl rfl (HB0.out _ (by assumption)) HZ.out ?_)
  | (refine wlLd rfl _ rfl rfl (HB0.out _ (by assumption)) HZ.out ?_)
  | (refine wlLd1 rfl _ rfl rfl (HB0.out _ (by assumption)) (by simpa using HC.out) ?_))
 refine wpLd _ rfl rfl (HB0.out _ (by assumption)) HZ.out ?_
 go_wp2_with (first
  | (go_at_call 9;(with_reducible refine (HA.out _).mono ?_);rintro e w1 ⟨rfl,rfl⟩)
  | (go_at_call 8;(first | with_reducible refine (H1.out _).mono ?_ | with_reducible refine (H2.out _).mono ?_);rintro e w1 ⟨rfl,hg⟩;have hS1:=gTq (by assumption) hg;clear hg)
  | (refine wpLd _ rfl rfl (HB0.out _ (by assumption)) HZ.out ?_)
  | (refine wlLd rfl _ rfl rfl (HB0.out _ (by assumption)) HZ.out ?_)
  | (refine wlLd1 rfl _ rfl rfl (HB0.out _ (by assumption)) (by simpa using HC.out) ?_)
  | (refine wlSt rfl _ _ _ rfl rfl rfl (heap_alloc_new w1 (.cells Tryz.zeroCells33 33)) (zled_size.trans HZ.out.symm) (by rw [HZ.out];exact info_led) HO.out ?_;have HM:=jh (setRow_block (cs:=cs) (heap_alloc_new w1 (.cells Tryz.zeroCells33 33)));have HGM:=jh (grow_row (b:=w1.heap.size) (cs:=cs) (gTq hS1 (gBq (.cells Tryz.zeroCells33 33))) hS1.size);have HH:=jh hS1.size;generalize World.setRow _ _ _ = W5 at *)
  | (refine wlLd1 rfl _ rfl rfl HM.out (by simpa using HC.out) ?_)
  | (refine wlPut rfl _ _ rfl rfl rfl HM.out HK1.out ?_;have HM6:=jh (setRow_block (cs:=(putBal cs fr.toNat (wrap64 (bl - n)))) HM.out);have HGM6:=jh (grow_row (b:=w1.heap.size) (cs:=(putBal cs fr.toNat (wrap64 (bl - n)))) HGM.out HH.out);generalize World.setRow _ _ _ = W6 at *)
  | (refine wlLd1 rfl _ rfl rfl HM6.out (by simpa using HC2.out) ?_)
  | (refine wlPut rfl _ _ rfl rfl rfl HM6.out HK2.out ?_;have HM7:=jh (setRow_block (cs:=(putBal (putBal cs fr.toNat (wrap64 (bl - n))) dn.toNat (wrap64 (bd + n)))) HM6.out);have HGM7:=jh (grow_row (b:=w1.heap.size) (cs:=(putBal (putBal cs fr.toNat (wrap64 (bl - n))) dn.toNat (wrap64 (bd + n)))) HGM6.out HH.out);generalize World.setRow _ _ _ = W7 at *)
  | (refine wlLd rfl _ rfl rfl HM7.out HZ2.out ?_)
  | (refine wlSt rfl _ _ _ rfl rfl rfl (HB1.out _ HGM7.out) (zled_size.trans HZ2.out.symm) (by rw [HZ2.out];exact info_led) HO2.out ?_;have HD:=jh (setRow_block (cs:=(putBal (putBal cs fr.toNat (wrap64 (bl - n))) dn.toNat (wrap64 (bd + n)))) (HB1.out _ HGM7.out));have HGD:=jh (grow_row (b:=W.heap.size + 1) (cs:=(putBal (putBal cs fr.toNat (wrap64 (bl - n))) dn.toNat (wrap64 (bd + n)))) (gTq HG2.out HGM7.out) (Nat.le_succ W.heap.size));generalize World.setRow _ _ _ = W8 at *))
 exact bodyPost_ret (res2 (v1:=.agg _) (v2:=.int .i64 0) Tryz.results4 rfl rfl (res_led HD.out HZ2.out)) rfl ⟨rfl,HGD.out⟩
end Go.Proofs.YtkglnoimbekhhaaGreat
