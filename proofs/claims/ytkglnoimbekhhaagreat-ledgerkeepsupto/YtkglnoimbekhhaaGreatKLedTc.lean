import Derived.Test.YtkglnoimbekhhaaGreatKLedQ
import Derived.Test.YtkglnoimbekhhaaGreatKZb
namespace Go.Proofs.YtkglnoimbekhhaaGreat
open Go.ChangeShapes Go.WideShapes Go.ChangeAt Go.RowKit
set_option linter.unusedVariables false
set_option linter.unusedSimpArgs false
set_option maxRecDepth 100000
set_option maxHeartbeats 8000000
theorem ldH {b:Nat} {cs:Array Value} {t:TypeId} {fr:Nat × Nat} {a:Act} {oi:Oper} {S:World -> Prop} (x:Operand) (ho:oi.op = .load 33 x) (hx:a.eval x = .pointer (some ⟨b,0,none⟩)) (hz:cs.size = 181) (hS:∀ w,S w -> w.heap[b]? = some (.cells cs t fr)):∀ w,S w -> (execOp a.eval oi).run Tryz.prog w = .ok (.value (.agg cs)) w:=fun w hw=>by
 unfold execOp
 simp only [ho,hx,Instr.loadAt,Instr.sureAddr,Sem.run_bind,Sem.run_pure,Result.andThen_ok,res_led (hS w hw) hz]
theorem keeps_c {W:World} {L:Nat -> Acc} {fees:Int} {cs:Array Value} (hL:LedV W L fees cs) (hS:∀ i,i < 12 -> Small (L i)) (fr dn n:Int) (hn:I64 n) (hG:goodLF L fees = true) (he:movE L fr dn n = 0) :
 Calls Tryz.prog 3 #[.agg cs,.int .i64 fr,.int .i64 dn,.int .i64 n] W fun e w'=>e = .returned (.bool true) /\ W.grownBy w' none:=by
 have hM:=movRed hL fr dn n
 have HZ:=jh hL.1
 have HO:=jh hL.one
 have HZ2:=jh hM.1
 have HO2:=jh hM.one
 have HMV:=jh (fun w=>move_any hL fr dn n w)
 have HGD:=jh (fun w' (h:W.grownBy w' none)=>good_led hL hS w' h)
 have HBK:=jh (fun w=>books_any w)
 have HG1:=jh (gBq (w:=W) (.cells cs 33))
 have HB0:=jh (heap_alloc_new W (.cells cs 33))
 have hQ:movQ L fr dn n = movL L fr dn n:=by unfold movQ;rw [if_pos he]
 obtain ⟨k1,k2,k3,k4,k5,k6⟩:=move_keeps hG he hn
 obtain ⟨hfi,hdi⟩:=movE_zero he
 rw [hQ] at hM
 have hQ2:movQ (movL L fr dn n) dn fr n = movL (movL L fr dn n) dn fr n:=by unfold movQ;rw [if_pos k3]
 have hB:=movRed hM dn fr n
 rw [hQ2] at hB
 have HGM:=jh (fun w' (h:W.grownBy w' none)=>good_led hM (fun i hi=>by have:=small_mov (fr:=fr) (dn:=dn) (n:=n) (hS i hi);rw [hQ] at this;exact this) w' h)
 have HSM:=jh (fun w=>sum_any hL w)
 have HSM2:=jh (fun w=>sum_any hM w)
 have HMB:=jh (fun w=>move_any hM dn fr n w)
 have c1:=(hL.cell hfi).2.1
 have c2:=(hL.cell hdi).2.1
 have c3:=(hB.cell hfi).2.1
 have c4:=(hB.cell hdi).2.1
 have c5:=(hM.cell hdi).2.1
 rw [k4] at c3
 rw [k5] at c4
 rw [k1] at HGM
 rw [k2] at HSM2
 rw [k3] at HMB
 rw [hG] at HGD
 rw [he] at HMV
 have HZ3:=jh hB.1
 have HO3:=jh hB.one
 have HK6:=jh k6
 obtain ⟨⟨f1,f2⟩,⟨d1,d2⟩⟩:(0 <= fr /\ fr < 12) /\ (0 <= dn /\ dn < 12):=by
  have : bodyB L fr = true /\ bodyB L dn = true:=by
   unfold movE at he
   revert he
   cases bodyB L fr <;> cases bodyB L dn <;> cases amtB n <;> simp
  exact ⟨body_lt this.1,body_lt this.2⟩
 clear hQ hQ2 k1 k2 k3 k4 k5 k6 hG he hM hB hL hS hfi hdi
 have HC1:=jh c1
 have HC2:=jh c2
 have HC3:=jh c3
 have HC4:=jh c4
 have HC5:=jh c5
 clear c1 c2 c3 c4 c5
 generalize movR (movR cs L fr dn n) (movL L fr dn n) dn fr n = cb at *
 generalize movR cs L fr dn n = cm at *
 generalize sumF L fees = sm at *
 generalize (movL L fr dn n dn.toNat).bal = bm at *
 generalize (L fr.toNat).bal = bf at *
 generalize (L dn.toNat).bal = bd at *
 go_enter Tryz.func3,Tryz.ntmps3
 go_upto_region 2 with (first
  | (go_at_call 4;(with_reducible refine (HMV.out _).mono ?_);rintro e w2 ⟨rfl,hg⟩;have HG2:=jh (gTq HG1.out hg);have HB1:=jh (kBq HB0.out hg);clear hg)
  | (refine wlLd rfl _ rfl rfl HB0.out HZ.out ?_)
  | (refine wlSt rfl _ _ _ rfl rfl rfl (heap_alloc_new w2 (.cells Tryz.zeroCells33 33)) (zled_size.trans HZ2.out.symm) (by rw [HZ2.out];exact info_led) HO2.out ?_;have HM0:=jh (setRow_block (cs:=cm) (heap_alloc_new w2 (.cells Tryz.zeroCells33 33)));have HG5:=jh (grow_row (b:=w2.heap.size) (cs:=cm) (gTq HG2.out (gBq (.cells Tryz.zeroCells33 33))) HG2.out.size);have HB5:=jh (((setRow_grow (w2.alloc (.cells Tryz.zeroCells33 33)) w2.heap.size cm).block _ (Nat.lt_of_lt_of_le (Array.getElem?_eq_some_iff.1 HB1.out).1 (gBq (.cells Tryz.zeroCells33 33)).size) (by simp;exact Nat.ne_of_lt (Array.getElem?_eq_some_iff.1 HB1.out).1)).trans (kBq HB1.out (gBq (.cells Tryz.zeroCells33 33))));generalize World.setRow _ _ _ = W5 at *))
 have hS5:W5.grownBy W5 none:=gRf _ _
 go_wp2_with (first
  | (refine wlLd rfl _ rfl rfl (kBq HB5.out (by assumption)) HZ.out ?_)
  | (refine wlLd rfl _ rfl rfl (kBq HM0.out (by assumption)) HZ2.out ?_)
  | (refine wpLd _ rfl rfl (kBq HB5.out (by assumption)) HZ.out ?_)
  | (refine wpLd _ rfl rfl (kBq HM0.out (by assumption)) HZ2.out ?_)
  | (go_at_call 6;(with_reducible refine (HBK.out _).mono ?_);rintro e w3 ⟨rfl,hg⟩;have hS6:=gTq (by assumption) hg;clear hg)
  | (go_at_call 4;(with_reducible refine (HMB.out _).mono ?_);rintro e w7 ⟨rfl,hg⟩;have hS7:=gTq hS6 hg;clear hg)
  | (refine wlSt rfl _ _ _ rfl rfl rfl (heap_alloc_new w7 (.cells Tryz.zeroCells33 33)) (zled_size.trans HZ3.out.symm) (by rw [HZ3.out];exact info_led) HO3.out ?_;have HM8:=jh (setRow_block (cs:=cb) (heap_alloc_new w7 (.cells Tryz.zeroCells33 33)));have hS8:=grow_row (b:=w7.heap.size) (cs:=cb) (gTq hS7 (gBq (.cells Tryz.zeroCells33 33))) hS7.size;generalize World.setRow _ _ _ = W8 at *)
  | (go_at_call 5;(first | with_reducible refine (HGD.out _ (gTq HG5.out (by assumption))).mono ?_ | with_reducible refine (HGM.out _ (gTq HG5.out (by assumption))).mono ?_);rintro e w3 ⟨rfl,hg⟩;have hS6:=gTq (by assumption) hg;clear hg))
 generalize hE:W8.heap.size = z8 at *
 clear hE
 have hT8:W8.grownBy W8 none:=gRf _ _
 have HB8:=jh (kBq HB5.out hS8)
 have HN8:=jh (kBq HM0.out hS8)
 have K8:=fun (w':World) (h:W8.grownBy w' none)=>And.intro (cell_of_row w' _ _ _ _ _ (kBq HB8.out h) |>.trans HC1.out) (And.intro (cell_of_row w' _ _ _ _ _ (kBq HB8.out h) |>.trans HC2.out) (And.intro (cell_of_row w' _ _ _ _ _ (kBq HM8.out h) |>.trans HC3.out) (And.intro (cell_of_row w' _ _ _ _ _ (kBq HM8.out h) |>.trans HC4.out) (cell_of_row w' _ _ _ _ _ (kBq HN8.out h) |>.trans HC5.out))))
 refine wp_region_held_drew (S:=fun w'=>W8.grownBy w' none) (by kernel_rfl) ?_ (fun hHeld=>?_)
 ·exact gDr (gRf _ _)
 refine reg_yes 0 52 ⟨_,rfl,rfl,by rfl,ldH (cs:=cm) _ rfl rfl HZ2.out (fun w h=>kBq HN8.out h)⟩ ?_ (by kernel_rfl) (by kernel_rfl) (by kernel_rfl) (fun _ _ _ h=>h) hHeld
 simp only [Act.put,pS]
 refine wpAnyH_ready (rs:=[1]) (by kernel_rfl) (by simp) ?_
 refine AllReadyH.cons rfl (fun K hK=>?_) AllReadyH.nil
 go_simp
 go_at_call 5
 (with_reducible refine (HGM.out _ (gTq (gTq HG5.out hS8) hHeld)).mono ?_)
 rintro e w9 ⟨rfl,hg⟩
 have hH9:=gTq hHeld hg
 refine hK.out _ _ hH9 (fun _=>?_)
 clear hK K hHeld hg
 have hHeld:=hH9
 clear hH9
 refine rGq 2 54 ?_
 refine reg_yes 3 55 ⟨_,rfl,rfl,by rfl,ldH (cs:=cm) _ rfl rfl HZ2.out (fun w h=>kBq HN8.out h)⟩ ?_ (by kernel_rfl) (by kernel_rfl) (by kernel_rfl) (fun _ _ _ h=>h) hHeld
 simp only [Act.put,pS]
 refine reg_yes 5 57 ⟨_,rfl,rfl,by rfl,ldH (cs:=cs) _ rfl rfl HZ.out (fun w h=>kBq HB8.out h)⟩ ?_ (by kernel_rfl) (by kernel_rfl) (by kernel_rfl) (fun _ _ _ h=>h) hHeld
 simp only [Act.put,pS]
 refine wpAnyH_ready (rs:=[4]) (by kernel_rfl) (by simp) ?_
 refine AllReadyH.cons rfl (fun K hK=>?_) AllReadyH.nil
 go_simp
 go_at_call 7
 (with_reducible refine (HSM2.out _).mono ?_)
 rintro e w9 ⟨rfl,hg⟩
 have hH9:=gTq hHeld hg
 refine hK.out _ _ hH9 (fun _=>?_)
 clear hK K hHeld hg
 have hHeld:=hH9
 clear hH9
 refine wpAnyH_ready (rs:=[6]) (by kernel_rfl) (by simp) ?_
 refine AllReadyH.cons rfl (fun K hK=>?_) AllReadyH.nil
 go_simp
 go_at_call 7
 (with_reducible refine (HSM.out _).mono ?_)
 rintro e w9 ⟨rfl,hg⟩
 have hH9:=gTq hHeld hg
 refine hK.out _ _ hH9 (fun _=>?_)
 clear hK K hHeld hg
 have hHeld:=hH9
 clear hH9
 by_cases hq:fr = dn
 ·subst hq
  refine rGq 7 59 ?_
  refine rGq 8 60 ?_
  refine rGq 9 61 ?_
  refine rGq 10 62 ?_
  refine rGq 11 63 ?_
  refine rGq 12 64 ?_
  refine rGq 13 65 ?_
  refine rGq 14 66 ?_
  refine rGq 15 67 ?_
  refine rGq 16 68 ?_
  refine rGq 17 69 ?_
  refine rGq 18 70 ?_
  refine rGq 19 71 ?_
  refine rGq 20 72 ?_
  refine rGq 21 73 ?_
  refine rGq 22 74 ?_
  refine rGq 23 75 ?_
  refine rGq 24 76 ?_
  refine rGq 25 77 ?_
  refine rGq 26 78 ?_
  refine rGq 27 79 ?_
  refine rGq 28 80 ?_
  refine rGq 29 81 ?_
  refine rGq 30 82 ?_
  refine rGq 31 83 ?_
  refine rGq 32 84 ?_
  refine rGq 33 85 ?_
  refine rGq 34 86 ?_
  refine rGq 35 87 ?_
  refine rGq 36 88 ?_
  refine rGq 37 89 ?_
  refine rGq 38 90 ?_
  refine rGq 39 91 ?_
  refine rGq 40 92 ?_
  refine rGq 41 93 ?_
  refine rGq 42 94 ?_
  refine rGq 43 95 ?_
  refine rNq 44 96 ?_
  refine rNq 45 97 ?_
  refine rNq 46 98 ?_
  refine rNq 47 99 ?_
  refine rNq 48 100 ?_
  refine rNq 49 101 ?_
  refine rNq 50 102 ?_
  refine rNq 51 103 ?_
  refine rNq 52 104 ?_
  refine rNq 53 105 ?_
  refine rNq 54 106 ?_
  refine rNq 55 107 ?_
  refine rNq 56 108 ?_
  refine rGq 57 109 ?_
  refine rGq 58 110 ?_
  refine rGq 59 8 ?_
  refine wpAnyH_done (by kernel_rfl) ?_ _
  clear K8
  go_wp2_with fail
  go_ret
  exact ⟨rfl,gTq HG5.out (gTq hS8 hHeld)⟩
 ·have hw:IntKind.i64.wrap (bm - bd) = n:=(IntKind.wrap_i64 (bm - bd)).trans (by rcases HK6.out with h | h;exact absurd h hq;unfold wrap64 at h;exact h)
  have hq2:(fr == dn) = false:=by simpa using hq
  refine rGq 7 59 ?_
  refine rGq 8 60 ?_
  refine rGq 9 61 ?_
  refine rGq 10 62 ?_
  refine rGq 11 63 ?_
  refine rGq 12 64 ?_
  refine rGq 13 65 ?_
  refine rGq 14 66 ?_
  refine rGq 15 67 ?_
  refine rGq 16 68 ?_
  refine rGq 17 69 ?_
  refine rGq 18 70 ?_
  refine rGq 19 71 ?_
  refine rGq 20 72 ?_
  refine rGq 21 73 ?_
  refine rGq 22 74 ?_
  refine rGq 23 75 ?_
  refine rGq 24 76 ?_
  refine rGq 25 77 ?_
  refine rGq 26 78 ?_
  refine rGq 27 79 ?_
  refine rGq 28 80 ?_
  refine rGq 29 81 ?_
  refine rGq 30 82 ?_
  refine rGq 31 83 ?_
  refine rGq 32 84 ?_
  refine rGq 33 85 ?_
  refine rGq 34 86 ?_
  refine rGq 35 87 ?_
  refine rGq 36 88 ?_
  refine rGq 37 89 ?_
  refine rGq 38 90 ?_
  refine rGq 39 91 ?_
  refine rGq 40 92 ?_
  refine rGq 41 93 ?_
  refine rGq 42 94 ?_
  refine rGq 43 95 ?_
  refine rGq 44 96 ?_
  refine rGq 45 97 ?_
  refine rGq 46 98 ?_
  refine rGq 47 99 ?_
  refine rGq 48 100 ?_
  refine rGq 49 101 ?_
  refine rGq 50 102 ?_
  refine rGq 51 103 ?_
  refine rGq 52 104 ?_
  refine rGq 53 105 ?_
  refine rGq 54 106 ?_
  refine rGq 55 107 ?_
  refine rGq 56 108 ?_
  refine rGq 57 109 ?_
  refine rGq 58 110 ?_
  refine rGq 59 8 ?_
  refine wpAnyH_done (by kernel_rfl) ?_ _
  clear K8
  go_wp2_with fail
  go_ret
  exact ⟨rfl,gTq HG5.out (gTq hS8 hHeld)⟩
end Go.Proofs.YtkglnoimbekhhaaGreat
