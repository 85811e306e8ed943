import Derived.Test.YtkglnoimbekhhaaGreatKLedQ
namespace Go.Proofs.YtkglnoimbekhhaaGreat
open Go.ChangeShapes Go.WideShapes Go.ChangeAt Go.RowKit
set_option linter.unusedVariables false
set_option linter.unusedSimpArgs false
set_option maxRecDepth 100000
set_option maxHeartbeats 8000000
theorem keeps_b {W:World} {L:Nat -> Acc} {fees:Int} {cs:Array Value} (hL:LedV W L fees cs) (hS:∀ i,i < 12 -> Small (L i)) (fr dn n:Int) (hn:I64 n) (hG:goodLF L fees = true) (he:movE L fr dn n ≠ 0) :
 Calls Tryz.prog 3 #[.agg cs,.int .i64 fr,.int .i64 dn,.int .i64 n] W fun e w'=>e = .returned (.bool true) /\ W.grownBy w' none:=by
 have hR:movR cs L fr dn n = cs:=by unfold movR;rw [if_neg he]
 have hM:=movRed hL fr dn n
 have HZ:=jh hL.1
 have HO:=jh hL.one
 have HZ2:=jh hM.1
 have HO2:=jh hM.one
 have HMV:=jh (fun w=>move_any hL fr dn n w)
 have HGD:=jh (fun w' (h:W.grownBy w' none)=>good_led hL hS w' h)
 have HBK:=jh (fun w=>books_any w)
 have HG1:=jh (gBq (w:=W) (.cells cs 33))
 have HB0:=jh (heap_alloc_new W (.cells cs 33))
 rw [hG] at HGD
 rw [hR] at HMV HZ2 HO2
 have HC:=jh (hL.cell (i:=0) (by omega)).2.1
 have q1:(movE L fr dn n == 0) = false:=by simpa using he
 clear hG hL hS hM hR
 generalize movE L fr dn n = e0 at *
 generalize (L 0).bal = b0 at *
 go_enter Tryz.func3,Tryz.ntmps3
 go_upto_region 2 with (first
  | (go_at_call 4;(with_reducible refine (HMV.out _).mono ?_);rintro e w2 ⟨rfl,hg⟩;have HG2:=jh (gTq HG1.out hg);have HB1:=jh (kBq HB0.out hg);clear hg)
  | (refine wlLd rfl _ rfl rfl HB0.out HZ.out ?_)
  | (refine wlSt rfl _ _ _ rfl rfl rfl (heap_alloc_new w2 (.cells Tryz.zeroCells33 33)) (zled_size.trans HZ2.out.symm) (by rw [HZ2.out];exact info_led) HO2.out ?_;have HM0:=jh (setRow_block (cs:=cs) (heap_alloc_new w2 (.cells Tryz.zeroCells33 33)));have HG5:=jh (grow_row (b:=w2.heap.size) (cs:=cs) (gTq HG2.out (gBq (.cells Tryz.zeroCells33 33))) HG2.out.size);have HB5:=jh (((setRow_grow (w2.alloc (.cells Tryz.zeroCells33 33)) w2.heap.size cs).block _ (Nat.lt_of_lt_of_le (Array.getElem?_eq_some_iff.1 HB1.out).1 (gBq (.cells Tryz.zeroCells33 33)).size) (by simp;exact Nat.ne_of_lt (Array.getElem?_eq_some_iff.1 HB1.out).1)).trans (kBq HB1.out (gBq (.cells Tryz.zeroCells33 33))));generalize World.setRow _ _ _ = W5 at *))
 have hS5:W5.grownBy W5 none:=gRf _ _
 have K:=fun (w':World) (h:W5.grownBy w' none)=>And.intro (show w'.cell? ⟨W.heap.size,1,none⟩ = some (.int .i64 b0) from by have:=HC.out;simp [World.cell?,kBq HB5.out h];simpa using this) (show w'.cell? ⟨w2.heap.size,1,none⟩ = some (.int .i64 b0) from by have:=HC.out;simp [World.cell?,kBq HM0.out h];simpa using this)
 go_wp2_with (first
  | (refine wlLd rfl _ rfl rfl (kBq HB5.out (by assumption)) HZ.out ?_)
  | (refine wlLd rfl _ rfl rfl (kBq HM0.out (by assumption)) HZ2.out ?_)
  | (refine wpLd _ rfl rfl (kBq HB5.out (by assumption)) HZ.out ?_)
  | (refine wpLd _ rfl rfl (kBq HM0.out (by assumption)) HZ2.out ?_)
  | (go_at_call 6;(with_reducible refine (HBK.out _).mono ?_);rintro e w3 ⟨rfl,hg⟩;have hS6:=gTq (by assumption) hg;clear hg)
  | (go_at_call 5;(with_reducible refine (HGD.out _ (gTq HG5.out (by assumption))).mono ?_);rintro e w3 ⟨rfl,hg⟩;have hS6:=gTq (by assumption) hg;clear hg))
 go_ret
 exact ⟨rfl,gTq HG5.out (by assumption)⟩
end Go.Proofs.YtkglnoimbekhhaaGreat
