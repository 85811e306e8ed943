/- The document's own Order, by its contract. -/
import Derived.Test.YtmmgihaoahhkjaaKValA
import Derived.Deep.RegionHeld3
import Derived.Laws.Cover1
import Derived.Deep.DeepCutAuto
namespace Go.Proofs.Ytmmgihaoahhkjaa
open Go.ChangeShapes Go.WideShapes Go.ChangeAt Go.RowKit
set_option linter.unusedVariables false

theorem bless_irr (l : List UInt8) : Op.bytesLess l l = false := by
  rw [less_cmpL, (cmpL_zero l l).2 rfl]; decide

theorem cmpI_self (a : Int) : cmpI a a = 0 := by simp [cmpI]

/-- what Order says where the first two part -/
theorem ord_less {x y : Va} (hd : x.n = y.n ∨ x.s.toList = y.s.toList) (h : x.n < y.n ∨ Op.bytesLess x.s.toList y.s.toList = true) : ordV x y = -1 := by
  have hc : ordC x y = -1 := by
    rw [ordC_lex]
    rcases h with h | h
    · have : cmpI x.n y.n = -1 := by unfold cmpI; rw [if_pos h]
      rw [this]; simp [lexI]
    · have hne : x.s.toList ≠ y.s.toList := fun e => by rw [e, bless_irr] at h; cases h
      have hn : x.n = y.n := hd.resolve_right hne
      rw [hn, cmpI_self]
      rw [less_cmpL] at h
      have h2 := of_decide_eq_true h
      rcases cmpL_sgn x.s.toList y.s.toList with e | e | e <;> simp [lexI, e] <;> omega
  unfold ordV
  rw [sbsV_lex, hc]; simp [lexI]

theorem ord_more {x y : Va} (hd : x.n = y.n ∨ x.s.toList = y.s.toList) (h : y.n < x.n ∨ Op.bytesLess y.s.toList x.s.toList = true) : ordV x y = 1 := by
  have := ord_less (x := y) (y := x) (hd.imp Eq.symm Eq.symm) h
  rw [ordV_neg] at this
  omega

theorem ord_even {x y : Va} (hn : x.n = y.n) (hs : x.s.toList = y.s.toList) : ordV x y = sbsVs ordC x.args y.args := by
  unfold ordV
  rw [sbsV_lex, (ordC_zero x y).2 ⟨hn, hs⟩]
  simp [lexI]

theorem rnew_two (w : World) (o o' : Obj) : ((w.alloc o).alloc o').heap[w.heap.size + 1]? = some o' := by
  have h := heap_alloc_new (w.alloc o) o'
  rwa [show (w.alloc o).heap.size = w.heap.size + 1 from by simp] at h

theorem rwrapN (n : Nat) (h : n < 9223372036854775808) : IntKind.i64.wrap (n : Int) = (n : Int) := by
  have e : (n : Int) % 2 ^ 64 = n := Int.emod_eq_of_lt (by omega) (by omega)
  simp only [IntKind.wrap, IntKind.bits, IntKind.signed, e]
  rw [if_neg]
  simp
  omega

def VaObj (k n a : Int) (s : ByteArray) (aa : Option Addr) (al ac : Nat) (ta : Option Addr) (tl tc : Nat) (na : Option Addr) (nl nc : Nat) : Obj := .cells #[.int .i64 k, .int .i64 n, .int .i64 a, .string s, .slice aa al ac, .slice ta tl tc, .slice na nl nc] 28 (0, 0)

def OrdRel (W : World) (A B : Obj) (xs ys : List Va) (i : Value) (wr : World) : Prop :=
  ∃ j : Nat, j ≤ xs.length ∧ i = .int .i64 j ∧ W.grownBy wr none ∧ wr.heap[W.heap.size]? = some A ∧ wr.heap[W.heap.size + 1]? = some B ∧ sbsVs ordC (xs.take j) (ys.take j) = 0

theorem lt_blk {w : World} {b : Nat} {o : Obj} (h : w.heap[b]? = some o) : b < w.heap.size := (Array.getElem?_eq_some_iff.1 h).1

theorem keepB {w W : World} {b : Nat} {o : Obj} (h : w.heap[b]? = some o) (hg : w.grownBy W none) : W.heap[b]? = some o := (hg.block _ (lt_blk h) (by simp)).trans h

set_option maxRecDepth 100000 in
set_option maxHeartbeats 2000000 in
theorem rord_any {w : World} {x : Va} {u : Value} (hx : LiesV (fun _ => True) w x u) : ∀ (y : Va) (v : Value) (W : World), LiesV (fun _ => True) w y v → Evn x y → w.grownBy W none →
    Calls Try.prog 28 #[u, v] W fun e w' => e = .returned (.int .i64 (ordV x y)) ∧ W.grownBy w' none := by
  induction hx with
  | @mk k n a s args types code aa ta na ac tc nc _ V VT VN hl hlc hs ik iN ia hT hN hc hr ih =>
    intro y v W hy hE hW
    cases hy with
    | @mk k2 n2 a2 s2 args2 types2 code2 aa2 ta2 na2 ac2 tc2 nc2 _ V2 VT2 VN2 hl2 hlc2 hs2 ik2 iN2 ia2 hT2 hN2 hc2 hr2 =>
      cases hE with
      | mk h9 hel hd her =>
        simp only [Va.k, Va.n, Va.s, Va.args] at h9 hel hd her
        unfold maxLen at hl hl2
        have IH := Lf.hide ih
        have HC := Lf.hide hc
        have HC2 := Lf.hide hc2
        have HR2 := Lf.hide hr2
        have HG := Lf.hide hW
        have HER := Lf.hide her
        have HGA : Hid (W.grownBy ((W.alloc (.cells #[.int .i64 k, .int .i64 n, .int .i64 a, .string s, .slice aa args.length ac, .slice ta types.length tc, .slice na code.length nc] 28)).alloc (.cells #[.int .i64 k2, .int .i64 n2, .int .i64 a2, .string s2, .slice aa2 args2.length ac2, .slice ta2 types2.length tc2, .slice na2 code2.length nc2] 28)) none) := Lf.gbt (Lf.gb _) (Lf.gb _)
        have HLESS : Hid (n < n2 ∨ Op.bytesLess s.toList s2.toList = true → ordV (.mk k n a s args types code) (.mk k2 n2 a2 s2 args2 types2 code2) = -1) := ord_less (x := .mk k n a s args types code) (y := .mk k2 n2 a2 s2 args2 types2 code2) hd
        have HMORE : Hid (n2 < n ∨ Op.bytesLess s2.toList s.toList = true → ordV (.mk k n a s args types code) (.mk k2 n2 a2 s2 args2 types2 code2) = 1) := ord_more (x := .mk k n a s args types code) (y := .mk k2 n2 a2 s2 args2 types2 code2) hd
        have HEVEN : Hid (n = n2 → s.toList = s2.toList → ordV (.mk k n a s args types code) (.mk k2 n2 a2 s2 args2 types2 code2) = sbsVs ordC args args2) := ord_even (x := .mk k n a s args types code) (y := .mk k2 n2 a2 s2 args2 types2 code2)
        clear ih hc hr hc2 hr2 hW hT hN hT2 hN2 her
        generalize hq : ordV (.mk k n a s args types code) (.mk k2 n2 a2 s2 args2 types2 code2) = q at *
        have main : Hid (n = n2 → s.toList = s2.toList → args.length = args2.length → Calls Try.prog 28 #[vaV k n a s aa args.length ac ta types.length tc na code.length nc, vaV k2 n2 a2 s2 aa2 args2.length ac2 ta2 types2.length tc2 na2 code2.length nc2] W fun e w' => e = .returned (.int .i64 q) ∧ W.grownBy w' none) := by
          intro e1 e2 e3
          have HER2 := Lf.hide (HER.out e1 e2 e3)
          have hqe := HEVEN.out e1 e2
          have HQE := Lf.hide hqe
          have hb1 : Op.bytesLess s.toList s2.toList = false := by rw [e2]; exact bless_irr _
          have hb2 : (s.toList == s2.toList) = true := by simpa using e2
          have hn1 : ¬ n < n2 := by omega
          have hn2 : ¬ n2 < n := by omega
          have HE3 := Lf.hide e3
          have hl3 : ¬ (args.length : Int) < (args2.length : Int) := by omega
          have hl4 : ¬ (args2.length : Int) < (args.length : Int) := by omega
          have hl5 : decide (args2.length < args.length) = false := by simp; omega
          have hl6 : decide (args.length < args2.length) = false := by simp; omega
          clear h9 hel hd hqe e1 e2 e3 hq HER HLESS HMORE HEVEN
          unfold vaV
          by_cases hk : k = 9
          · have hk' : (k == 9) = true := by simpa using hk
            clear hk
            go_enter Try.func28, Try.ntmps28
            go_wp2_with fail
            go_quiet (fail)
            go_wp2_with fail
            go_quiet (fail)
            go_wp2_with fail
            go_loopw [45] (OrdRel W (VaObj k n a s aa args.length ac ta types.length tc na code.length nc) (VaObj k2 n2 a2 s2 aa2 args2.length ac2 ta2 types2.length tc2 na2 code2.length nc2) args args2) (fun i _ => args.length - (intOf i).toNat)
            case atStart => exact ⟨0, Nat.zero_le _, rfl, grow_drewN HGA.out, res_new _ _ _, rnew_two _ _ _, by simp [sbsVs]⟩
            case round =>
              obtain ⟨j, hj, rfl, hgr, hA, hB, hF⟩ := hrel
              unfold VaObj at hA hB
              have hgw : w.grownBy wr none := Lf.gbt HG.out hgr
              obtain ⟨x0, x1, x2, x3, x4, x5, x6⟩ := box7 hA
              by_cases hlt : j < args.length
              · have hlt2 : j < args2.length := by have := HE3.out; omega
                obtain ⟨b1, o1, rfl, _, k3, n3, a3, s3, aa3, al3, ac3, ta3, tl3, tc3, na3, nl3, nc3, hv1, e0, e1, e2, e3, e4, e5, e6⟩ := (HC.out j hlt).same (sameAll hgw)
                obtain ⟨b2, o2, rfl, _, k4, n4, a4, s4, aa4, al4, ac4, ta4, tl4, tc4, na4, nl4, nc4, hv2, f0, f1, f2, f3, f4, f5, f6⟩ := (HC2.out j hlt2).same (sameAll hgw)
                have hI : ∀ W3, wr.grownBy W3 none → Calls Try.prog 28 #[V j, V2 j] W3 fun e w' => e = .returned (.int .i64 (ordV args[j] args2[j])) ∧ W3.grownBy w' none := fun W3 h3 => IH.out j hlt args2[j] (V2 j) W3 (HR2.out j hlt2) (HER2.out j hlt hlt2) (Lf.gbt hgw h3)
                rw [hv1, hv2] at hI
                unfold vaV at hI
                have HI := Lf.hide hI
                have q1 : b1 < wr.heap.size := World.block_lt_of_cell? wr _ e0
                have q2 : b2 < wr.heap.size := World.block_lt_of_cell? wr _ f0
                have xd : ∀ W3 : World, wr.grownBy W3 none → W3.cell? ⟨W.heap.size, 4, none⟩ = some (.slice (some ⟨b1, o1, none⟩) args.length ac) := fun W3 h => (box7 (keepB hA h)).2.2.2.2.1
                have yd : ∀ W3 : World, wr.grownBy W3 none → W3.cell? ⟨W.heap.size + 1, 4, none⟩ = some (.slice (some ⟨b2, o2, none⟩) args2.length ac2) := fun W3 h => (box7 (keepB hB h)).2.2.2.2.1
                have ed0 : ∀ W3 : World, wr.grownBy W3 none → W3.cell? ⟨b1, o1 + j * 7, none⟩ = some (.int .i64 k3) := fun W3 h => (World.cell?_of_block (h.block b1 q1 (by simp))).trans e0
                have ed1 : ∀ W3 : World, wr.grownBy W3 none → W3.cell? ⟨b1, o1 + j * 7 + 1, none⟩ = some (.int .i64 n3) := fun W3 h => (World.cell?_of_block (h.block b1 q1 (by simp))).trans e1
                have ed2 : ∀ W3 : World, wr.grownBy W3 none → W3.cell? ⟨b1, o1 + j * 7 + 2, none⟩ = some (.int .i64 a3) := fun W3 h => (World.cell?_of_block (h.block b1 q1 (by simp))).trans e2
                have ed3 : ∀ W3 : World, wr.grownBy W3 none → W3.cell? ⟨b1, o1 + j * 7 + 3, none⟩ = some (.string s3) := fun W3 h => (World.cell?_of_block (h.block b1 q1 (by simp))).trans e3
                have ed4 : ∀ W3 : World, wr.grownBy W3 none → W3.cell? ⟨b1, o1 + j * 7 + 4, none⟩ = some (.slice aa3 al3 ac3) := fun W3 h => (World.cell?_of_block (h.block b1 q1 (by simp))).trans e4
                have ed5 : ∀ W3 : World, wr.grownBy W3 none → W3.cell? ⟨b1, o1 + j * 7 + 5, none⟩ = some (.slice ta3 tl3 tc3) := fun W3 h => (World.cell?_of_block (h.block b1 q1 (by simp))).trans e5
                have ed6 : ∀ W3 : World, wr.grownBy W3 none → W3.cell? ⟨b1, o1 + j * 7 + 6, none⟩ = some (.slice na3 nl3 nc3) := fun W3 h => (World.cell?_of_block (h.block b1 q1 (by simp))).trans e6
                have fd0 : ∀ W3 : World, wr.grownBy W3 none → W3.cell? ⟨b2, o2 + j * 7, none⟩ = some (.int .i64 k4) := fun W3 h => (World.cell?_of_block (h.block b2 q2 (by simp))).trans f0
                have fd1 : ∀ W3 : World, wr.grownBy W3 none → W3.cell? ⟨b2, o2 + j * 7 + 1, none⟩ = some (.int .i64 n4) := fun W3 h => (World.cell?_of_block (h.block b2 q2 (by simp))).trans f1
                have fd2 : ∀ W3 : World, wr.grownBy W3 none → W3.cell? ⟨b2, o2 + j * 7 + 2, none⟩ = some (.int .i64 a4) := fun W3 h => (World.cell?_of_block (h.block b2 q2 (by simp))).trans f2
                have fd3 : ∀ W3 : World, wr.grownBy W3 none → W3.cell? ⟨b2, o2 + j * 7 + 3, none⟩ = some (.string s4) := fun W3 h => (World.cell?_of_block (h.block b2 q2 (by simp))).trans f3
                have fd4 : ∀ W3 : World, wr.grownBy W3 none → W3.cell? ⟨b2, o2 + j * 7 + 4, none⟩ = some (.slice aa4 al4 ac4) := fun W3 h => (World.cell?_of_block (h.block b2 q2 (by simp))).trans f4
                have fd5 : ∀ W3 : World, wr.grownBy W3 none → W3.cell? ⟨b2, o2 + j * 7 + 5, none⟩ = some (.slice ta4 tl4 tc4) := fun W3 h => (World.cell?_of_block (h.block b2 q2 (by simp))).trans f5
                have fd6 : ∀ W3 : World, wr.grownBy W3 none → W3.cell? ⟨b2, o2 + j * 7 + 6, none⟩ = some (.slice na4 nl4 nc4) := fun W3 h => (World.cell?_of_block (h.block b2 q2 (by simp))).trans f6
                have HGR := Lf.hide hgr
                have HA := Lf.hide hA
                have HB := Lf.hide hB
                have HF := Lf.hide hF
                have w1 : IntKind.i64.wrap (j : Int) = (j : Int) := rwrapN j (by omega)
                have w2 : (j : Int) < (args.length : Int) := by omega
                have w3 : (j : Int) < (args2.length : Int) := by omega
                have HSUC := Lf.hide (sbsVs_take_succ ordC args args2 j hlt hlt2 hF)
                have HNO := Lf.hide (sbsVs_at_no ordC args args2 j hlt hlt2 hF)
                clear hI hgr hgw hv1 hv2 hA hB hF x0 x1 x2 x3 x5 x6 e0 e1 e2 e3 e4 e5 e6 f0 f1 f2 f3 f4 f5 f6
                have hoo : ordV args[j] args2[j] = sbsV ordC args[j] args2[j] := rfl
                rw [← hoo] at HSUC HNO
                clear hoo
                generalize ordV args[j] args2[j] = r at *
                by_cases hr0 : r = 0
                · subst hr0
                  go_wp2_with fail
                  go_region_held3 (fun w' => wr.grownBy w' none) (first | assumption | exact grow_drew (grow_refl _ _)) (first
                    | (go_at_call 28; refine (HI.out _ (by assumption)).mono ?_; rintro e w' ⟨rfl, hg⟩; have hS := Lf.gbt (by assumption) hg))
                  have HS9 := Lf.hide (Lf.gbt HGR.out hS)
                  have HA9 := Lf.hide (keepB HA.out hS)
                  have HB9 := Lf.hide (keepB HB.out hS)
                  clear hS
                  go_wp2_with fail
                  go_roundw
                  case rel => exact ⟨j + 1, by omega, by go_num, HS9.out, HA9.out, HB9.out, HSUC.out⟩
                  case measure => simp [intOf]; omega
                · have hr1 : (r == 0) = false := by simpa using hr0
                  have hr2 : (r != 0) = true := by simpa using hr0
                  have HR0 := Lf.hide hr0
                  clear hr0
                  go_wp2_with fail
                  go_region_held3 (fun w' => wr.grownBy w' none) (first | assumption | exact grow_drew (grow_refl _ _)) (first
                    | (go_at_call 28; refine (HI.out _ (by assumption)).mono ?_; rintro e w' ⟨rfl, hg⟩; have hS := Lf.gbt (by assumption) hg))
                  have HS9 := Lf.hide (Lf.gbt HGR.out hS)
                  clear hS
                  go_wp2_with fail
                  go_ret
                  exact Lf.reti (by rw [HQE.out, HNO.out HR0.out]) HS9.out
              · have hje : j = args.length := by omega
                have hz : q = 0 := by
                  rw [HQE.out, ← hF, hje, List.take_length, HE3.out, List.take_length]
                have HZ := Lf.hide hz
                have HGR := Lf.hide hgr
                have hj3 : ¬ (j : Int) < (args.length : Int) := by omega
                clear hz hgr hF hgw hA hB
                go_wp2_with fail
                go_ret
                exact Lf.reti HZ.out.symm HGR.out
          · have hk' : (k == 9) = false := by simpa using hk
            clear hk
            go_enter Try.func28, Try.ntmps28
            go_wp2_with fail
            go_quiet (fail)
            go_wp2_with fail
            go_loopw [45] (OrdRel W (VaObj k n a s aa args.length ac ta types.length tc na code.length nc) (VaObj k2 n2 a2 s2 aa2 args2.length ac2 ta2 types2.length tc2 na2 code2.length nc2) args args2) (fun i _ => args.length - (intOf i).toNat)
            case atStart => exact ⟨0, Nat.zero_le _, rfl, grow_drewN HGA.out, res_new _ _ _, rnew_two _ _ _, by simp [sbsVs]⟩
            case round =>
              obtain ⟨j, hj, rfl, hgr, hA, hB, hF⟩ := hrel
              unfold VaObj at hA hB
              have hgw : w.grownBy wr none := Lf.gbt HG.out hgr
              obtain ⟨x0, x1, x2, x3, x4, x5, x6⟩ := box7 hA
              by_cases hlt : j < args.length
              · have hlt2 : j < args2.length := by have := HE3.out; omega
                obtain ⟨b1, o1, rfl, _, k3, n3, a3, s3, aa3, al3, ac3, ta3, tl3, tc3, na3, nl3, nc3, hv1, e0, e1, e2, e3, e4, e5, e6⟩ := (HC.out j hlt).same (sameAll hgw)
                obtain ⟨b2, o2, rfl, _, k4, n4, a4, s4, aa4, al4, ac4, ta4, tl4, tc4, na4, nl4, nc4, hv2, f0, f1, f2, f3, f4, f5, f6⟩ := (HC2.out j hlt2).same (sameAll hgw)
                have hI : ∀ W3, wr.grownBy W3 none → Calls Try.prog 28 #[V j, V2 j] W3 fun e w' => e = .returned (.int .i64 (ordV args[j] args2[j])) ∧ W3.grownBy w' none := fun W3 h3 => IH.out j hlt args2[j] (V2 j) W3 (HR2.out j hlt2) (HER2.out j hlt hlt2) (Lf.gbt hgw h3)
                rw [hv1, hv2] at hI
                unfold vaV at hI
                have HI := Lf.hide hI
                have q1 : b1 < wr.heap.size := World.block_lt_of_cell? wr _ e0
                have q2 : b2 < wr.heap.size := World.block_lt_of_cell? wr _ f0
                have xd : ∀ W3 : World, wr.grownBy W3 none → W3.cell? ⟨W.heap.size, 4, none⟩ = some (.slice (some ⟨b1, o1, none⟩) args.length ac) := fun W3 h => (box7 (keepB hA h)).2.2.2.2.1
                have yd : ∀ W3 : World, wr.grownBy W3 none → W3.cell? ⟨W.heap.size + 1, 4, none⟩ = some (.slice (some ⟨b2, o2, none⟩) args2.length ac2) := fun W3 h => (box7 (keepB hB h)).2.2.2.2.1
                have ed0 : ∀ W3 : World, wr.grownBy W3 none → W3.cell? ⟨b1, o1 + j * 7, none⟩ = some (.int .i64 k3) := fun W3 h => (World.cell?_of_block (h.block b1 q1 (by simp))).trans e0
                have ed1 : ∀ W3 : World, wr.grownBy W3 none → W3.cell? ⟨b1, o1 + j * 7 + 1, none⟩ = some (.int .i64 n3) := fun W3 h => (World.cell?_of_block (h.block b1 q1 (by simp))).trans e1
                have ed2 : ∀ W3 : World, wr.grownBy W3 none → W3.cell? ⟨b1, o1 + j * 7 + 2, none⟩ = some (.int .i64 a3) := fun W3 h => (World.cell?_of_block (h.block b1 q1 (by simp))).trans e2
                have ed3 : ∀ W3 : World, wr.grownBy W3 none → W3.cell? ⟨b1, o1 + j * 7 + 3, none⟩ = some (.string s3) := fun W3 h => (World.cell?_of_block (h.block b1 q1 (by simp))).trans e3
                have ed4 : ∀ W3 : World, wr.grownBy W3 none → W3.cell? ⟨b1, o1 + j * 7 + 4, none⟩ = some (.slice aa3 al3 ac3) := fun W3 h => (World.cell?_of_block (h.block b1 q1 (by simp))).trans e4
                have ed5 : ∀ W3 : World, wr.grownBy W3 none → W3.cell? ⟨b1, o1 + j * 7 + 5, none⟩ = some (.slice ta3 tl3 tc3) := fun W3 h => (World.cell?_of_block (h.block b1 q1 (by simp))).trans e5
                have ed6 : ∀ W3 : World, wr.grownBy W3 none → W3.cell? ⟨b1, o1 + j * 7 + 6, none⟩ = some (.slice na3 nl3 nc3) := fun W3 h => (World.cell?_of_block (h.block b1 q1 (by simp))).trans e6
                have fd0 : ∀ W3 : World, wr.grownBy W3 none → W3.cell? ⟨b2, o2 + j * 7, none⟩ = some (.int .i64 k4) := fun W3 h => (World.cell?_of_block (h.block b2 q2 (by simp))).trans f0
                have fd1 : ∀ W3 : World, wr.grownBy W3 none → W3.cell? ⟨b2, o2 + j * 7 + 1, none⟩ = some (.int .i64 n4) := fun W3 h => (World.cell?_of_block (h.block b2 q2 (by simp))).trans f1
                have fd2 : ∀ W3 : World, wr.grownBy W3 none → W3.cell? ⟨b2, o2 + j * 7 + 2, none⟩ = some (.int .i64 a4) := fun W3 h => (World.cell?_of_block (h.block b2 q2 (by simp))).trans f2
                have fd3 : ∀ W3 : World, wr.grownBy W3 none → W3.cell? ⟨b2, o2 + j * 7 + 3, none⟩ = some (.string s4) := fun W3 h => (World.cell?_of_block (h.block b2 q2 (by simp))).trans f3
                have fd4 : ∀ W3 : World, wr.grownBy W3 none → W3.cell? ⟨b2, o2 + j * 7 + 4, none⟩ = some (.slice aa4 al4 ac4) := fun W3 h => (World.cell?_of_block (h.block b2 q2 (by simp))).trans f4
                have fd5 : ∀ W3 : World, wr.grownBy W3 none → W3.cell? ⟨b2, o2 + j * 7 + 5, none⟩ = some (.slice ta4 tl4 tc4) := fun W3 h => (World.cell?_of_block (h.block b2 q2 (by simp))).trans f5
                have fd6 : ∀ W3 : World, wr.grownBy W3 none → W3.cell? ⟨b2, o2 + j * 7 + 6, none⟩ = some (.slice na4 nl4 nc4) := fun W3 h => (World.cell?_of_block (h.block b2 q2 (by simp))).trans f6
                have HGR := Lf.hide hgr
                have HA := Lf.hide hA
                have HB := Lf.hide hB
                have HF := Lf.hide hF
                have w1 : IntKind.i64.wrap (j : Int) = (j : Int) := rwrapN j (by omega)
                have w2 : (j : Int) < (args.length : Int) := by omega
                have w3 : (j : Int) < (args2.length : Int) := by omega
                have HSUC := Lf.hide (sbsVs_take_succ ordC args args2 j hlt hlt2 hF)
                have HNO := Lf.hide (sbsVs_at_no ordC args args2 j hlt hlt2 hF)
                clear hI hgr hgw hv1 hv2 hA hB hF x0 x1 x2 x3 x5 x6 e0 e1 e2 e3 e4 e5 e6 f0 f1 f2 f3 f4 f5 f6
                have hoo : ordV args[j] args2[j] = sbsV ordC args[j] args2[j] := rfl
                rw [← hoo] at HSUC HNO
                clear hoo
                generalize ordV args[j] args2[j] = r at *
                by_cases hr0 : r = 0
                · subst hr0
                  go_wp2_with fail
                  go_region_held3 (fun w' => wr.grownBy w' none) (first | assumption | exact grow_drew (grow_refl _ _)) (first
                    | (go_at_call 28; refine (HI.out _ (by assumption)).mono ?_; rintro e w' ⟨rfl, hg⟩; have hS := Lf.gbt (by assumption) hg))
                  have HS9 := Lf.hide (Lf.gbt HGR.out hS)
                  have HA9 := Lf.hide (keepB HA.out hS)
                  have HB9 := Lf.hide (keepB HB.out hS)
                  clear hS
                  go_wp2_with fail
                  go_roundw
                  case rel => exact ⟨j + 1, by omega, by go_num, HS9.out, HA9.out, HB9.out, HSUC.out⟩
                  case measure => simp [intOf]; omega
                · have hr1 : (r == 0) = false := by simpa using hr0
                  have hr2 : (r != 0) = true := by simpa using hr0
                  have HR0 := Lf.hide hr0
                  clear hr0
                  go_wp2_with fail
                  go_region_held3 (fun w' => wr.grownBy w' none) (first | assumption | exact grow_drew (grow_refl _ _)) (first
                    | (go_at_call 28; refine (HI.out _ (by assumption)).mono ?_; rintro e w' ⟨rfl, hg⟩; have hS := Lf.gbt (by assumption) hg))
                  have HS9 := Lf.hide (Lf.gbt HGR.out hS)
                  clear hS
                  go_wp2_with fail
                  go_ret
                  exact Lf.reti (by rw [HQE.out, HNO.out HR0.out]) HS9.out
              · have hje : j = args.length := by omega
                have hz : q = 0 := by
                  rw [HQE.out, ← hF, hje, List.take_length, HE3.out, List.take_length]
                have HZ := Lf.hide hz
                have HGR := Lf.hide hgr
                have hj3 : ¬ (j : Int) < (args.length : Int) := by omega
                clear hz hgr hF hgw hA hB
                go_wp2_with fail
                go_ret
                exact Lf.reti HZ.out.symm HGR.out
        by_cases hk : k = 9
        · obtain ⟨g1, g2, g3, g4⟩ := h9 hk
          by_cases hlt : args.length < args2.length
          · have hqv : q = -1 := by
              have hx0 : args = [] := List.eq_nil_of_length_eq_zero (by omega)
              rw [HEVEN.out g1 g2, hx0]
              cases hy0 : args2 with
              | nil => rw [hy0] at hlt; simp at hlt
              | cons z zs => rw [sbsVs]
            have HQ := Lf.hide hqv
            have hl3 : (args.length : Int) < (args2.length : Int) := by omega
            subst hk
            clear h9 hel hd hqv hq main HER HLESS HMORE HEVEN g1 g2 g3 g4 IH HC HC2 HR2
            unfold vaV
            go_enter Try.func28, Try.ntmps28
            go_wp2_with fail
            go_quiet (fail)
            go_wp2_with fail
            go_quiet (fail)
            go_wp2_with fail
            go_ret
            exact Lf.reti HQ.out.symm (grow_drewN HGA.out)
          · by_cases hgt : args2.length < args.length
            · have hqv : q = 1 := by
                have hx0 : args2 = [] := List.eq_nil_of_length_eq_zero (by omega)
                rw [HEVEN.out g1 g2, hx0]
                cases hy0 : args with
                | nil => rw [hy0] at hgt; simp at hgt
                | cons z zs => rw [sbsVs]
              have HQ := Lf.hide hqv
              have hb1 : Op.bytesLess s.toList s2.toList = false := by rw [g2]; exact bless_irr _
              have hl3 : ¬ (args.length : Int) < (args2.length : Int) := by omega
              have hl4 : (args2.length : Int) < (args.length : Int) := by omega
              subst hk
              clear h9 hel hd hqv hq main HER HLESS HMORE HEVEN g1 g2 g3 g4 IH HC HC2 HR2
              unfold vaV
              go_enter Try.func28, Try.ntmps28
              go_wp2_with fail
              go_quiet (fail)
              go_wp2_with fail
              go_quiet (fail)
              go_wp2_with fail
              go_ret
              exact Lf.reti HQ.out.symm (grow_drewN HGA.out)
            · exact main.out g1 g2 (by omega)
        · by_cases hless : n < n2 ∨ Op.bytesLess s.toList s2.toList = true
          · have HQ := Lf.hide (HLESS.out hless)
            have hk' : (k == 9) = false := by simpa using hk
            clear h9 hel hd hq main HER HLESS HMORE HEVEN IH HC HC2 HR2 hk
            unfold vaV
            by_cases hn1 : n < n2
            · go_enter Try.func28, Try.ntmps28
              go_wp2_with fail
              go_quiet (fail)
              go_wp2_with fail
              go_ret
              exact Lf.reti HQ.out.symm (grow_drewN HGA.out)
            · have hb1 := hless.resolve_left hn1
              clear hless
              go_enter Try.func28, Try.ntmps28
              go_wp2_with fail
              go_quiet (fail)
              go_wp2_with fail
              go_ret
              exact Lf.reti HQ.out.symm (grow_drewN HGA.out)
          · have hn1 : ¬ n < n2 := fun h => hless (.inl h)
            have hb1 : Op.bytesLess s.toList s2.toList = false := by
              cases h : Op.bytesLess s.toList s2.toList with
              | false => rfl
              | true => exact absurd (.inr h) hless
            clear hless
            by_cases hn2 : n2 < n
            · have HQ := Lf.hide (HMORE.out (.inl hn2))
              have hk' : (k == 9) = false := by simpa using hk
              clear h9 hel hd hq main HER HLESS HMORE HEVEN IH HC HC2 HR2 hk
              unfold vaV
              go_enter Try.func28, Try.ntmps28
              go_wp2_with fail
              go_quiet (fail)
              go_wp2_with fail
              go_ret
              exact Lf.reti HQ.out.symm (grow_drewN HGA.out)
            · by_cases e2 : s.toList = s2.toList
              · exact main.out (by omega) e2 (hel hk (by omega) e2)
              · have hm : Op.bytesLess s2.toList s.toList = true := by
                  rw [less_cmpL] at hb1 ⊢
                  have h1 := of_decide_eq_false hb1
                  rw [cmpL_neg]
                  have h3 : cmpL s.toList s2.toList ≠ 0 := fun h => e2 ((cmpL_zero _ _).1 h)
                  exact decide_eq_true (by omega)
                have HQ := Lf.hide (HMORE.out (.inr hm))
                have hk' : (k == 9) = false := by simpa using hk
                have hb2 : (s.toList == s2.toList) = false := by simpa using e2
                clear h9 hel hd hq main HER HLESS HMORE HEVEN IH HC HC2 HR2 hk hm e2
                unfold vaV
                go_enter Try.func28, Try.ntmps28
                go_wp2_with fail
                go_quiet (fail)
                go_wp2_with fail
                go_ret
                exact Lf.reti HQ.out.symm (grow_drewN HGA.out)

end Go.Proofs.Ytmmgihaoahhkjaa
