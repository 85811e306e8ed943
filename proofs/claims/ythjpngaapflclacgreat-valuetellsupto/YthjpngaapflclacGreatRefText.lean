/- The document's own bytes of a tree (nodeText) by its contract. -/
import Derived.Test.YthjpngaapflclacGreatRefA
import Derived.Test.YthjpngaapflclacGreatAlikes
namespace Go.Proofs.YthjpngaapflclacGreat
set_option maxRecDepth 20000
open Go.ChangeShapes Go.WideShapes Go.ChangeAt Go.RowKit
set_option linter.unusedVariables false

theorem grow_undrew {w w' : World} {r : Option Nat} (h : w.drew.grownBy w' r) : w.grownBy w' r := ⟨h.os, h.tape, h.output, h.size, h.block⟩

theorem box_none {w w' : World} {g : Nat} {o : Obj} (h : w.heap[g]? = some o) (hg : w.grownBy w' none) : w'.heap[g]? = some o := by
  rw [hg.block g (Array.getElem?_eq_some_iff.1 h).1 (by simp)]; exact h

theorem bs_one (b : UInt8) (l : List UInt8) : (⟨#[b]⟩ : ByteArray) ++ bs l = bs (b :: l) := bs_append [b] l

/-- where putting a list's texts together stands -/
def TextRel (hd : List UInt8) (args : List Tr) (w2 : World) (sv iv : Value) (wr : World) : Prop := ∃ j : Nat, j ≤ args.length ∧ iv = .int .i64 j ∧ sv = .string (bs (hd ++ encN args.length ++ encTrs (args.take j))) ∧ w2.grownBy wr none

set_option maxHeartbeats 1000000 in
theorem rnode_any {w : World} {t : Tr} {v : Value} (hL : Lies (fun _ => True) w t v) : ∀ (d : Nat) (w2 : World), firstW d t = 0 → (encTr t).length ≤ 1000000 → w.grownBy w2 none →
    Calls Tryz.prog 74 #[v] w2 fun e w' => e = .returned (.string (bs (encTr t))) ∧ w2.grownBy w' none := by
  induction hL with
  | @mk k n p s args a c V hl hS ik iN ip hc hr ih =>
    intro d w2 hf hlen hg
    obtain ⟨hd, hw, hfs⟩ := firstW_zero hf
    obtain ⟨hk, hp, hm, hN, hs⟩ := wrong_zero hw
    have hla := len_le_enc args
    rcases (show k = 0 ∨ k = 1 ∨ k = 2 ∨ k = 3 from by omega) with rfl | rfl | rfl | rfl
    · have he : encTr (.nd 0 n p s args) = 0 :: encN n := by simp [encTr]
      rw [he]
      have HX := Lf.hide (fun w => rtext_any n ⟨by omega, by omega⟩ w)
      have hcat := bs_one 0 (encN n)
      have h1 := bs_size (encN n)
      have h2 := encN_len n ⟨by omega, by omega⟩
      clear hf hw hfs hm hc hr ih hg he hk hp hlen
      generalize hs2 : bs (0 :: encN n) = s2 at *
      have HS2 := Lf.hide hs2
      clear hs2
      generalize bs (encN n) = s1 at *
      unfold nodeV
      go_enter Tryz.func74, Tryz.ntmps74
      go_wp2_with fail
      refine (HX.out _).mono ?_; rintro e w3 ⟨rfl, hg3⟩
      have HG3 := Lf.hide hg3
      clear hg3
      go_wp2_with fail
      go_ret
      exact ⟨rets (by rw [← HS2.out]), Lf.gbt (Lf.gb _) HG3.out⟩
    · have he : encTr (.nd 1 n p s args) = 1 :: (encN s.size ++ s.data.toList) := by simp [encTr]
      rw [he]
      have HX := Lf.hide (fun w => rtext_any s.size ⟨by omega, by omega⟩ w)
      have hcat := bs_one 1 (encN s.size)
      have hcat2 : bs (1 :: encN s.size) ++ s = bs (1 :: (encN s.size ++ s.data.toList)) := by
        have := bs_append (1 :: encN s.size) s.data.toList
        rw [bs_of] at this
        exact this
      have h1 := bs_size (encN s.size)
      have h2 := encN_len s.size ⟨by omega, by omega⟩
      have h3 := bs_size (1 :: encN s.size)
      rw [List.length_cons] at h3
      clear hf hw hfs hm hc hr ih hg he hk hp hlen
      generalize hs2 : bs (1 :: (encN s.size ++ s.data.toList)) = s2 at *
      have HS2 := Lf.hide hs2
      clear hs2
      generalize bs (1 :: encN s.size) = s3 at *
      generalize bs (encN s.size) = s1 at *
      unfold nodeV
      go_enter Tryz.func74, Tryz.ntmps74
      go_wp2_with fail
      go_region_with (go_at_call 107; refine (HX.out _).mono ?_; rintro e w3 ⟨rfl, hg3⟩; have hB3 := box_none (g := w2.heap.size) (heap_alloc_new (w2.drew) _) hg3; obtain ⟨x0, x1, x2, x3, x4⟩ := box5 hB3; have HG3 := Lf.hide hg3; clear hg3 hB3)
      all_goals
        go_wp2_with fail
        go_ret
        exact ⟨rets (by rw [← HS2.out]), Lf.gbt (Lf.gb _) (grow_undrew HG3.out)⟩
    · have he : encTr (.nd 2 n p s args) = [2, p.toNat.toUInt8] ++ (encN args.length ++ encTrs args) := by simp [encTr]
      rw [he] at hlen ⊢
      simp only [List.length_append, List.length_cons, List.length_nil] at hlen
      have hE := encN_len args.length ⟨by omega, by omega⟩
      have HX := Lf.hide (fun w => rtext_any args.length ⟨by omega, by omega⟩ w)
      obtain ⟨hp1, hp2⟩ := prim_range (hp rfl)
      have hconv := conv1 (w2.alloc (.cells #[.int .i64 2, .int .i64 n, .int .i64 p, .string s, .slice a args.length c] 30)) p p.toNat.toUInt8 (u8_of p (by omega) (by omega))
      rw [show (w2.alloc (.cells #[.int .i64 2, .int .i64 n, .int .i64 p, .string s, .slice a args.length c] 30)).heap.size = w2.heap.size + 1 from by simp] at hconv
      have hcat0 := bs_one 2 [p.toNat.toUInt8]
      have h9 := bs_size [p.toNat.toUInt8]
      simp only [List.length_cons, List.length_nil] at h9
      have hcat := bs_append [2, p.toNat.toUInt8] (encN args.length)
      have h1 := bs_size (encN args.length)
      have h2 := bs_size ([2, p.toNat.toUInt8] : List UInt8)
      have HI : Hid (∀ (i : Nat) (h : i < args.length) (w2 : World), (encTr args[i]).length ≤ 1000000 → w.grownBy w2 none → Calls Tryz.prog 74 #[V i] w2 fun e w' => e = .returned (.string (bs (encTr args[i]))) ∧ w2.grownBy w' none) := fun i h w2 hl hg => ih i h (d + 1) w2 (firstWs_zero hfs _ (List.getElem_mem h)) hl hg
      have HC := Lf.hide hc
      have HG := Lf.hide hg
      have hal : args.length ≤ 1000000 := by omega
      simp only [List.length_cons, List.length_nil] at h2
      have HS0 : Hid (bs [2, p.toNat.toUInt8] = bs [2, p.toNat.toUInt8]) := rfl
      clear hf hw hfs hm hc hr ih hg he hk hp
      generalize hs3 : bs ([2, p.toNat.toUInt8] ++ encN args.length) = s3 at *
      have HS3 := Lf.hide hs3
      clear hs3
      generalize bs (encN args.length) = s1 at *
      unfold nodeV
      generalize bs [2, p.toNat.toUInt8] = s0 at *
      generalize bs [p.toNat.toUInt8] = s9 at *
      go_enter Tryz.func74, Tryz.ntmps74
      go_wp2_with fail
      refine (HX.out _).mono ?_; rintro e w3 ⟨rfl, hg3⟩
      have hB3 := box_none (res_new w2 (.cells #[.int .i64 2, .int .i64 n, .int .i64 p, .string s, .slice a args.length c] 30) (.cells #[.int .u8 p] 5)) hg3
      obtain ⟨x0, x1, x2, x3, x4⟩ := box5 hB3
      have HG3 := Lf.hide (Lf.gbt (Lf.gbt (Lf.gb _) (Lf.gb _)) hg3)
      clear hg3 hB3
      go_wp2_with fail
      go_loopw [3, 42] (fun sv iv wr => TextRel [2, p.toNat.toUInt8] args w2 sv iv wr) (fun _ iv _ => args.length - (intOf iv).toNat)
      case atStart => exact ⟨0, Nat.zero_le _, rfl, by simp only [List.take_zero, encTrs, List.append_nil]; rw [HS3.out], HG3.out⟩
      case round =>
        obtain ⟨j, hj, rfl, rfl, hgr⟩ := hrel
        by_cases hlt : j < args.length
        · have hgw : w.grownBy wr none := Lf.gbt HG.out hgr
          obtain ⟨b1, o1, rfl, _, k1, n1, p1, s4, a1, l1, c1, hv1, e0, e1, e2, e3, e4⟩ := (HC.out j hlt).same (same_none hgw)
          have hts := encTrs_take_succ args j hlt
          have htl := encTrs_take_len args (j + 1)
          have hl1 := congrArg List.length hts
          rw [List.length_append] at hl1
          have hI := HI.out j hlt (wr.alloc (.cells #[.int .i64 k1, .int .i64 n1, .int .i64 p1, .string s4, .slice a1 l1 c1] 30)) (by omega) (Lf.gbt hgw (Lf.gb _))
          rw [hv1] at hI
          unfold nodeV at hI
          have hcat2 := bs_append ([2, p.toNat.toUInt8] ++ encN args.length ++ encTrs (args.take j)) (encTr args[j])
          have h5 := bs_size ([2, p.toNat.toUInt8] ++ encN args.length ++ encTrs (args.take j))
          have h6 := bs_size (encTr args[j])
          simp only [List.length_append, List.length_cons, List.length_nil] at h5
          have HTS := Lf.hide hts
          have HIx := Lf.hide hI
          have HGR := Lf.hide hgr
          clear hI hgr hgw hv1 hts
          generalize hs6 : bs ([2, p.toNat.toUInt8] ++ encN args.length ++ encTrs (args.take j) ++ encTr args[j]) = s6 at *
          have HS6 := Lf.hide hs6
          clear hs6
          generalize bs ([2, p.toNat.toUInt8] ++ encN args.length ++ encTrs (args.take j)) = s5 at *
          generalize bs (encTr args[j]) = s7 at *
          go_wp2_with fail
          refine HIx.out.mono ?_; rintro e w4 ⟨rfl, hg4⟩
          have HG4 := Lf.hide (Lf.gbt HGR.out (Lf.gbt (Lf.gb _) hg4))
          clear hg4
          go_wp2_with fail
          go_roundw
          case rel => exact ⟨j + 1, by omega, by go_num, by rw [HTS.out, ← List.append_assoc, HS6.out], HG4.out⟩
          case measure => simp [intOf]; omega
        · have hje : j = args.length := by omega
          have HJ : Hid (bs ([2, p.toNat.toUInt8] ++ encN args.length ++ encTrs (args.take j)) = bs ([2, p.toNat.toUInt8] ++ (encN args.length ++ encTrs args))) := by
            show _ = _
            rw [hje, List.take_length, List.append_assoc]
          have HGR := Lf.hide hgr
          clear hgr hje
          rw [HJ.out]
          go_wp2_with fail
          go_ret
          exact ⟨rfl, HGR.out⟩
    · have he : encTr (.nd 3 n p s args) = [3] ++ (encN args.length ++ encTrs args) := by simp [encTr]
      rw [he] at hlen ⊢
      simp only [List.length_append, List.length_cons, List.length_nil] at hlen
      have hE := encN_len args.length ⟨by omega, by omega⟩
      have HX := Lf.hide (fun w => rtext_any args.length ⟨by omega, by omega⟩ w)

      have hcat : (⟨#[3]⟩ : ByteArray) ++ bs (encN args.length) = bs ([3] ++ encN args.length) := bs_append [3] (encN args.length)
      have h1 := bs_size (encN args.length)
      have h2 := bs_size ([3] : List UInt8)
      have HI : Hid (∀ (i : Nat) (h : i < args.length) (w2 : World), (encTr args[i]).length ≤ 1000000 → w.grownBy w2 none → Calls Tryz.prog 74 #[V i] w2 fun e w' => e = .returned (.string (bs (encTr args[i]))) ∧ w2.grownBy w' none) := fun i h w2 hl hg => ih i h (d + 1) w2 (firstWs_zero hfs _ (List.getElem_mem h)) hl hg
      have HC := Lf.hide hc
      have HG := Lf.hide hg
      have hal : args.length ≤ 1000000 := by omega
      simp only [List.length_cons, List.length_nil] at h2
      have HS0 : Hid (bs [3] = bs [3]) := rfl
      clear hf hw hfs hm hc hr ih hg he hk hp
      generalize hs3 : bs ([3] ++ encN args.length) = s3 at *
      have HS3 := Lf.hide hs3
      clear hs3
      generalize bs (encN args.length) = s1 at *
      unfold nodeV
      go_enter Tryz.func74, Tryz.ntmps74
      go_wp2_with fail
      refine (HX.out _).mono ?_; rintro e w3 ⟨rfl, hg3⟩
      have hB3 := box_none (heap_alloc_new w2 (.cells #[.int .i64 3, .int .i64 n, .int .i64 p, .string s, .slice a args.length c] 30)) hg3
      obtain ⟨x0, x1, x2, x3, x4⟩ := box5 hB3
      have HG3 := Lf.hide (Lf.gbt (Lf.gb _) hg3)
      clear hg3 hB3
      go_wp2_with fail
      go_loopw [3, 42] (fun sv iv wr => TextRel [3] args w2 sv iv wr) (fun _ iv _ => args.length - (intOf iv).toNat)
      case atStart => exact ⟨0, Nat.zero_le _, rfl, by simp only [List.take_zero, encTrs, List.append_nil]; rw [HS3.out], HG3.out⟩
      case round =>
        obtain ⟨j, hj, rfl, rfl, hgr⟩ := hrel
        by_cases hlt : j < args.length
        · have hgw : w.grownBy wr none := Lf.gbt HG.out hgr
          obtain ⟨b1, o1, rfl, _, k1, n1, p1, s4, a1, l1, c1, hv1, e0, e1, e2, e3, e4⟩ := (HC.out j hlt).same (same_none hgw)
          have hts := encTrs_take_succ args j hlt
          have htl := encTrs_take_len args (j + 1)
          have hl1 := congrArg List.length hts
          rw [List.length_append] at hl1
          have hI := HI.out j hlt (wr.alloc (.cells #[.int .i64 k1, .int .i64 n1, .int .i64 p1, .string s4, .slice a1 l1 c1] 30)) (by omega) (Lf.gbt hgw (Lf.gb _))
          rw [hv1] at hI
          unfold nodeV at hI
          have hcat2 := bs_append ([3] ++ encN args.length ++ encTrs (args.take j)) (encTr args[j])
          have h5 := bs_size ([3] ++ encN args.length ++ encTrs (args.take j))
          have h6 := bs_size (encTr args[j])
          simp only [List.length_append, List.length_cons, List.length_nil] at h5
          have HTS := Lf.hide hts
          have HIx := Lf.hide hI
          have HGR := Lf.hide hgr
          clear hI hgr hgw hv1 hts
          generalize hs6 : bs ([3] ++ encN args.length ++ encTrs (args.take j) ++ encTr args[j]) = s6 at *
          have HS6 := Lf.hide hs6
          clear hs6
          generalize bs ([3] ++ encN args.length ++ encTrs (args.take j)) = s5 at *
          generalize bs (encTr args[j]) = s7 at *
          go_wp2_with fail
          refine HIx.out.mono ?_; rintro e w4 ⟨rfl, hg4⟩
          have HG4 := Lf.hide (Lf.gbt HGR.out (Lf.gbt (Lf.gb _) hg4))
          clear hg4
          go_wp2_with fail
          go_roundw
          case rel => exact ⟨j + 1, by omega, by go_num, by rw [HTS.out, ← List.append_assoc, HS6.out], HG4.out⟩
          case measure => simp [intOf]; omega
        · have hje : j = args.length := by omega
          have HJ : Hid (bs ([3] ++ encN args.length ++ encTrs (args.take j)) = bs ([3] ++ (encN args.length ++ encTrs args))) := by
            show _ = _
            rw [hje, List.take_length, List.append_assoc]
          have HGR := Lf.hide hgr
          clear hgr hje
          rw [HJ.out]
          go_wp2_with fail
          go_ret
          exact ⟨rfl, HGR.out⟩

end Go.Proofs.YthjpngaapflclacGreat
