/- The document's own readNode by its contract: numbers and texts. -/
import Derived.Test.YtjhhcdiipbjiaaaRefRead2
namespace Go.Proofs.Ytjhhcdiipbjiaaa
open Go.ChangeShapes Go.WideShapes Go.ChangeAt Go.RowKit
set_option linter.unusedVariables false

set_option maxRecDepth 100000 in
set_option maxHeartbeats 4000000 in
theorem rr_pneg (dI LI : Int) (d n : Nat) (b : UInt8) (l1 : List UInt8) (hl : (b :: l1).length ≤ maxLen) (w : World) (hd : ¬ dI = 0) (hL : ¬ LI = 0) (q : UInt8) (l2 : List UInt8) (hb : b.toNat = 2) (hl0 : l1 = q :: l2) (hq : Lf.isPrimB q.toNat = true) (m : Int) (l3 : List UInt8) (hn : pNum l2 = some (m, l3)) (hm : m < 0) (hp : pNode d n (b :: l1) = .error 1) :
    Calls Try.prog 40 #[.string (bs (b :: l1)), .int .i64 dI, .int .i64 LI] w (RRPost w d n (b :: l1)) := by
  have HP := Lf.hide (fun w' hg => rr_no (w := w) (w' := w') hp (by decide) hg)
  clear hp
  obtain ⟨sz, hrn, hsz0, hszl, hdr⟩ := num_yes hn
  have hx3 : (bs l2).extract sz l2.length = bs l3 := by rw [bs_drop, hdr]
  have hl3 : l3.length + sz = l2.length := by rw [← hdr, List.length_drop]; omega
  have hmb := (pNum_sound hn).1
  have hszs2 := bs_size l2
  have HR := Lf.hide (heap_keep (o := .cells #[.int .i64 2, .int .i64 0, .int .i64 (q.toNat : Int), .string ⟨#[]⟩, .slice none 0 0] 34) (heap_alloc_new w (.cells #[.int .i64 0, .int .i64 0, .int .i64 0, .string ⟨#[]⟩, .slice none 0 0] 34)))
  have HN0 := Lf.hide (heap_alloc_new (w.alloc (.cells #[.int .i64 0, .int .i64 0, .int .i64 0, .string ⟨#[]⟩, .slice none 0 0] 34)) (.cells #[.int .i64 2, .int .i64 0, .int .i64 (q.toNat : Int), .string ⟨#[]⟩, .slice none 0 0] 34))
  have HG := Lf.hide (Lf.gbt (Lf.gb (w := w) (.cells #[.int .i64 0, .int .i64 0, .int .i64 0, .string ⟨#[]⟩, .slice none 0 0] 34)) (Lf.gb (.cells #[.int .i64 2, .int .i64 0, .int .i64 (q.toNat : Int), .string ⟨#[]⟩, .slice none 0 0] 34)))
  have hd' : (dI == 0) = false := by simpa using hd
  have hL' : (LI == 0) = false := by simpa using hL
  have hs := bs_ne b l1
  have h0 : ∀ h, (bs (b :: l1))[0]'h = b := fun _ => rfl
  have hsz := bs_size (b :: l1)
  have hx1 : (bs (b :: l1)).extract 1 (b :: l1).length = bs l1 := bs_drop (b :: l1) 1
  have e50' := e50
  have hl1 : l1.length ≤ maxLen := by simp at hl; omega
  unfold maxLen at hl hl1
  obtain ⟨L, hLN⟩ : ∃ L, L = (b :: l1).length := ⟨_, rfl⟩
  have hLpos : 0 < L := by rw [hLN]; simp
  have hL1 : l1.length + 1 = L := by rw [hLN]; simp
  rw [← hLN] at hsz hl hx1
  clear hLN
  generalize bs (b :: l1) = s at *
  rw [World.size_alloc] at HN0
  have hbI : (b.toNat : Int) = 2 := by omega
  have hs1 : (bs l1).toList.isEmpty = false := by rw [hl0]; simp [bs]
  have hq0 : ∀ h, (bs l1)[0]'h = q := by subst hl0; exact fun _ => rfl
  have hsz1 := bs_size l1
  have hl1p : 0 < l1.length := by rw [hl0]; simp
  have hq255 : (q.toNat : Int) ≤ 255 := by have := q.toNat_lt; omega
  have hx2 : (bs l1).extract 1 l1.length = bs l2 := by subst hl0; exact bs_drop (q :: l2) 1
  have hl2 : l2.length + 1 = l1.length := by rw [hl0]; simp
  have hpr := rprim_any q.toNat
  rw [hq] at hpr
  have HPR := Lf.hide hpr
  clear hpr hl0 hq
  have HNM : Hid (∀ W, Calls Try.prog 51 #[.string (bs l2)] W fun e w' => e = .returned (.tuple #[.int .i64 m, .int .i64 (sz : Int)]) ∧ W.grownBy w' none) := by
    intro W
    have h := rnum_any l2 (by unfold maxLen; omega) W
    rw [hrn] at h
    exact h
  have hszI : ((sz : Int) == 0) = false := by simp; omega
  have hszJ : ¬ (sz : Int) = 0 := by omega
  have hszL : (sz : Int) ≤ (l2.length : Int) := by omega
  clear hrn hn hdr
  generalize bs l3 = s3 at *
  generalize bs l2 = s2 at *
  generalize bs l1 = s1 at *
  generalize l1.length = L1 at *
  generalize l2.length = L2 at *
  go_enter Try.func40, Try.ntmps40
  go_wp2_with fail
  refine (HPR.out _).mono ?_; rintro e y0 ⟨rfl, rfl⟩
  go_wp2_with fail
  refine (HNM.out _).mono ?_; rintro e y2 ⟨rfl, hg2⟩
  have HR2 := Lf.hide ((hg2.block _ (lt_of_block HR.out) (by simp)).trans HR.out)
  have HN2 := Lf.hide ((hg2.block _ (lt_of_block HN0.out) (by simp)).trans HN0.out)
  have HG2 := Lf.hide (Lf.gbt HG.out hg2)
  obtain ⟨n0, n1, n2, n3, n4⟩ := box5 HN2.out
  obtain ⟨nf0, nf1, nf2, nf3, nf4⟩ := box5f HN2.out
  have hz2 := lt_of_block HN2.out
  clear hg2
  go_wp2_with fail
  refine (no_any _ _).mono ?_; rintro e y1 ⟨rfl, hg⟩
  have hr1 := (hg.block _ (lt_of_block HR2.out) (by simp)).trans HR2.out
  obtain ⟨r0, r1, r2, r3, r4⟩ := box5 hr1
  obtain ⟨f0, f1, f2, f3, f4⟩ := box5f hr1
  have HR1 := Lf.hide hr1
  have HG1 := Lf.hide (Lf.gbt HG2.out hg)
  clear hg hr1
  go_wp2_with fail
  change bodyPost _ _ _ _ _ (set5 y1 w.heap.size (.int .i64 0) (.int .i64 0) (.int .i64 0) (.string ⟨#[]⟩) (.slice none 0 0))
  have hb' := set5_block HR1.out (.int .i64 0) (.int .i64 0) (.int .i64 0) (.string ⟨#[]⟩) (.slice none 0 0)
  have hg' := grow_new HG1.out (set5_grow y1 w.heap.size (.int .i64 0) (.int .i64 0) (.int .i64 0) (.string ⟨#[]⟩) (.slice none 0 0)) (Nat.le_refl _)
  generalize set5 y1 w.heap.size (.int .i64 0) (.int .i64 0) (.int .i64 0) (.string ⟨#[]⟩) (.slice none 0 0) = wf at *
  obtain ⟨z0, z1, z2, z3, z4⟩ := box5 hb'
  exact bodyPost_ret (v := .tuple #[nodeV 0 0 0 ⟨#[]⟩ none 0 0, .string ⟨#[]⟩, .int .i64 0, .int .i64 1]) (by simp [results, Try.results40, go_sem, z0, z1, z2, z3, z4, nodeV]) rfl (HP.out _ hg')

set_option maxRecDepth 100000 in
set_option maxHeartbeats 4000000 in
theorem rr_int (dI LI : Int) (d n : Nat) (b : UInt8) (l1 : List UInt8) (hl : (b :: l1).length ≤ maxLen) (w : World) (hd : ¬ dI = 0) (hL : ¬ LI = 0) (hb : b.toNat = 0) (m : Int) (l3 : List UInt8) (hn : pNum l1 = some (m, l3)) (hp : pNode d n (b :: l1) = .ok (.nd 0 m 0 (bs []) [], n + 1, l3)) :
    Calls Try.prog 40 #[.string (bs (b :: l1)), .int .i64 dI, .int .i64 LI] w (RRPost w d n (b :: l1)) := by
  have HP := Lf.hide (fun w' v hg hL => rr_yes (w := w) (w' := w') (v := v) hp hg hL)
  clear hp
  obtain ⟨sz, hrn, hsz0, hszl, hdr⟩ := num_yes hn
  have hx3 : (bs l1).extract sz l1.length = bs l3 := by rw [bs_drop, hdr]
  have hl3 : l3.length + sz = l1.length := by rw [← hdr, List.length_drop]; omega
  have hmb := (pNum_sound hn).1
  have hszs := bs_size l1
  have HR := Lf.hide (heap_keep (o := .cells #[.int .i64 0, .int .i64 0, .int .i64 0, .string ⟨#[]⟩, .slice none 0 0] 34) (heap_alloc_new w (.cells #[.int .i64 0, .int .i64 0, .int .i64 0, .string ⟨#[]⟩, .slice none 0 0] 34)))
  have HN0 := Lf.hide (heap_alloc_new (w.alloc (.cells #[.int .i64 0, .int .i64 0, .int .i64 0, .string ⟨#[]⟩, .slice none 0 0] 34)) (.cells #[.int .i64 0, .int .i64 0, .int .i64 0, .string ⟨#[]⟩, .slice none 0 0] 34))
  have HG := Lf.hide (Lf.gbt (Lf.gb (w := w) (.cells #[.int .i64 0, .int .i64 0, .int .i64 0, .string ⟨#[]⟩, .slice none 0 0] 34)) (Lf.gb (.cells #[.int .i64 0, .int .i64 0, .int .i64 0, .string ⟨#[]⟩, .slice none 0 0] 34)))
  have hd' : (dI == 0) = false := by simpa using hd
  have hL' : (LI == 0) = false := by simpa using hL
  have hs := bs_ne b l1
  have h0 : ∀ h, (bs (b :: l1))[0]'h = b := fun _ => rfl
  have hsz := bs_size (b :: l1)
  have hx1 : (bs (b :: l1)).extract 1 (b :: l1).length = bs l1 := bs_drop (b :: l1) 1
  have e50' := e50
  have hl1 : l1.length ≤ maxLen := by simp at hl; omega
  unfold maxLen at hl hl1
  obtain ⟨L, hLN⟩ : ∃ L, L = (b :: l1).length := ⟨_, rfl⟩
  have hLpos : 0 < L := by rw [hLN]; simp
  have hL1 : l1.length + 1 = L := by rw [hLN]; simp
  rw [← hLN] at hsz hl hx1
  clear hLN
  generalize bs (b :: l1) = s at *
  rw [World.size_alloc] at HN0
  have HNM : Hid (∀ W, Calls Try.prog 51 #[.string (bs l1)] W fun e w' => e = .returned (.tuple #[.int .i64 m, .int .i64 (sz : Int)]) ∧ W.grownBy w' none) := by
    intro W
    have h := rnum_any l1 (by unfold maxLen; omega) W
    rw [hrn] at h
    exact h
  have hbI : (b.toNat : Int) = 0 := by omega
  have hszI : ((sz : Int) == 0) = false := by simp; omega
  have hszJ : ¬ (sz : Int) = 0 := by omega
  have hszL : (sz : Int) ≤ (l1.length : Int) := by omega
  rw [show (((n + 1 : Nat) : Int) - n) = 1 from by omega] at HP
  have HMB := Lf.hide hmb
  clear hmb
  generalize bs l3 = s3 at *
  clear hrn hn hdr
  generalize bs l1 = s1 at *
  generalize l1.length = L1 at *
  go_enter Try.func40, Try.ntmps40
  go_wp2_with fail
  refine (HNM.out _).mono ?_; rintro e y2 ⟨rfl, hg2⟩
  have HR2 := Lf.hide ((hg2.block _ (lt_of_block HR.out) (by simp)).trans HR.out)
  have HN2 := Lf.hide ((hg2.block _ (lt_of_block HN0.out) (by simp)).trans HN0.out)
  have HG2 := Lf.hide (Lf.gbt HG.out hg2)
  obtain ⟨n0, n1, n2, n3, n4⟩ := box5 HN2.out
  obtain ⟨nf0, nf1, nf2, nf3, nf4⟩ := box5f HN2.out
  have hz2 := lt_of_block HN2.out
  obtain ⟨r0, r1, r2, r3, r4⟩ := box5 HR2.out
  obtain ⟨f0, f1, f2, f3, f4⟩ := box5f HR2.out
  clear hg2
  go_wp2_with fail
  change bodyPost _ _ _ _ _ (set5 (y2.setCell ⟨w.heap.size + 1, 1, none⟩ (.int .i64 m)) w.heap.size (.int .i64 0) (.int .i64 m) (.int .i64 0) (.string ⟨#[]⟩) (.slice none 0 0))
  have hy : y2.grownBy (y2.setCell ⟨w.heap.size + 1, 1, none⟩ (.int .i64 m)) (some (w.heap.size + 1)) := grow_set (grow_refl _ _) _ _ _
  have hr3 := (hy.block _ (lt_of_block HR2.out) (by simp)).trans HR2.out
  have hb' := set5_block hr3 (.int .i64 0) (.int .i64 m) (.int .i64 0) (.string ⟨#[]⟩) (.slice none 0 0)
  have hg' := grow_new (grow_new HG2.out hy (by omega)) (set5_grow (y2.setCell ⟨w.heap.size + 1, 1, none⟩ (.int .i64 m)) w.heap.size (.int .i64 0) (.int .i64 m) (.int .i64 0) (.string ⟨#[]⟩) (.slice none 0 0)) (Nat.le_refl _)
  generalize set5 (y2.setCell ⟨w.heap.size + 1, 1, none⟩ (.int .i64 m)) w.heap.size (.int .i64 0) (.int .i64 m) (.int .i64 0) (.string ⟨#[]⟩) (.slice none 0 0) = wf at *
  obtain ⟨z0, z1, z2, z3, z4⟩ := box5 hb'
  exact bodyPost_ret (v := .tuple #[nodeV 0 m 0 ⟨#[]⟩ none 0 0, .string s3, .int .i64 1, .int .i64 0]) (by simp [results, Try.results40, go_sem, z0, z1, z2, z3, z4, nodeV]) rfl (HP.out _ _ hg' (lies_leaf (Nat.zero_le _) ⟨by omega, by omega⟩ ⟨by have := HMB.out; omega, by have := HMB.out; omega⟩ ⟨by omega, by omega⟩))

end Go.Proofs.Ytjhhcdiipbjiaaa
