/- The document's own readNode by its contract: ahead of its Args. -/
import Derived.Test.YtjhhcdiipbjiaaaRefRead1
namespace Go.Proofs.Ytjhhcdiipbjiaaa
open Go.ChangeShapes Go.WideShapes Go.ChangeAt Go.RowKit
set_option linter.unusedVariables false

theorem num_yes {l l' : List UInt8} {m : Int} (h : pNum l = some (m, l')) : ∃ sz : Nat, rnumF l = (m, sz) ∧ 0 < sz ∧ sz ≤ l.length ∧ l.drop sz = l' := by
  obtain ⟨_, h2⟩ := pNum_sound h
  refine ⟨(encN m).length, ?_, (encT_len (m.natAbs / 64) _).1, by rw [h2]; simp, by rw [h2]; simp⟩
  unfold rnumF
  rw [h]
  simp only [Prod.mk.injEq, true_and]
  rw [h2]; simp

theorem rr_yes {w w' : World} {d n n' : Nat} {l l' : List UInt8} {t : Tr} {v : Value} (hp : pNode d n l = .ok (t, n', l')) (hg : w.grownBy w' none) (hL : Lies (w.heap.size ≤ ·) w' t v) : RRPost w d n l (.returned (.tuple #[v, .string (bs l'), .int .i64 ((n' : Int) - n), .int .i64 0])) w' := by
  refine ⟨hg, ?_⟩
  rw [hp]
  exact ⟨v, rfl, hL⟩

theorem num_no {l : List UInt8} (h : pNum l = none) : rnumF l = (0, 0) := by unfold rnumF; rw [h]

set_option maxRecDepth 100000 in
set_option maxHeartbeats 4000000 in
theorem rr_noprim1 (dI LI : Int) (d n : Nat) (b : UInt8) (l1 : List UInt8) (hl : (b :: l1).length ≤ maxLen) (w : World) (hd : ¬ dI = 0) (hL : ¬ LI = 0) (q : UInt8) (l2 : List UInt8) (hb : b.toNat = 2) (hl0 : l1 = q :: l2) (hq : Lf.isPrimB q.toNat = false) (hp : pNode d n (b :: l1) = .error 1) :
    Calls Try.prog 40 #[.string (bs (b :: l1)), .int .i64 dI, .int .i64 LI] w (RRPost w d n (b :: l1)) := by
  have HP := Lf.hide (fun w' hg => rr_no (w := w) (w' := w') hp (by decide) hg)
  clear hp
  have HR := Lf.hide (heap_keep (o := .cells #[.int .i64 2, .int .i64 0, .int .i64 0, .string ⟨#[]⟩, .slice none 0 0] 34) (heap_alloc_new w (.cells #[.int .i64 0, .int .i64 0, .int .i64 0, .string ⟨#[]⟩, .slice none 0 0] 34)))
  have HN0 := Lf.hide (heap_alloc_new (w.alloc (.cells #[.int .i64 0, .int .i64 0, .int .i64 0, .string ⟨#[]⟩, .slice none 0 0] 34)) (.cells #[.int .i64 2, .int .i64 0, .int .i64 0, .string ⟨#[]⟩, .slice none 0 0] 34))
  have HG := Lf.hide (Lf.gbt (Lf.gb (w := w) (.cells #[.int .i64 0, .int .i64 0, .int .i64 0, .string ⟨#[]⟩, .slice none 0 0] 34)) (Lf.gb (.cells #[.int .i64 2, .int .i64 0, .int .i64 0, .string ⟨#[]⟩, .slice none 0 0] 34)))
  have hd' : (dI == 0) = false := by simpa using hd
  have hL' : (LI == 0) = false := by simpa using hL
  have hs := bs_ne b l1
  have h0 : ∀ h, (bs (b :: l1))[0]'h = b := fun _ => rfl
  have hsz := bs_size (b :: l1)
  have hx1 : (bs (b :: l1)).extract 1 (b :: l1).length = bs l1 := bs_drop (b :: l1) 1
  have e50' := e50
  have hl1 : l1.length ≤ maxLen := by simp at hl; omega
  unfold maxLen at hl hl1
  obtain ⟨L, hLN⟩ : ∃ L, L = (b :: l1).length := ⟨_, rfl⟩
  have hLpos : 0 < L := by rw [hLN]; simp
  have hL1 : l1.length + 1 = L := by rw [hLN]; simp
  rw [← hLN] at hsz hl hx1
  clear hLN
  generalize bs (b :: l1) = s at *
  have hbI : (b.toNat : Int) = 2 := by omega
  have hs1 : (bs l1).toList.isEmpty = false := by rw [hl0]; simp [bs]
  have hq0 : ∀ h, (bs l1)[0]'h = q := by subst hl0; exact fun _ => rfl
  have hsz1 := bs_size l1
  have hl1p : 0 < l1.length := by rw [hl0]; simp
  have hq255 : (q.toNat : Int) ≤ 255 := by have := q.toNat_lt; omega
  have hpr := rprim_any q.toNat
  rw [hq] at hpr
  have HPR := Lf.hide hpr
  clear hpr hl0 hq
  generalize bs l1 = s1 at *
  generalize l1.length = L1 at *
  go_enter Try.func40, Try.ntmps40
  go_wp2_with fail
  refine (HPR.out _).mono ?_; rintro e y0 ⟨rfl, rfl⟩
  go_wp2_with fail
  refine (no_any _ _).mono ?_; rintro e y1 ⟨rfl, hg⟩
  have hr1 := (hg.block _ (lt_of_block HR.out) (by simp)).trans HR.out
  obtain ⟨r0, r1, r2, r3, r4⟩ := box5 hr1
  obtain ⟨f0, f1, f2, f3, f4⟩ := box5f hr1
  have HR1 := Lf.hide hr1
  have HG1 := Lf.hide (Lf.gbt HG.out hg)
  clear hg hr1
  go_wp2_with fail
  change bodyPost _ _ _ _ _ (set5 y1 w.heap.size (.int .i64 0) (.int .i64 0) (.int .i64 0) (.string ⟨#[]⟩) (.slice none 0 0))
  have hb' := set5_block HR1.out (.int .i64 0) (.int .i64 0) (.int .i64 0) (.string ⟨#[]⟩) (.slice none 0 0)
  have hg' := grow_new HG1.out (set5_grow y1 w.heap.size (.int .i64 0) (.int .i64 0) (.int .i64 0) (.string ⟨#[]⟩) (.slice none 0 0)) (Nat.le_refl _)
  generalize set5 y1 w.heap.size (.int .i64 0) (.int .i64 0) (.int .i64 0) (.string ⟨#[]⟩) (.slice none 0 0) = wf at *
  obtain ⟨z0, z1, z2, z3, z4⟩ := box5 hb'
  exact bodyPost_ret (v := .tuple #[nodeV 0 0 0 ⟨#[]⟩ none 0 0, .string ⟨#[]⟩, .int .i64 0, .int .i64 1]) (by simp [results, Try.results40, go_sem, z0, z1, z2, z3, z4, nodeV]) rfl (HP.out _ hg')

set_option maxRecDepth 100000 in
set_option maxHeartbeats 4000000 in
theorem rr_xnonum (dI LI : Int) (d n : Nat) (b : UInt8) (l1 : List UInt8) (hl : (b :: l1).length ≤ maxLen) (w : World) (hd : ¬ dI = 0) (hL : ¬ LI = 0) (hb3 : b.toNat ≤ 3) (hb2 : ¬ b.toNat = 2) (hn : pNum l1 = none) (hp : pNode d n (b :: l1) = .error 1) :
    Calls Try.prog 40 #[.string (bs (b :: l1)), .int .i64 dI, .int .i64 LI] w (RRPost w d n (b :: l1)) := by
  have HP := Lf.hide (fun w' hg => rr_no (w := w) (w' := w') hp (by decide) hg)
  clear hp
  have hrn := num_no hn
  have HR := Lf.hide (heap_keep (o := .cells #[.int .i64 (b.toNat : Int), .int .i64 0, .int .i64 0, .string ⟨#[]⟩, .slice none 0 0] 34) (heap_alloc_new w (.cells #[.int .i64 0, .int .i64 0, .int .i64 0, .string ⟨#[]⟩, .slice none 0 0] 34)))
  have HN0 := Lf.hide (heap_alloc_new (w.alloc (.cells #[.int .i64 0, .int .i64 0, .int .i64 0, .string ⟨#[]⟩, .slice none 0 0] 34)) (.cells #[.int .i64 (b.toNat : Int), .int .i64 0, .int .i64 0, .string ⟨#[]⟩, .slice none 0 0] 34))
  have HG := Lf.hide (Lf.gbt (Lf.gb (w := w) (.cells #[.int .i64 0, .int .i64 0, .int .i64 0, .string ⟨#[]⟩, .slice none 0 0] 34)) (Lf.gb (.cells #[.int .i64 (b.toNat : Int), .int .i64 0, .int .i64 0, .string ⟨#[]⟩, .slice none 0 0] 34)))
  have hd' : (dI == 0) = false := by simpa using hd
  have hL' : (LI == 0) = false := by simpa using hL
  have hs := bs_ne b l1
  have h0 : ∀ h, (bs (b :: l1))[0]'h = b := fun _ => rfl
  have hsz := bs_size (b :: l1)
  have hx1 : (bs (b :: l1)).extract 1 (b :: l1).length = bs l1 := bs_drop (b :: l1) 1
  have e50' := e50
  have hl1 : l1.length ≤ maxLen := by simp at hl; omega
  unfold maxLen at hl hl1
  obtain ⟨L, hLN⟩ : ∃ L, L = (b :: l1).length := ⟨_, rfl⟩
  have hLpos : 0 < L := by rw [hLN]; simp
  have hL1 : l1.length + 1 = L := by rw [hLN]; simp
  rw [← hLN] at hsz hl hx1
  clear hLN
  generalize bs (b :: l1) = s at *
  rw [World.size_alloc] at HN0
  have HNM : Hid (∀ W, Calls Try.prog 51 #[.string (bs l1)] W fun e w' => e = .returned (.tuple #[.int .i64 0, .int .i64 0]) ∧ W.grownBy w' none) := by
    intro W
    have h := rnum_any l1 (by unfold maxLen; omega) W
    rw [hrn] at h
    exact h
  have hbI : (b.toNat : Int) ≤ 3 := by omega
  have hbJ : ¬ (b.toNat : Int) = 2 := by omega
  have hbK : ((b.toNat : Int) == 2) = false := by simpa using hbJ
  clear hrn hn
  generalize bs l1 = s1 at *
  go_enter Try.func40, Try.ntmps40
  go_wp2_with fail
  refine (HNM.out _).mono ?_; rintro e y2 ⟨rfl, hg2⟩
  have HR2 := Lf.hide ((hg2.block _ (lt_of_block HR.out) (by simp)).trans HR.out)
  have HN2 := Lf.hide ((hg2.block _ (lt_of_block HN0.out) (by simp)).trans HN0.out)
  have HG2 := Lf.hide (Lf.gbt HG.out hg2)
  obtain ⟨n0, n1, n2, n3, n4⟩ := box5 HN2.out
  obtain ⟨nf0, nf1, nf2, nf3, nf4⟩ := box5f HN2.out
  have hz2 := lt_of_block HN2.out
  clear hg2
  go_wp2_with fail
  refine (no_any _ _).mono ?_; rintro e y1 ⟨rfl, hg⟩
  have hr1 := (hg.block _ (lt_of_block HR2.out) (by simp)).trans HR2.out
  obtain ⟨r0, r1, r2, r3, r4⟩ := box5 hr1
  obtain ⟨f0, f1, f2, f3, f4⟩ := box5f hr1
  have HR1 := Lf.hide hr1
  have HG1 := Lf.hide (Lf.gbt HG2.out hg)
  clear hg hr1
  go_wp2_with fail
  change bodyPost _ _ _ _ _ (set5 y1 w.heap.size (.int .i64 0) (.int .i64 0) (.int .i64 0) (.string ⟨#[]⟩) (.slice none 0 0))
  have hb' := set5_block HR1.out (.int .i64 0) (.int .i64 0) (.int .i64 0) (.string ⟨#[]⟩) (.slice none 0 0)
  have hg' := grow_new HG1.out (set5_grow y1 w.heap.size (.int .i64 0) (.int .i64 0) (.int .i64 0) (.string ⟨#[]⟩) (.slice none 0 0)) (Nat.le_refl _)
  generalize set5 y1 w.heap.size (.int .i64 0) (.int .i64 0) (.int .i64 0) (.string ⟨#[]⟩) (.slice none 0 0) = wf at *
  obtain ⟨z0, z1, z2, z3, z4⟩ := box5 hb'
  exact bodyPost_ret (v := .tuple #[nodeV 0 0 0 ⟨#[]⟩ none 0 0, .string ⟨#[]⟩, .int .i64 0, .int .i64 1]) (by simp [results, Try.results40, go_sem, z0, z1, z2, z3, z4, nodeV]) rfl (HP.out _ hg')

set_option maxRecDepth 100000 in
set_option maxHeartbeats 4000000 in
theorem rr_pnonum (dI LI : Int) (d n : Nat) (b : UInt8) (l1 : List UInt8) (hl : (b :: l1).length ≤ maxLen) (w : World) (hd : ¬ dI = 0) (hL : ¬ LI = 0) (q : UInt8) (l2 : List UInt8) (hb : b.toNat = 2) (hl0 : l1 = q :: l2) (hq : Lf.isPrimB q.toNat = true) (hn : pNum l2 = none) (hp : pNode d n (b :: l1) = .error 1) :
    Calls Try.prog 40 #[.string (bs (b :: l1)), .int .i64 dI, .int .i64 LI] w (RRPost w d n (b :: l1)) := by
  have HP := Lf.hide (fun w' hg => rr_no (w := w) (w' := w') hp (by decide) hg)
  clear hp
  have hrn := num_no hn
  have HR := Lf.hide (heap_keep (o := .cells #[.int .i64 2, .int .i64 0, .int .i64 (q.toNat : Int), .string ⟨#[]⟩, .slice none 0 0] 34) (heap_alloc_new w (.cells #[.int .i64 0, .int .i64 0, .int .i64 0, .string ⟨#[]⟩, .slice none 0 0] 34)))
  have HN0 := Lf.hide (heap_alloc_new (w.alloc (.cells #[.int .i64 0, .int .i64 0, .int .i64 0, .string ⟨#[]⟩, .slice none 0 0] 34)) (.cells #[.int .i64 2, .int .i64 0, .int .i64 (q.toNat : Int), .string ⟨#[]⟩, .slice none 0 0] 34))
  have HG := Lf.hide (Lf.gbt (Lf.gb (w := w) (.cells #[.int .i64 0, .int .i64 0, .int .i64 0, .string ⟨#[]⟩, .slice none 0 0] 34)) (Lf.gb (.cells #[.int .i64 2, .int .i64 0, .int .i64 (q.toNat : Int), .string ⟨#[]⟩, .slice none 0 0] 34)))
  have hd' : (dI == 0) = false := by simpa using hd
  have hL' : (LI == 0) = false := by simpa using hL
  have hs := bs_ne b l1
  have h0 : ∀ h, (bs (b :: l1))[0]'h = b := fun _ => rfl
  have hsz := bs_size (b :: l1)
  have hx1 : (bs (b :: l1)).extract 1 (b :: l1).length = bs l1 := bs_drop (b :: l1) 1
  have e50' := e50
  have hl1 : l1.length ≤ maxLen := by simp at hl; omega
  unfold maxLen at hl hl1
  obtain ⟨L, hLN⟩ : ∃ L, L = (b :: l1).length := ⟨_, rfl⟩
  have hLpos : 0 < L := by rw [hLN]; simp
  have hL1 : l1.length + 1 = L := by rw [hLN]; simp
  rw [← hLN] at hsz hl hx1
  clear hLN
  generalize bs (b :: l1) = s at *
  rw [World.size_alloc] at HN0
  have hbI : (b.toNat : Int) = 2 := by omega
  have hs1 : (bs l1).toList.isEmpty = false := by rw [hl0]; simp [bs]
  have hq0 : ∀ h, (bs l1)[0]'h = q := by subst hl0; exact fun _ => rfl
  have hsz1 := bs_size l1
  have hl1p : 0 < l1.length := by rw [hl0]; simp
  have hq255 : (q.toNat : Int) ≤ 255 := by have := q.toNat_lt; omega
  have hx2 : (bs l1).extract 1 l1.length = bs l2 := by subst hl0; exact bs_drop (q :: l2) 1
  have hl2 : l2.length + 1 = l1.length := by rw [hl0]; simp
  have hpr := rprim_any q.toNat
  rw [hq] at hpr
  have HPR := Lf.hide hpr
  clear hpr hl0 hq
  have HNM : Hid (∀ W, Calls Try.prog 51 #[.string (bs l2)] W fun e w' => e = .returned (.tuple #[.int .i64 0, .int .i64 0]) ∧ W.grownBy w' none) := by
    intro W
    have h := rnum_any l2 (by unfold maxLen; omega) W
    rw [hrn] at h
    exact h
  clear hrn hn
  generalize bs l2 = s2 at *
  generalize bs l1 = s1 at *
  generalize l1.length = L1 at *
  go_enter Try.func40, Try.ntmps40
  go_wp2_with fail
  refine (HPR.out _).mono ?_; rintro e y0 ⟨rfl, rfl⟩
  go_wp2_with fail
  refine (HNM.out _).mono ?_; rintro e y2 ⟨rfl, hg2⟩
  have HR2 := Lf.hide ((hg2.block _ (lt_of_block HR.out) (by simp)).trans HR.out)
  have HN2 := Lf.hide ((hg2.block _ (lt_of_block HN0.out) (by simp)).trans HN0.out)
  have HG2 := Lf.hide (Lf.gbt HG.out hg2)
  obtain ⟨n0, n1, n2, n3, n4⟩ := box5 HN2.out
  obtain ⟨nf0, nf1, nf2, nf3, nf4⟩ := box5f HN2.out
  have hz2 := lt_of_block HN2.out
  clear hg2
  go_wp2_with fail
  refine (no_any _ _).mono ?_; rintro e y1 ⟨rfl, hg⟩
  have hr1 := (hg.block _ (lt_of_block HR2.out) (by simp)).trans HR2.out
  obtain ⟨r0, r1, r2, r3, r4⟩ := box5 hr1
  obtain ⟨f0, f1, f2, f3, f4⟩ := box5f hr1
  have HR1 := Lf.hide hr1
  have HG1 := Lf.hide (Lf.gbt HG2.out hg)
  clear hg hr1
  go_wp2_with fail
  change bodyPost _ _ _ _ _ (set5 y1 w.heap.size (.int .i64 0) (.int .i64 0) (.int .i64 0) (.string ⟨#[]⟩) (.slice none 0 0))
  have hb' := set5_block HR1.out (.int .i64 0) (.int .i64 0) (.int .i64 0) (.string ⟨#[]⟩) (.slice none 0 0)
  have hg' := grow_new HG1.out (set5_grow y1 w.heap.size (.int .i64 0) (.int .i64 0) (.int .i64 0) (.string ⟨#[]⟩) (.slice none 0 0)) (Nat.le_refl _)
  generalize set5 y1 w.heap.size (.int .i64 0) (.int .i64 0) (.int .i64 0) (.string ⟨#[]⟩) (.slice none 0 0) = wf at *
  obtain ⟨z0, z1, z2, z3, z4⟩ := box5 hb'
  exact bodyPost_ret (v := .tuple #[nodeV 0 0 0 ⟨#[]⟩ none 0 0, .string ⟨#[]⟩, .int .i64 0, .int .i64 1]) (by simp [results, Try.results40, go_sem, z0, z1, z2, z3, z4, nodeV]) rfl (HP.out _ hg')

set_option maxRecDepth 100000 in
set_option maxHeartbeats 4000000 in
theorem rr_xneg (dI LI : Int) (d n : Nat) (b : UInt8) (l1 : List UInt8) (hl : (b :: l1).length ≤ maxLen) (w : World) (hd : ¬ dI = 0) (hL : ¬ LI = 0) (hb3 : b.toNat ≤ 3) (hb2 : ¬ b.toNat = 2) (hb0 : ¬ b.toNat = 0) (m : Int) (l3 : List UInt8) (hn : pNum l1 = some (m, l3)) (hm : m < 0) (hp : pNode d n (b :: l1) = .error 1) :
    Calls Try.prog 40 #[.string (bs (b :: l1)), .int .i64 dI, .int .i64 LI] w (RRPost w d n (b :: l1)) := by
  have HP := Lf.hide (fun w' hg => rr_no (w := w) (w' := w') hp (by decide) hg)
  clear hp
  obtain ⟨sz, hrn, hsz0, hszl, hdr⟩ := num_yes hn
  have hx3 : (bs l1).extract sz l1.length = bs l3 := by rw [bs_drop, hdr]
  have hl3 : l3.length + sz = l1.length := by rw [← hdr, List.length_drop]; omega
  have hmb := (pNum_sound hn).1
  have hszs := bs_size l1
  have HR := Lf.hide (heap_keep (o := .cells #[.int .i64 (b.toNat : Int), .int .i64 0, .int .i64 0, .string ⟨#[]⟩, .slice none 0 0] 34) (heap_alloc_new w (.cells #[.int .i64 0, .int .i64 0, .int .i64 0, .string ⟨#[]⟩, .slice none 0 0] 34)))
  have HN0 := Lf.hide (heap_alloc_new (w.alloc (.cells #[.int .i64 0, .int .i64 0, .int .i64 0, .string ⟨#[]⟩, .slice none 0 0] 34)) (.cells #[.int .i64 (b.toNat : Int), .int .i64 0, .int .i64 0, .string ⟨#[]⟩, .slice none 0 0] 34))
  have HG := Lf.hide (Lf.gbt (Lf.gb (w := w) (.cells #[.int .i64 0, .int .i64 0, .int .i64 0, .string ⟨#[]⟩, .slice none 0 0] 34)) (Lf.gb (.cells #[.int .i64 (b.toNat : Int), .int .i64 0, .int .i64 0, .string ⟨#[]⟩, .slice none 0 0] 34)))
  have hd' : (dI == 0) = false := by simpa using hd
  have hL' : (LI == 0) = false := by simpa using hL
  have hs := bs_ne b l1
  have h0 : ∀ h, (bs (b :: l1))[0]'h = b := fun _ => rfl
  have hsz := bs_size (b :: l1)
  have hx1 : (bs (b :: l1)).extract 1 (b :: l1).length = bs l1 := bs_drop (b :: l1) 1
  have e50' := e50
  have hl1 : l1.length ≤ maxLen := by simp at hl; omega
  unfold maxLen at hl hl1
  obtain ⟨L, hLN⟩ : ∃ L, L = (b :: l1).length := ⟨_, rfl⟩
  have hLpos : 0 < L := by rw [hLN]; simp
  have hL1 : l1.length + 1 = L := by rw [hLN]; simp
  rw [← hLN] at hsz hl hx1
  clear hLN
  generalize bs (b :: l1) = s at *
  rw [World.size_alloc] at HN0
  have HNM : Hid (∀ W, Calls Try.prog 51 #[.string (bs l1)] W fun e w' => e = .returned (.tuple #[.int .i64 m, .int .i64 (sz : Int)]) ∧ W.grownBy w' none) := by
    intro W
    have h := rnum_any l1 (by unfold maxLen; omega) W
    rw [hrn] at h
    exact h
  have hbI : (b.toNat : Int) ≤ 3 := by omega
  have hbJ : ¬ (b.toNat : Int) = 2 := by omega
  have hbK : ((b.toNat : Int) == 2) = false := by simpa using hbJ
  have hbZ : ((b.toNat : Int) == 0) = false := by simp; omega
  have hbZ2 : ¬ (b.toNat : Int) = 0 := by omega
  have hszI : ((sz : Int) == 0) = false := by simp; omega
  have hszJ : ¬ (sz : Int) = 0 := by omega
  have hszL : (sz : Int) ≤ (l1.length : Int) := by omega
  clear hrn hn hdr
  generalize bs l3 = s3 at *
  generalize bs l1 = s1 at *
  generalize l1.length = L1 at *
  go_enter Try.func40, Try.ntmps40
  go_wp2_with fail
  refine (HNM.out _).mono ?_; rintro e y2 ⟨rfl, hg2⟩
  have HR2 := Lf.hide ((hg2.block _ (lt_of_block HR.out) (by simp)).trans HR.out)
  have HN2 := Lf.hide ((hg2.block _ (lt_of_block HN0.out) (by simp)).trans HN0.out)
  have HG2 := Lf.hide (Lf.gbt HG.out hg2)
  obtain ⟨n0, n1, n2, n3, n4⟩ := box5 HN2.out
  obtain ⟨nf0, nf1, nf2, nf3, nf4⟩ := box5f HN2.out
  have hz2 := lt_of_block HN2.out
  clear hg2
  go_wp2_with fail
  refine (no_any _ _).mono ?_; rintro e y1 ⟨rfl, hg⟩
  have hr1 := (hg.block _ (lt_of_block HR2.out) (by simp)).trans HR2.out
  obtain ⟨r0, r1, r2, r3, r4⟩ := box5 hr1
  obtain ⟨f0, f1, f2, f3, f4⟩ := box5f hr1
  have HR1 := Lf.hide hr1
  have HG1 := Lf.hide (Lf.gbt HG2.out hg)
  clear hg hr1
  go_wp2_with fail
  change bodyPost _ _ _ _ _ (set5 y1 w.heap.size (.int .i64 0) (.int .i64 0) (.int .i64 0) (.string ⟨#[]⟩) (.slice none 0 0))
  have hb' := set5_block HR1.out (.int .i64 0) (.int .i64 0) (.int .i64 0) (.string ⟨#[]⟩) (.slice none 0 0)
  have hg' := grow_new HG1.out (set5_grow y1 w.heap.size (.int .i64 0) (.int .i64 0) (.int .i64 0) (.string ⟨#[]⟩) (.slice none 0 0)) (Nat.le_refl _)
  generalize set5 y1 w.heap.size (.int .i64 0) (.int .i64 0) (.int .i64 0) (.string ⟨#[]⟩) (.slice none 0 0) = wf at *
  obtain ⟨z0, z1, z2, z3, z4⟩ := box5 hb'
  exact bodyPost_ret (v := .tuple #[nodeV 0 0 0 ⟨#[]⟩ none 0 0, .string ⟨#[]⟩, .int .i64 0, .int .i64 1]) (by simp [results, Try.results40, go_sem, z0, z1, z2, z3, z4, nodeV]) rfl (HP.out _ hg')

set_option maxRecDepth 100000 in
set_option maxHeartbeats 4000000 in
theorem rr_noprim0 (dI LI : Int) (d n : Nat) (b : UInt8) (l1 : List UInt8) (hl : (b :: l1).length ≤ maxLen) (w : World) (hd : ¬ dI = 0) (hL : ¬ LI = 0) (hb : b.toNat = 2) (hl0 : l1 = []) (hp : pNode d n (b :: l1) = .error 1) :
    Calls Try.prog 40 #[.string (bs (b :: l1)), .int .i64 dI, .int .i64 LI] w (RRPost w d n (b :: l1)) := by
  have HP := Lf.hide (fun w' hg => rr_no (w := w) (w' := w') hp (by decide) hg)
  clear hp
  have HR := Lf.hide (heap_keep (o := .cells #[.int .i64 2, .int .i64 0, .int .i64 0, .string ⟨#[]⟩, .slice none 0 0] 34) (heap_alloc_new w (.cells #[.int .i64 0, .int .i64 0, .int .i64 0, .string ⟨#[]⟩, .slice none 0 0] 34)))
  have HN0 := Lf.hide (heap_alloc_new (w.alloc (.cells #[.int .i64 0, .int .i64 0, .int .i64 0, .string ⟨#[]⟩, .slice none 0 0] 34)) (.cells #[.int .i64 2, .int .i64 0, .int .i64 0, .string ⟨#[]⟩, .slice none 0 0] 34))
  have HG := Lf.hide (Lf.gbt (Lf.gb (w := w) (.cells #[.int .i64 0, .int .i64 0, .int .i64 0, .string ⟨#[]⟩, .slice none 0 0] 34)) (Lf.gb (.cells #[.int .i64 2, .int .i64 0, .int .i64 0, .string ⟨#[]⟩, .slice none 0 0] 34)))
  have hd' : (dI == 0) = false := by simpa using hd
  have hL' : (LI == 0) = false := by simpa using hL
  have hs := bs_ne b l1
  have h0 : ∀ h, (bs (b :: l1))[0]'h = b := fun _ => rfl
  have hsz := bs_size (b :: l1)
  have hx1 : (bs (b :: l1)).extract 1 (b :: l1).length = bs l1 := bs_drop (b :: l1) 1
  have e50' := e50
  have hl1 : l1.length ≤ maxLen := by simp at hl; omega
  unfold maxLen at hl hl1
  obtain ⟨L, hLN⟩ : ∃ L, L = (b :: l1).length := ⟨_, rfl⟩
  have hLpos : 0 < L := by rw [hLN]; simp
  have hL1 : l1.length + 1 = L := by rw [hLN]; simp
  rw [← hLN] at hsz hl hx1
  clear hLN
  generalize bs (b :: l1) = s at *
  have hbI : (b.toNat : Int) = 2 := by omega
  have hs1 : (bs l1).toList.isEmpty = true := by rw [hl0]; simp [bs]
  generalize bs l1 = s1 at *
  go_enter Try.func40, Try.ntmps40
  go_wp2_with fail
  refine (no_any _ _).mono ?_; rintro e y1 ⟨rfl, hg⟩
  have hr1 := (hg.block _ (lt_of_block HR.out) (by simp)).trans HR.out
  obtain ⟨r0, r1, r2, r3, r4⟩ := box5 hr1
  obtain ⟨f0, f1, f2, f3, f4⟩ := box5f hr1
  have HR1 := Lf.hide hr1
  have HG1 := Lf.hide (Lf.gbt HG.out hg)
  clear hg hr1
  go_wp2_with fail
  change bodyPost _ _ _ _ _ (set5 y1 w.heap.size (.int .i64 0) (.int .i64 0) (.int .i64 0) (.string ⟨#[]⟩) (.slice none 0 0))
  have hb' := set5_block HR1.out (.int .i64 0) (.int .i64 0) (.int .i64 0) (.string ⟨#[]⟩) (.slice none 0 0)
  have hg' := grow_new HG1.out (set5_grow y1 w.heap.size (.int .i64 0) (.int .i64 0) (.int .i64 0) (.string ⟨#[]⟩) (.slice none 0 0)) (Nat.le_refl _)
  generalize set5 y1 w.heap.size (.int .i64 0) (.int .i64 0) (.int .i64 0) (.string ⟨#[]⟩) (.slice none 0 0) = wf at *
  obtain ⟨z0, z1, z2, z3, z4⟩ := box5 hb'
  exact bodyPost_ret (v := .tuple #[nodeV 0 0 0 ⟨#[]⟩ none 0 0, .string ⟨#[]⟩, .int .i64 0, .int .i64 1]) (by simp [results, Try.results40, go_sem, z0, z1, z2, z3, z4, nodeV]) rfl (HP.out _ hg')


end Go.Proofs.Ytjhhcdiipbjiaaa
