/- tree.Encode by its contract: a good tree's bytes and no error, or no bytes and what is wrong. -/
import Derived.Test.YtdninmanfncfiadEnc
namespace Go.Proofs.Ytdninmanfncfiad
set_option maxRecDepth 20000
open Go.ChangeShapes Go.WideShapes Go.ChangeAt Go.RowKit

theorem owns_str {B : Nat} {w : World} {v : Value} {l : List UInt8} (h : Owns B w v l) : (convert 126 9 v).run Try.prog w = .ok (.string ⟨l.toArray⟩) w := by
  have h' := h
  unfold Owns at h'
  rcases h'.2 with ⟨rfl, h0⟩ | ⟨g, cap, cur, rfl, hbg, hg, hnc, hcm, hcs, htake⟩
  · have : l = [] := List.eq_nil_of_length_eq_zero h0
    subst this
    exact run_convert_bytes_nil w 126 5 Try.underlying126 Try.underlying5 0 0 9 Try.underlying9
  · refine run_convert_bytes_back w 126 9 5 ⟨g, 0, none⟩ cap l Try.underlying126 Try.underlying5 Try.underlying9 fun j hj => ?_
    exact World.ownsRow.cells h' (g := g) rfl j _ (by simp [cs, List.getElem?_eq_getElem hj])

mutual
theorem encTr_bound (d : Nat) : ∀ t, firstW d t = 0 → t.size ≤ 1000000 → (encTr t).length ≤ 215 * t.size
  | .nd k n p s args, h, hz => by
    obtain ⟨hd, hw, hfs⟩ := firstW_zero h
    obtain ⟨hk, hp, hm, hN, hs⟩ := wrong_zero hw
    rw [Tr.size] at hz
    have ih := encTrs_bound (d + 1) args hfs (by omega)
    have hle := length_le_sizes args
    have h1 := encN_len n ⟨by omega, by omega⟩
    have h2 := encN_len s.size ⟨by omega, by omega⟩
    have h3 := encN_len args.length ⟨by omega, by omega⟩
    have hsl : s.data.toList.length = s.size := by simp
    rw [encTr, Tr.size]
    by_cases k0 : k = 0
    · rw [if_pos k0]; simp; omega
    rw [if_neg k0]
    by_cases k1 : k = 1
    · rw [if_pos k1]; simp only [List.length_cons, List.length_append, hsl]; omega
    rw [if_neg k1]
    by_cases k2 : k = 2
    · rw [if_pos k2]; simp only [List.length_cons, List.length_append]; omega
    · rw [if_neg k2]; simp only [List.length_cons, List.length_append]; omega
theorem encTrs_bound (d : Nat) : ∀ ts, firstWs d ts = 0 → sizes ts ≤ 1000000 → (encTrs ts).length ≤ 215 * sizes ts
  | [], _, _ => by simp [encTrs]
  | t :: ts, h, hz => by
    rw [sizes] at hz
    have h1 := encTr_bound d t (firstWs_zero h t (by simp)) (by omega)
    have h2 : firstWs d ts = 0 := by
      rw [firstWs] at h
      by_cases h0 : firstW d t = 0
      · rwa [if_neg (by simpa using h0)] at h
      · rw [if_pos h0] at h; exact absurd h h0
    have h3 := encTrs_bound d ts h2 (by omega)
    rw [encTrs, sizes, List.length_append]; omega
end

theorem goodF_zero {t : Tr} (h : goodF t = 0) : firstW 1 t = 0 ∧ t.size ≤ 300 := by
  unfold goodF at h
  by_cases h0 : firstW 1 t = 0
  · rw [if_neg (by simpa using h0)] at h
    by_cases h1 : 300 < t.size
    · rw [if_pos h1] at h; omega
    · exact ⟨h0, by omega⟩
  · rw [if_pos h0] at h; exact absurd h h0

set_option maxHeartbeats 400000 in
theorem encode_yes {w : World} {t : Tr} {v : Value} (hL : Lies (· < w.heap.size) w t v) (hg : goodF t = 0) :
    Calls Try.prog 68 #[v] w fun e w' => e = .returned (.tuple #[.string ⟨(encTr t).toArray⟩, .int .i64 0]) ∧ w.grownBy w' none := by
  obtain ⟨h1, h2⟩ := goodF_zero hg
  have hlen := encTr_bound 1 t h1 (by omega)
  have hv : ∃ k n p s a l c, v = nodeV k n p s a l c := by cases hL; exact ⟨_, _, _, _, _, _, _, rfl⟩
  obtain ⟨k, n, p, s, a, l, c, hv⟩ := hv
  have hL1 : ∀ o, Lies (· < (w.alloc o).heap.size) (w.alloc o) t v := fun o => (hL.same (w' := w.alloc o) (fun b _ hb _ => World.cell?_alloc_lt _ _ _ hb)).okMono (fun b _ hb => by simp; have : b < w.heap.size := hb; omega)
  have hG := good_any (hL1 (.cells #[.int .i64 k, .int .i64 n, .int .i64 p, .string s, .slice a l c] 27)) (by omega)
  have hP : ∀ w', (w.alloc (.cells #[.int .i64 k, .int .i64 n, .int .i64 p, .string s, .slice a l c] 27)).grownBy w' none → Calls Try.prog 88 #[.slice none 0 0, v] w' (PutPost w'.heap.size w' (.slice none 0 0) (encTr t)) := by
    intro w' hgr
    have hs : Same (· < (w.alloc (.cells #[.int .i64 k, .int .i64 n, .int .i64 p, .string s, .slice a l c] 27)).heap.size) (w.alloc (.cells #[.int .i64 k, .int .i64 n, .int .i64 p, .string s, .slice a l c] 27)) w' := fun b o hb _ => Lf.gcell hgr b o hb
    have hL2 := ((hL1 _).same hs).okMono (ok' := (· < w'.heap.size)) (fun b hb _ => hb)
    exact putNode_any (Nat.le_refl _) hL2 1 h1 [] (.slice none 0 0) w' (Below.refl _ _) (World.ownsRow_nil _ _ _ _) (by simp; omega)
  rw [hg] at hG
  rw [hv] at hG hP ⊢
  unfold nodeV at hG hP ⊢
  have HG := Lf.hide hG
  have HP := Lf.hide hP
  clear hG hP hL hL1 hv hg h1 h2 hlen
  generalize encTr t = l' at *
  go_enter Try.func68, Try.ntmps68
  go_wp2_with fail
  refine HG.out.mono ?_; rintro e w1 ⟨rfl, hg1⟩
  obtain ⟨b0, b1, b2, b3, b4⟩ := box5 ((hg1.block w.heap.size (by simp) (by simp)).trans (heap_alloc_new _ _))
  have HG1 := Lf.hide hg1
  clear hg1
  go_wp2_with fail
  refine (HP.out _ HG1.out).mono ?_; rintro e w2 ⟨v2, rfl, ho, hg2⟩
  have hstr := owns_str ho
  have HG2 := Lf.hide hg2.1
  clear ho hg2
  go_wp2_with fail
  go_ret2
  refine ⟨rfl, Lf.gbt (Lf.gb _) (Lf.gbt HG1.out ?_)⟩
  exact HG2.out

theorem encode_no {w : World} {t : Tr} {v : Value} (hL : Lies (· < w.heap.size) w t v) (hz : t.size ≤ 4611686018427387904 - 1) (hg : goodF t ≠ 0) :
    Calls Try.prog 68 #[v] w fun e w' => e = .returned (.tuple #[.string ⟨#[]⟩, .int .i64 (goodF t)]) ∧ w.grownBy w' none := by
  have hv : ∃ k n p s a l c, v = nodeV k n p s a l c := by cases hL; exact ⟨_, _, _, _, _, _, _, rfl⟩
  obtain ⟨k, n, p, s, a, l, c, hv⟩ := hv
  have hL1 : ∀ o, Lies (· < (w.alloc o).heap.size) (w.alloc o) t v := fun o => (hL.same (w' := w.alloc o) (fun b _ hb _ => World.cell?_alloc_lt _ _ _ hb)).okMono (fun b _ hb => by simp; have : b < w.heap.size := hb; omega)
  have hG := good_any (hL1 (.cells #[.int .i64 k, .int .i64 n, .int .i64 p, .string s, .slice a l c] 27)) (by omega)
  rw [hv] at hG ⊢
  unfold nodeV at hG ⊢
  have HG := Lf.hide hG
  clear hG hL hL1 hv
  generalize goodF t = x at *
  go_enter Try.func68, Try.ntmps68
  go_wp2_with fail
  refine HG.out.mono ?_; rintro e w1 ⟨rfl, hg1⟩
  have HG1 := Lf.hide hg1
  clear hg1
  go_wp2_with fail
  go_ret2
  exact ⟨rfl, Lf.gbt (Lf.gb _) HG1.out⟩

end Go.Proofs.Ytdninmanfncfiad
