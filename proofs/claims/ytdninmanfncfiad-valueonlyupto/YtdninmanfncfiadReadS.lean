/- read by its contract: a primitive, a list, and read itself. -/
import Derived.Test.YtdninmanfncfiadReadR
namespace Go.Proofs.Ytdninmanfncfiad
set_option maxRecDepth 20000
open Go.ChangeShapes Go.WideShapes Go.ChangeAt Go.RowKit
set_option linter.unusedVariables false

theorem readT_branch {k n p : Int} {s : ByteArray} {l : List Tr} {T : Ty} (h3 : T.t ≠ 3) (h4 : T.t ≠ 4) (h5 : T.t ≠ 5) (h6 : T.t ≠ 6) (h7 : T.t ≠ 7) (h10 : T.t ≠ 10) (h13 : T.t ≠ 13) : readT (.nd k n p s l) T = match branchF T p with
    | none => none
    | some (m, ts) => (readTs l ts).map (leafVa T.t m ⟨#[]⟩) := by
  rw [readT, if_neg (by omega), if_neg h6, if_neg h10, if_neg h13]
  rfl

theorem set_one7 {w : World} {g : Nat} {T : TypeId} {x0 x1 x2 x3 x4 x5 x6 : Value} (h : w.heap[g]? = some (.cells #[x0, x1, x2, x3, x4, x5, x6] T (0, 0))) (u : Value) :
    (w.setCell ⟨g, 1, none⟩ u).heap[g]? = some (.cells #[x0, u, x2, x3, x4, x5, x6] T (0, 0)) ∧ (w.setCell ⟨g, 4, none⟩ u).heap[g]? = some (.cells #[x0, x1, x2, x3, u, x5, x6] T (0, 0)) := by
  simp [World.setCell, Array.getElem?_modify, h]

set_option maxRecDepth 100000 in
set_option maxHeartbeats 1000000 in
theorem rd_def {W : World} {t : Int} (ta : Option Addr) (tl tc : Nat) (k n p : Int) (s : ByteArray) (na : Option Addr) (nl nc : Nat) {T : Ty} {l : List Tr} (ht : T.t = t) (it : I64 t) (h3 : t ≠ 3) (h4 : t ≠ 4) (h5 : t ≠ 5) (h6 : t ≠ 6) (h7 : t ≠ 7) (h10 : t ≠ 10) (h13 : t ≠ 13)
    (HB : Hid (∀ W2, W.grownBy W2 none → Calls Try.prog 47 #[tyV t ta tl tc, .int .i64 p] W2 (BranchPost (· < W.heap.size) T p W2)))
    (HE : Hid (∀ W2 ts xa xc VX, W.grownBy W2 none → RowT (fun _ => True) W2 ts xa VX → (∃ d, ∀ U ∈ ts, formedB d U = true) → Calls Try.prog 44 #[.slice na nl nc, .slice xa ts.length xc] W2 (EachPost (readTs l ts) W2))) :
    Calls Try.prog 18 #[tyV t ta tl tc, nodeV k n p s na nl nc] W (ReadPost (.nd k n p s l) T W) := by
  subst ht
  have HRE := Lf.hide (readT_branch (k := k) (n := n) (p := p) (s := s) (l := l) h3 h4 h5 h6 h7 h10 h13)
  have HIT := Lf.hide it
  generalize T.t = t at *
  have b3 : (t == 3) = false := by simpa using h3
  have b4 : (t == 4) = false := by simpa using h4
  have b5 : (t == 5) = false := by simpa using h5
  have b6 : (t == 6) = false := by simpa using h6
  have b7 : (t == 7) = false := by simpa using h7
  have b10 : (t == 10) = false := by simpa using h10
  have b13 : (t == 13) = false := by simpa using h13
  clear h3 h4 h5 h6 h7 h10 h13 it
  have HN4 := Lf.hide (new4 W (.cells #[.int .i64 t, .slice ta tl tc] 24) (.cells #[.int .i64 k, .int .i64 n, .int .i64 p, .string s, .slice na nl nc] 27) (.cells #[.int .i64 0, .int .i64 0, .int .i64 0, .string ⟨#[]⟩, .slice none 0 0, .slice none 0 0, .slice none 0 0] 30) (.cells #[.int .i64 t, .int .i64 0, .int .i64 0, .string ⟨#[]⟩, .slice none 0 0, .slice none 0 0, .slice none 0 0] 30))
  have HG4 : Hid (W.grownBy ((((W.alloc (.cells #[.int .i64 t, .slice ta tl tc] 24)).alloc (.cells #[.int .i64 k, .int .i64 n, .int .i64 p, .string s, .slice na nl nc] 27)).alloc (.cells #[.int .i64 0, .int .i64 0, .int .i64 0, .string ⟨#[]⟩, .slice none 0 0, .slice none 0 0, .slice none 0 0] 30)).alloc (.cells #[.int .i64 t, .int .i64 0, .int .i64 0, .string ⟨#[]⟩, .slice none 0 0, .slice none 0 0, .slice none 0 0] 30)) none) := Lf.gbt (Lf.gbt (Lf.gbt (Lf.gb _) (Lf.gb _)) (Lf.gb _)) (Lf.gb _)
  have HS4 : Hid (((((W.alloc (.cells #[.int .i64 t, .slice ta tl tc] 24)).alloc (.cells #[.int .i64 k, .int .i64 n, .int .i64 p, .string s, .slice na nl nc] 27)).alloc (.cells #[.int .i64 0, .int .i64 0, .int .i64 0, .string ⟨#[]⟩, .slice none 0 0, .slice none 0 0, .slice none 0 0] 30)).alloc (.cells #[.int .i64 t, .int .i64 0, .int .i64 0, .string ⟨#[]⟩, .slice none 0 0, .slice none 0 0, .slice none 0 0] 30)).heap.size = W.heap.size + 1 + 1 + 1 + 1) := by show _ = _; simp
  unfold tyV nodeV at *
  go_enter Try.func18, Try.ntmps18
  go_wp2_with fail
  refine (HB.out _ HG4.out).mono ?_; rintro e w1 ⟨hg1, hw⟩
  obtain ⟨n0, n1, n2, n3⟩ := HN4.out
  have hz1 := (hg1.block _ (lt_of_blk2 n2) (by simp)).trans n2
  have hv1 := (hg1.block _ (lt_of_blk2 n3) (by simp)).trans n3
  have hn1 := (hg1.block _ (lt_of_blk2 n1) (by simp)).trans n1
  have HGZ0 := Lf.hide (Lf.gbt HG4.out hg1)
  rcases hw with ⟨hbr, rfl⟩ | ⟨m, ts, xa, xc, VX, hbr, rfl, im, hrowT, hform, _⟩
  · have HRT : Hid (readT (.nd k n p s l) T = none) := by show _ = _; rw [HRE.out, hbr]
    obtain ⟨v0, v1, v2, v3, v4, v5, v6⟩ := box7 hv1
    obtain ⟨y0, y1, y2, y3, y4, y5, y6⟩ := box7 hz1
    have fv := free7 hv1
    have fz := free7 hz1
    have hgs := grow_set (g := W.heap.size + 1 + 1 + 1) (grow_refl w1 _) 1 none (.int .i64 0)
    have HGZ := Lf.hide (grow_new HGZ0.out hgs (by omega))
    have HZZ := Lf.hide ((hgs.block _ (lt_of_blk2 hz1) (by simp)).trans hz1)
    clear hgs hg1 n0 n1 n2 n3 HRE HE hz1 hv1 hn1 hbr HB HG4 HN4 HS4
    go_wp2_with fail
    change bodyPost _ _ _ _ _ (set7 (w1.setCell ⟨W.heap.size + 1 + 1 + 1, 1, none⟩ (.int .i64 0)) (W.heap.size + 1 + 1) (.int .i64 t) (.int .i64 0) (.int .i64 0) (.string ⟨#[]⟩) (.slice none 0 0) (.slice none 0 0) (.slice none 0 0))
    obtain ⟨j1, j2, j3⟩ := rd_fin (W := W) (wz := (w1.setCell ⟨W.heap.size + 1 + 1 + 1, 1, none⟩ (.int .i64 0))) t 0 ⟨#[]⟩ none 0 0 HGZ.out HZZ.out
    generalize set7 (w1.setCell ⟨W.heap.size + 1 + 1 + 1, 1, none⟩ (.int .i64 0)) (W.heap.size + 1 + 1) (.int .i64 t) (.int .i64 0) (.int .i64 0) (.string ⟨#[]⟩) (.slice none 0 0) (.slice none 0 0) (.slice none 0 0) = wf at *
    obtain ⟨z0, z1, z2, z3, z4, z5, z6⟩ := box7 j2
    refine bodyPost_ret (v := .tuple #[vaV t 0 0 ⟨#[]⟩ none 0 0 none 0 0 none 0 0, .bool false]) (by simp [results, Try.results18, go_sem, z0, z1, z2, z3, z4, z5, z6, vaV]) rfl ⟨j1, _, _, _, _, _, _, _, _, _, _, _, _, _, _, rfl, ?_, ?_⟩
    · intro h; cases h
    · intro _; exact HRT.out
  · have HRE2 : Hid (readT (.nd k n p s l) T = (readTs l ts).map (leafVa t m ⟨#[]⟩)) := by show _ = _; rw [HRE.out, hbr]
    have HIM := Lf.hide im
    obtain ⟨v0, v1, v2, v3, v4, v5, v6⟩ := box7 hv1
    obtain ⟨m0, m1, m2, m3, m4⟩ := box5 hn1
    have fv := free7 hv1
    have hgs := grow_set (g := W.heap.size + 1 + 1 + 1) (grow_refl w1 _) 1 none (.int .i64 m)
    have HGQ := Lf.hide (grow_new HGZ0.out hgs (by omega))
    have HZQ := Lf.hide ((hgs.block _ (lt_of_blk2 hz1) (by simp)).trans hz1)
    have HVQ := Lf.hide (set_one7 hv1 (.int .i64 m)).1
    have hsq : (w1.setCell ⟨W.heap.size + 1 + 1 + 1, 1, none⟩ (.int .i64 m)).heap.size = w1.heap.size := set_size _ _ _
    have hs1 := hg1.size
    rw [HS4.out] at hs1
    have HSQ : Hid (W.heap.size + 1 + 1 + 1 + 1 ≤ (w1.setCell ⟨W.heap.size + 1 + 1 + 1, 1, none⟩ (.int .i64 m)).heap.size) := by show _ ≤ _; omega
    have HCE := Lf.hide (HE.out (w1.setCell ⟨W.heap.size + 1 + 1 + 1, 1, none⟩ (.int .i64 m)) ts xa xc VX HGQ.out ((hrowT.same (w' := w1.setCell ⟨W.heap.size + 1 + 1 + 1, 1, none⟩ (.int .i64 m)) (fun b o hb hlt => World.cell?_of_block ((hgs.block b (Nat.lt_of_lt_of_le hlt hg1.size) (by simp; have h : b < W.heap.size := hb; omega)).trans (hg1.block b hlt (by simp))))).okMono (fun _ _ _ => trivial)) hform)
    clear hrowT hform hgs hg1 n0 n1 n2 n3 HRE HE hz1 hv1 hn1 hbr HB HG4 HN4 HS4 im hsq hs1
    go_wp2_with fail
    refine HCE.out.mono ?_; rintro e w2 ⟨hg2, hw⟩
    have hz2 := (hg2.block _ (lt_of_blk2 HZQ.out) (by simp)).trans HZQ.out
    have hv2 := (hg2.block _ (lt_of_blk2 HVQ.out) (by simp)).trans HVQ.out
    have HG2 := Lf.hide (Lf.gbt HGQ.out hg2)
    clear v0 v1 v2 v3 v4 v5 v6 m0 m1 m2 m3 m4 fv HCE HGZ0
    obtain ⟨v0, v1, v2, v3, v4, v5, v6⟩ := box7 hv2
    obtain ⟨y0, y1, y2, y3, y4, y5, y6⟩ := box7 hz2
    have fv := free7 hv2
    have fz := free7 hz2
    rcases hw with ⟨ys, hry, ya, yc, V, rfl, hyc, hrow⟩ | ⟨hry, rfl⟩
    · have HRT : Hid (readT (.nd k n p s l) T = some (leafVa t m ⟨#[]⟩ ys)) := by show _ = _; rw [HRE2.out, hry]; rfl
      have hgs := grow_set (g := W.heap.size + 1 + 1 + 1) (grow_refl w2 _) 4 none (.slice ya ys.length yc)
      have HGZ := Lf.hide (grow_new HG2.out hgs (by omega))
      have HZZ := Lf.hide ((hgs.block _ (lt_of_blk2 hz2) (by simp)).trans hz2)
      have hq := HSQ.out
      have HROW := Lf.hide ((hrow.same (w' := w2.setCell ⟨W.heap.size + 1 + 1 + 1, 4, none⟩ (.slice ya ys.length yc)) (fun b o hb hlt => World.cell?_of_block (hgs.block b hlt (by simp; have h : (w1.setCell ⟨W.heap.size + 1 + 1 + 1, 1, none⟩ (.int .i64 m)).heap.size ≤ b := hb; omega)))).okMono (ok' := (W.heap.size + 1 + 1 + 1 + 1 ≤ ·)) (fun b _ hb => by have h : (w1.setCell ⟨W.heap.size + 1 + 1 + 1, 1, none⟩ (.int .i64 m)).heap.size ≤ b := hb; show W.heap.size + 1 + 1 + 1 + 1 ≤ b; omega))
      have HCAP := Lf.hide hyc
      clear hrow hyc hgs hg2 hz2 hv2 hry hq HSQ HVQ HZQ HGQ
      go_wp2_with fail
      change bodyPost _ _ _ _ _ (set7 (w2.setCell ⟨W.heap.size + 1 + 1 + 1, 4, none⟩ (.slice ya ys.length yc)) (W.heap.size + 1 + 1) (.int .i64 t) (.int .i64 m) (.int .i64 0) (.string ⟨#[]⟩) (.slice ya ys.length yc) (.slice none 0 0) (.slice none 0 0))
      obtain ⟨j1, j2, j3⟩ := rd_fin (W := W) (wz := (w2.setCell ⟨W.heap.size + 1 + 1 + 1, 4, none⟩ (.slice ya ys.length yc))) t m ⟨#[]⟩ ya ys.length yc HGZ.out HZZ.out
      generalize set7 (w2.setCell ⟨W.heap.size + 1 + 1 + 1, 4, none⟩ (.slice ya ys.length yc)) (W.heap.size + 1 + 1) (.int .i64 t) (.int .i64 m) (.int .i64 0) (.string ⟨#[]⟩) (.slice ya ys.length yc) (.slice none 0 0) (.slice none 0 0) = wf at *
      obtain ⟨z0, z1, z2, z3, z4, z5, z6⟩ := box7 j2
      refine bodyPost_ret (v := .tuple #[vaV t m 0 ⟨#[]⟩ ya ys.length yc none 0 0 none 0 0, .bool true]) (by simp [results, Try.results18, go_sem, z0, z1, z2, z3, z4, z5, z6, vaV]) rfl ⟨j1, _, _, _, _, _, _, _, _, _, _, _, _, _, _, rfl, ?_, ?_⟩
      · intro _
        exact ⟨leafVa t m ⟨#[]⟩ ys, HRT.out, liesV_leaf HIT.out HIM.out (Nat.zero_le _) (j3 ys _ HROW.out) HCAP.out⟩
      · intro h; cases h
    · have HRT : Hid (readT (.nd k n p s l) T = none) := by show _ = _; rw [HRE2.out, hry]; rfl
      have hgs := grow_set (g := W.heap.size + 1 + 1 + 1) (grow_refl w2 _) 4 none (.slice none 0 0)
      have HGZ := Lf.hide (grow_new HG2.out hgs (by omega))
      have HZZ := Lf.hide ((hgs.block _ (lt_of_blk2 hz2) (by simp)).trans hz2)
      clear hgs hg2 hz2 hv2 hry HSQ HVQ HZQ HGQ
      go_wp2_with fail
      change bodyPost _ _ _ _ _ (set7 (w2.setCell ⟨W.heap.size + 1 + 1 + 1, 4, none⟩ (.slice none 0 0)) (W.heap.size + 1 + 1) (.int .i64 t) (.int .i64 m) (.int .i64 0) (.string ⟨#[]⟩) (.slice none 0 0) (.slice none 0 0) (.slice none 0 0))
      obtain ⟨j1, j2, j3⟩ := rd_fin (W := W) (wz := (w2.setCell ⟨W.heap.size + 1 + 1 + 1, 4, none⟩ (.slice none 0 0))) t m ⟨#[]⟩ none 0 0 HGZ.out HZZ.out
      generalize set7 (w2.setCell ⟨W.heap.size + 1 + 1 + 1, 4, none⟩ (.slice none 0 0)) (W.heap.size + 1 + 1) (.int .i64 t) (.int .i64 m) (.int .i64 0) (.string ⟨#[]⟩) (.slice none 0 0) (.slice none 0 0) (.slice none 0 0) = wf at *
      obtain ⟨z0, z1, z2, z3, z4, z5, z6⟩ := box7 j2
      refine bodyPost_ret (v := .tuple #[vaV t m 0 ⟨#[]⟩ none 0 0 none 0 0 none 0 0, .bool false]) (by simp [results, Try.results18, go_sem, z0, z1, z2, z3, z4, z5, z6, vaV]) rfl ⟨j1, _, _, _, _, _, _, _, _, _, _, _, _, _, _, rfl, ?_, ?_⟩
      · intro h; cases h
      · intro _; exact HRT.out

end Go.Proofs.Ytdninmanfncfiad
