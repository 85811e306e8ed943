import Derived.Test.YtamohjlhndedhadGreatRRRCkRead
namespace Go.Proofs.YtamohjlhndedhadGreatRRR
set_option maxRecDepth 100000
set_option maxHeartbeats 4000000
open Go.ChangeShapes Go.WideShapes Go.ChangeAt Go.RowKit
set_option linter.unusedVariables false
set_option linter.unusedSimpArgs false
theorem step_moves {W : World} {t : Tr} {i : Ins} {q : Led} {nv : Value} {sa : Option Addr} {sl sc : Nat} (hL : Lies (fun _ => True) W t nv) (hk : t.k0 ≠ 3) (hr : readF t = some i) (hp : i.p = 40 \/ i.p = 41 \/ i.p = 42 \/ i.p = 43 \/ i.p = 44)
 (hcall : ∀ (W2 : World) (ta ra da : Option Addr) (tc rc dc : Nat), W.grownBy W2 none -> RowC W2 i.types (.slice ta i.types.length tc) -> RowR W2 i.rows ra -> i.rows.length <= rc -> Lies (fun _ => True) W2 i.data (nodeV i.data.k0 i.data.n0 i.data.p0 i.data.s0 da i.data.args0.length dc) ->
  Calls Tryz.prog 32 #[insV i.p i.n ta i.types.length tc ra i.rows.length rc i.data.k0 i.data.n0 i.data.p0 i.data.s0 da i.data.args0.length dc, .slice sa sl sc] W2 (LedPost q W2)) :
 Calls Tryz.prog 24 #[nv, .slice sa sl sc] W (LedPost q W) := by
 obtain ⟨p, n, types, rows, data⟩ := i
 dsimp only at hp hcall
 obtain ⟨na, nc, VN, e1, ⟨ik, iN, ip, hss⟩, hRN⟩ := hL.invN
 rw [e1] at hL ⊢
 unfold nodeV at hL ⊢
 obtain ⟨hg3, hI3, hR3⟩ := start2 W (.cells #[.int .i64 t.k0, .int .i64 t.n0, .int .i64 t.p0, .string t.s0, .slice na t.args0.length nc] 24) (.cells #[.slice none 0 0, .bool false] 27)
 obtain ⟨m0, m1, m2, m3, m4⟩ := box5 hI3
 have HRD := jh (readI_any (hL.same (sAl hg3)))
 rw [hr] at HRD
 have hk2 : (t.k0 == 3) = false := by simpa using hk
 have HG3 := jh hg3
 have HR3 := jh hR3
 have HC := jh hcall
 generalize t.k0 = kk at *
 clear hL hRN e1 hg3 hI3 hR3 hcall hr hk
 have HGA : Hid (∀ (w1 : World) (ta ra da : Option Addr) (tc rc dc : Nat), w1.grownBy (w1.alloc (.cells #[.int .i64 p, .int .i64 n, .slice ta types.length tc, .slice ra rows.length rc, .int .i64 data.k0, .int .i64 data.n0, .int .i64 data.p0, .string data.s0, .slice da data.args0.length dc] 59)) none) := fun _ _ _ _ _ _ _ => Lf.gb _
 rcases hp with rfl | rfl | rfl | rfl | rfl
 all_goals
  go_enter Tryz.func24, Tryz.ntmps24
  go_wp2_with fail
  generalize (W.alloc _).alloc _ = W3 at *
  refine HRD.out.mono ?_; rintro e w1 ⟨hg, hcase⟩
  rcases hcase with ⟨h, _⟩ | ⟨j, ta, tc, ra, rc, da, dc, he, rfl, k1, k2, k3, k4⟩
  ·cases h
  cases he
  dsimp only at k1 k2 k3 k4 ⊢
  replace HR3 := jh (kBq HR3.out hg)
  replace HG3 := jh (Lf.gbt HG3.out hg)
  have hga := HGA.out w1 ta ra da tc rc dc
  have HC2 := jh (HC.out _ ta ra da tc rc dc (Lf.gbt HG3.out hga) (k1.grow hga) (k2.grow hga) k3 (k4.same (sAl hga)))
  unfold insV at HC2 ⊢
  clear hg k1 k2 k3 k4 hga HC HRD HGA
  go_wp2_with fail
  refine HC2.out.mono ?_
  rintro e w5 hp
  obtain ⟨a5, l5, c5, f5, er5, rfl, hS5, q0, q1, q2, HB5, HL5⟩ := led_fin hp HG3.out (Lf.gb _) HR3.out
  clear hp
  go_wp2_with fail
  exact end_led (fun w z0 z1 => by simp [results, Tryz.results24, go_sem, z0, z1]) rfl HB5.out HL5.out
theorem step_binds {W : World} {t : Tr} {i : Ins} {q : Led} {nv : Value} {sa : Option Addr} {sl sc : Nat} (hL : Lies (fun _ => True) W t nv) (hk : t.k0 ≠ 3) (hr : readF t = some i) (hp : i.p = 46 \/ i.p = 47 \/ i.p = 48 \/ i.p = 49 \/ i.p = 50 \/ i.p = 51 \/ i.p = 53 \/ i.p = 54)
 (hcall : ∀ (W2 : World) (ta ra da : Option Addr) (tc rc dc : Nat), W.grownBy W2 none -> RowC W2 i.types (.slice ta i.types.length tc) -> RowR W2 i.rows ra -> i.rows.length <= rc -> Lies (fun _ => True) W2 i.data (nodeV i.data.k0 i.data.n0 i.data.p0 i.data.s0 da i.data.args0.length dc) ->
  Calls Tryz.prog 33 #[insV i.p i.n ta i.types.length tc ra i.rows.length rc i.data.k0 i.data.n0 i.data.p0 i.data.s0 da i.data.args0.length dc, .slice sa sl sc] W2 (LedPost q W2)) :
 Calls Tryz.prog 24 #[nv, .slice sa sl sc] W (LedPost q W) := by
 obtain ⟨p, n, types, rows, data⟩ := i
 dsimp only at hp hcall
 obtain ⟨na, nc, VN, e1, ⟨ik, iN, ip, hss⟩, hRN⟩ := hL.invN
 rw [e1] at hL ⊢
 unfold nodeV at hL ⊢
 obtain ⟨hg3, hI3, hR3⟩ := start2 W (.cells #[.int .i64 t.k0, .int .i64 t.n0, .int .i64 t.p0, .string t.s0, .slice na t.args0.length nc] 24) (.cells #[.slice none 0 0, .bool false] 27)
 obtain ⟨m0, m1, m2, m3, m4⟩ := box5 hI3
 have HRD := jh (readI_any (hL.same (sAl hg3)))
 rw [hr] at HRD
 have hk2 : (t.k0 == 3) = false := by simpa using hk
 have HG3 := jh hg3
 have HR3 := jh hR3
 have HC := jh hcall
 generalize t.k0 = kk at *
 clear hL hRN e1 hg3 hI3 hR3 hcall hr hk
 have HGA : Hid (∀ (w1 : World) (ta ra da : Option Addr) (tc rc dc : Nat), w1.grownBy (w1.alloc (.cells #[.int .i64 p, .int .i64 n, .slice ta types.length tc, .slice ra rows.length rc, .int .i64 data.k0, .int .i64 data.n0, .int .i64 data.p0, .string data.s0, .slice da data.args0.length dc] 59)) none) := fun _ _ _ _ _ _ _ => Lf.gb _
 rcases hp with rfl | rfl | rfl | rfl | rfl | rfl | rfl | rfl
 all_goals
  go_enter Tryz.func24, Tryz.ntmps24
  go_wp2_with fail
  generalize (W.alloc _).alloc _ = W3 at *
  refine HRD.out.mono ?_; rintro e w1 ⟨hg, hcase⟩
  rcases hcase with ⟨h, _⟩ | ⟨j, ta, tc, ra, rc, da, dc, he, rfl, k1, k2, k3, k4⟩
  ·cases h
  cases he
  dsimp only at k1 k2 k3 k4 ⊢
  replace HR3 := jh (kBq HR3.out hg)
  replace HG3 := jh (Lf.gbt HG3.out hg)
  have hga := HGA.out w1 ta ra da tc rc dc
  have HC2 := jh (HC.out _ ta ra da tc rc dc (Lf.gbt HG3.out hga) (k1.grow hga) (k2.grow hga) k3 (k4.same (sAl hga)))
  unfold insV at HC2 ⊢
  clear hg k1 k2 k3 k4 hga HC HRD HGA
  go_wp2_with fail
  refine HC2.out.mono ?_
  rintro e w5 hp
  obtain ⟨a5, l5, c5, f5, er5, rfl, hS5, q0, q1, q2, HB5, HL5⟩ := led_fin hp HG3.out (Lf.gb _) HR3.out
  clear hp
  go_wp2_with fail
  exact end_led (fun w z0 z1 => by simp [results, Tryz.results24, go_sem, z0, z1]) rfl HB5.out HL5.out
theorem step_gathers {W : World} {t : Tr} {i : Ins} {q : Led} {nv : Value} {sa : Option Addr} {sl sc : Nat} (hL : Lies (fun _ => True) W t nv) (hk : t.k0 ≠ 3) (hr : readF t = some i) (hp : i.p = 56 \/ i.p = 57 \/ i.p = 59 \/ i.p = 61 \/ i.p = 62 \/ i.p = 63)
 (hcall : ∀ (W2 : World) (ta ra da : Option Addr) (tc rc dc : Nat), W.grownBy W2 none -> RowC W2 i.types (.slice ta i.types.length tc) -> RowR W2 i.rows ra -> i.rows.length <= rc -> Lies (fun _ => True) W2 i.data (nodeV i.data.k0 i.data.n0 i.data.p0 i.data.s0 da i.data.args0.length dc) ->
  Calls Tryz.prog 34 #[insV i.p i.n ta i.types.length tc ra i.rows.length rc i.data.k0 i.data.n0 i.data.p0 i.data.s0 da i.data.args0.length dc, .slice sa sl sc] W2 (LedPost q W2)) :
 Calls Tryz.prog 24 #[nv, .slice sa sl sc] W (LedPost q W) := by
 obtain ⟨p, n, types, rows, data⟩ := i
 dsimp only at hp hcall
 obtain ⟨na, nc, VN, e1, ⟨ik, iN, ip, hss⟩, hRN⟩ := hL.invN
 rw [e1] at hL ⊢
 unfold nodeV at hL ⊢
 obtain ⟨hg3, hI3, hR3⟩ := start2 W (.cells #[.int .i64 t.k0, .int .i64 t.n0, .int .i64 t.p0, .string t.s0, .slice na t.args0.length nc] 24) (.cells #[.slice none 0 0, .bool false] 27)
 obtain ⟨m0, m1, m2, m3, m4⟩ := box5 hI3
 have HRD := jh (readI_any (hL.same (sAl hg3)))
 rw [hr] at HRD
 have hk2 : (t.k0 == 3) = false := by simpa using hk
 have HG3 := jh hg3
 have HR3 := jh hR3
 have HC := jh hcall
 generalize t.k0 = kk at *
 clear hL hRN e1 hg3 hI3 hR3 hcall hr hk
 have HGA : Hid (∀ (w1 : World) (ta ra da : Option Addr) (tc rc dc : Nat), w1.grownBy (w1.alloc (.cells #[.int .i64 p, .int .i64 n, .slice ta types.length tc, .slice ra rows.length rc, .int .i64 data.k0, .int .i64 data.n0, .int .i64 data.p0, .string data.s0, .slice da data.args0.length dc] 59)) none) := fun _ _ _ _ _ _ _ => Lf.gb _
 rcases hp with rfl | rfl | rfl | rfl | rfl | rfl
 all_goals
  go_enter Tryz.func24, Tryz.ntmps24
  go_wp2_with fail
  generalize (W.alloc _).alloc _ = W3 at *
  refine HRD.out.mono ?_; rintro e w1 ⟨hg, hcase⟩
  rcases hcase with ⟨h, _⟩ | ⟨j, ta, tc, ra, rc, da, dc, he, rfl, k1, k2, k3, k4⟩
  ·cases h
  cases he
  dsimp only at k1 k2 k3 k4 ⊢
  replace HR3 := jh (kBq HR3.out hg)
  replace HG3 := jh (Lf.gbt HG3.out hg)
  have hga := HGA.out w1 ta ra da tc rc dc
  have HC2 := jh (HC.out _ ta ra da tc rc dc (Lf.gbt HG3.out hga) (k1.grow hga) (k2.grow hga) k3 (k4.same (sAl hga)))
  unfold insV at HC2 ⊢
  clear hg k1 k2 k3 k4 hga HC HRD HGA
  go_wp2_with fail
  refine HC2.out.mono ?_
  rintro e w5 hp
  obtain ⟨a5, l5, c5, f5, er5, rfl, hS5, q0, q1, q2, HB5, HL5⟩ := led_fin hp HG3.out (Lf.gb _) HR3.out
  clear hp
  go_wp2_with fail
  exact end_led (fun w z0 z1 => by simp [results, Tryz.results24, go_sem, z0, z1]) rfl HB5.out HL5.out
theorem step_chooses {W : World} {t : Tr} {i : Ins} {q : Led} {nv : Value} {sa : Option Addr} {sl sc : Nat} (hL : Lies (fun _ => True) W t nv) (hk : t.k0 ≠ 3) (hr : readF t = some i) (hp : i.p = 52 \/ i.p = 55 \/ i.p = 58 \/ i.p = 64)
 (hcall : ∀ (W2 : World) (ta ra da : Option Addr) (tc rc dc : Nat), W.grownBy W2 none -> RowC W2 i.types (.slice ta i.types.length tc) -> RowR W2 i.rows ra -> i.rows.length <= rc -> Lies (fun _ => True) W2 i.data (nodeV i.data.k0 i.data.n0 i.data.p0 i.data.s0 da i.data.args0.length dc) ->
  Calls Tryz.prog 35 #[insV i.p i.n ta i.types.length tc ra i.rows.length rc i.data.k0 i.data.n0 i.data.p0 i.data.s0 da i.data.args0.length dc, .slice sa sl sc] W2 (LedPost q W2)) :
 Calls Tryz.prog 24 #[nv, .slice sa sl sc] W (LedPost q W) := by
 obtain ⟨p, n, types, rows, data⟩ := i
 dsimp only at hp hcall
 obtain ⟨na, nc, VN, e1, ⟨ik, iN, ip, hss⟩, hRN⟩ := hL.invN
 rw [e1] at hL ⊢
 unfold nodeV at hL ⊢
 obtain ⟨hg3, hI3, hR3⟩ := start2 W (.cells #[.int .i64 t.k0, .int .i64 t.n0, .int .i64 t.p0, .string t.s0, .slice na t.args0.length nc] 24) (.cells #[.slice none 0 0, .bool false] 27)
 obtain ⟨m0, m1, m2, m3, m4⟩ := box5 hI3
 have HRD := jh (readI_any (hL.same (sAl hg3)))
 rw [hr] at HRD
 have hk2 : (t.k0 == 3) = false := by simpa using hk
 have HG3 := jh hg3
 have HR3 := jh hR3
 have HC := jh hcall
 generalize t.k0 = kk at *
 clear hL hRN e1 hg3 hI3 hR3 hcall hr hk
 have HGA : Hid (∀ (w1 : World) (ta ra da : Option Addr) (tc rc dc : Nat), w1.grownBy (w1.alloc (.cells #[.int .i64 p, .int .i64 n, .slice ta types.length tc, .slice ra rows.length rc, .int .i64 data.k0, .int .i64 data.n0, .int .i64 data.p0, .string data.s0, .slice da data.args0.length dc] 59)) none) := fun _ _ _ _ _ _ _ => Lf.gb _
 rcases hp with rfl | rfl | rfl | rfl
 all_goals
  go_enter Tryz.func24, Tryz.ntmps24
  go_wp2_with fail
  generalize (W.alloc _).alloc _ = W3 at *
  refine HRD.out.mono ?_; rintro e w1 ⟨hg, hcase⟩
  rcases hcase with ⟨h, _⟩ | ⟨j, ta, tc, ra, rc, da, dc, he, rfl, k1, k2, k3, k4⟩
  ·cases h
  cases he
  dsimp only at k1 k2 k3 k4 ⊢
  replace HR3 := jh (kBq HR3.out hg)
  replace HG3 := jh (Lf.gbt HG3.out hg)
  have hga := HGA.out w1 ta ra da tc rc dc
  have HC2 := jh (HC.out _ ta ra da tc rc dc (Lf.gbt HG3.out hga) (k1.grow hga) (k2.grow hga) k3 (k4.same (sAl hga)))
  unfold insV at HC2 ⊢
  clear hg k1 k2 k3 k4 hga HC HRD HGA
  go_wp2_with fail
  refine HC2.out.mono ?_
  rintro e w5 hp
  obtain ⟨a5, l5, c5, f5, er5, rfl, hS5, q0, q1, q2, HB5, HL5⟩ := led_fin hp HG3.out (Lf.gb _) HR3.out
  clear hp
  go_wp2_with fail
  exact end_led (fun w z0 z1 => by simp [results, Tryz.results24, go_sem, z0, z1]) rfl HB5.out HL5.out
theorem step_enters {W : World} {t : Tr} {i : Ins} {q : Led} {nv : Value} {sa : Option Addr} {sl sc : Nat} (hL : Lies (fun _ => True) W t nv) (hk : t.k0 ≠ 3) (hr : readF t = some i) (hp : i.p = 60 \/ i.p = 65 \/ i.p = 66 \/ i.p = 67 \/ i.p = 68)
 (hcall : ∀ (W2 : World) (ta ra da : Option Addr) (tc rc dc : Nat), W.grownBy W2 none -> RowC W2 i.types (.slice ta i.types.length tc) -> RowR W2 i.rows ra -> i.rows.length <= rc -> Lies (fun _ => True) W2 i.data (nodeV i.data.k0 i.data.n0 i.data.p0 i.data.s0 da i.data.args0.length dc) ->
  Calls Tryz.prog 36 #[insV i.p i.n ta i.types.length tc ra i.rows.length rc i.data.k0 i.data.n0 i.data.p0 i.data.s0 da i.data.args0.length dc, .slice sa sl sc] W2 (LedPost q W2)) :
 Calls Tryz.prog 24 #[nv, .slice sa sl sc] W (LedPost q W) := by
 obtain ⟨p, n, types, rows, data⟩ := i
 dsimp only at hp hcall
 obtain ⟨na, nc, VN, e1, ⟨ik, iN, ip, hss⟩, hRN⟩ := hL.invN
 rw [e1] at hL ⊢
 unfold nodeV at hL ⊢
 obtain ⟨hg3, hI3, hR3⟩ := start2 W (.cells #[.int .i64 t.k0, .int .i64 t.n0, .int .i64 t.p0, .string t.s0, .slice na t.args0.length nc] 24) (.cells #[.slice none 0 0, .bool false] 27)
 obtain ⟨m0, m1, m2, m3, m4⟩ := box5 hI3
 have HRD := jh (readI_any (hL.same (sAl hg3)))
 rw [hr] at HRD
 have hk2 : (t.k0 == 3) = false := by simpa using hk
 have HG3 := jh hg3
 have HR3 := jh hR3
 have HC := jh hcall
 generalize t.k0 = kk at *
 clear hL hRN e1 hg3 hI3 hR3 hcall hr hk
 have HGA : Hid (∀ (w1 : World) (ta ra da : Option Addr) (tc rc dc : Nat), w1.grownBy (w1.alloc (.cells #[.int .i64 p, .int .i64 n, .slice ta types.length tc, .slice ra rows.length rc, .int .i64 data.k0, .int .i64 data.n0, .int .i64 data.p0, .string data.s0, .slice da data.args0.length dc] 59)) none) := fun _ _ _ _ _ _ _ => Lf.gb _
 rcases hp with rfl | rfl | rfl | rfl | rfl
 all_goals
  go_enter Tryz.func24, Tryz.ntmps24
  go_wp2_with fail
  generalize (W.alloc _).alloc _ = W3 at *
  refine HRD.out.mono ?_; rintro e w1 ⟨hg, hcase⟩
  rcases hcase with ⟨h, _⟩ | ⟨j, ta, tc, ra, rc, da, dc, he, rfl, k1, k2, k3, k4⟩
  ·cases h
  cases he
  dsimp only at k1 k2 k3 k4 ⊢
  replace HR3 := jh (kBq HR3.out hg)
  replace HG3 := jh (Lf.gbt HG3.out hg)
  have hga := HGA.out w1 ta ra da tc rc dc
  have HC2 := jh (HC.out _ ta ra da tc rc dc (Lf.gbt HG3.out hga) (k1.grow hga) (k2.grow hga) k3 (k4.same (sAl hga)))
  unfold insV at HC2 ⊢
  clear hg k1 k2 k3 k4 hga HC HRD HGA
  go_wp2_with fail
  refine HC2.out.mono ?_
  rintro e w5 hp
  obtain ⟨a5, l5, c5, f5, er5, rfl, hS5, q0, q1, q2, HB5, HL5⟩ := led_fin hp HG3.out (Lf.gb _) HR3.out
  clear hp
  go_wp2_with fail
  exact end_led (fun w z0 z1 => by simp [results, Tryz.results24, go_sem, z0, z1]) rfl HB5.out HL5.out
theorem step_reckons {W : World} {t : Tr} {i : Ins} {q : Led} {nv : Value} {sa : Option Addr} {sl sc : Nat} (hL : Lies (fun _ => True) W t nv) (hk : t.k0 ≠ 3) (hr : readF t = some i) (hp : i.p = 69 \/ i.p = 70 \/ i.p = 71 \/ i.p = 72 \/ i.p = 93 \/ i.p = 94 \/ i.p = 95)
 (hcall : ∀ (W2 : World) (ta ra da : Option Addr) (tc rc dc : Nat), W.grownBy W2 none -> RowC W2 i.types (.slice ta i.types.length tc) -> RowR W2 i.rows ra -> i.rows.length <= rc -> Lies (fun _ => True) W2 i.data (nodeV i.data.k0 i.data.n0 i.data.p0 i.data.s0 da i.data.args0.length dc) ->
  Calls Tryz.prog 37 #[insV i.p i.n ta i.types.length tc ra i.rows.length rc i.data.k0 i.data.n0 i.data.p0 i.data.s0 da i.data.args0.length dc, .slice sa sl sc] W2 (LedPost q W2)) :
 Calls Tryz.prog 24 #[nv, .slice sa sl sc] W (LedPost q W) := by
 obtain ⟨p, n, types, rows, data⟩ := i
 dsimp only at hp hcall
 obtain ⟨na, nc, VN, e1, ⟨ik, iN, ip, hss⟩, hRN⟩ := hL.invN
 rw [e1] at hL ⊢
 unfold nodeV at hL ⊢
 obtain ⟨hg3, hI3, hR3⟩ := start2 W (.cells #[.int .i64 t.k0, .int .i64 t.n0, .int .i64 t.p0, .string t.s0, .slice na t.args0.length nc] 24) (.cells #[.slice none 0 0, .bool false] 27)
 obtain ⟨m0, m1, m2, m3, m4⟩ := box5 hI3
 have HRD := jh (readI_any (hL.same (sAl hg3)))
 rw [hr] at HRD
 have hk2 : (t.k0 == 3) = false := by simpa using hk
 have HG3 := jh hg3
 have HR3 := jh hR3
 have HC := jh hcall
 generalize t.k0 = kk at *
 clear hL hRN e1 hg3 hI3 hR3 hcall hr hk
 have HGA : Hid (∀ (w1 : World) (ta ra da : Option Addr) (tc rc dc : Nat), w1.grownBy (w1.alloc (.cells #[.int .i64 p, .int .i64 n, .slice ta types.length tc, .slice ra rows.length rc, .int .i64 data.k0, .int .i64 data.n0, .int .i64 data.p0, .string data.s0, .slice da data.args0.length dc] 59)) none) := fun _ _ _ _ _ _ _ => Lf.gb _
 rcases hp with rfl | rfl | rfl | rfl | rfl | rfl | rfl
 all_goals
  go_enter Tryz.func24, Tryz.ntmps24
  go_wp2_with fail
  generalize (W.alloc _).alloc _ = W3 at *
  refine HRD.out.mono ?_; rintro e w1 ⟨hg, hcase⟩
  rcases hcase with ⟨h, _⟩ | ⟨j, ta, tc, ra, rc, da, dc, he, rfl, k1, k2, k3, k4⟩
  ·cases h
  cases he
  dsimp only at k1 k2 k3 k4 ⊢
  replace HR3 := jh (kBq HR3.out hg)
  replace HG3 := jh (Lf.gbt HG3.out hg)
  have hga := HGA.out w1 ta ra da tc rc dc
  have HC2 := jh (HC.out _ ta ra da tc rc dc (Lf.gbt HG3.out hga) (k1.grow hga) (k2.grow hga) k3 (k4.same (sAl hga)))
  unfold insV at HC2 ⊢
  clear hg k1 k2 k3 k4 hga HC HRD HGA
  go_wp2_with fail
  refine HC2.out.mono ?_
  rintro e w5 hp
  obtain ⟨a5, l5, c5, f5, er5, rfl, hS5, q0, q1, q2, HB5, HL5⟩ := led_fin hp HG3.out (Lf.gb _) HR3.out
  clear hp
  go_wp2_with fail
  exact end_led (fun w z0 z1 => by simp [results, Tryz.results24, go_sem, z0, z1]) rfl HB5.out HL5.out
theorem step_asks {W : World} {t : Tr} {i : Ins} {q : Led} {nv : Value} {sa : Option Addr} {sl sc : Nat} (hL : Lies (fun _ => True) W t nv) (hk : t.k0 ≠ 3) (hr : readF t = some i) (hp : i.p = 73 \/ i.p = 74 \/ i.p = 75 \/ i.p = 76 \/ i.p = 77 \/ i.p = 78 \/ i.p = 79)
 (hcall : ∀ (W2 : World) (ta ra da : Option Addr) (tc rc dc : Nat), W.grownBy W2 none -> RowC W2 i.types (.slice ta i.types.length tc) -> RowR W2 i.rows ra -> i.rows.length <= rc -> Lies (fun _ => True) W2 i.data (nodeV i.data.k0 i.data.n0 i.data.p0 i.data.s0 da i.data.args0.length dc) ->
  Calls Tryz.prog 38 #[insV i.p i.n ta i.types.length tc ra i.rows.length rc i.data.k0 i.data.n0 i.data.p0 i.data.s0 da i.data.args0.length dc, .slice sa sl sc] W2 (LedPost q W2)) :
 Calls Tryz.prog 24 #[nv, .slice sa sl sc] W (LedPost q W) := by
 obtain ⟨p, n, types, rows, data⟩ := i
 dsimp only at hp hcall
 obtain ⟨na, nc, VN, e1, ⟨ik, iN, ip, hss⟩, hRN⟩ := hL.invN
 rw [e1] at hL ⊢
 unfold nodeV at hL ⊢
 obtain ⟨hg3, hI3, hR3⟩ := start2 W (.cells #[.int .i64 t.k0, .int .i64 t.n0, .int .i64 t.p0, .string t.s0, .slice na t.args0.length nc] 24) (.cells #[.slice none 0 0, .bool false] 27)
 obtain ⟨m0, m1, m2, m3, m4⟩ := box5 hI3
 have HRD := jh (readI_any (hL.same (sAl hg3)))
 rw [hr] at HRD
 have hk2 : (t.k0 == 3) = false := by simpa using hk
 have HG3 := jh hg3
 have HR3 := jh hR3
 have HC := jh hcall
 generalize t.k0 = kk at *
 clear hL hRN e1 hg3 hI3 hR3 hcall hr hk
 have HGA : Hid (∀ (w1 : World) (ta ra da : Option Addr) (tc rc dc : Nat), w1.grownBy (w1.alloc (.cells #[.int .i64 p, .int .i64 n, .slice ta types.length tc, .slice ra rows.length rc, .int .i64 data.k0, .int .i64 data.n0, .int .i64 data.p0, .string data.s0, .slice da data.args0.length dc] 59)) none) := fun _ _ _ _ _ _ _ => Lf.gb _
 rcases hp with rfl | rfl | rfl | rfl | rfl | rfl | rfl
 all_goals
  go_enter Tryz.func24, Tryz.ntmps24
  go_wp2_with fail
  generalize (W.alloc _).alloc _ = W3 at *
  refine HRD.out.mono ?_; rintro e w1 ⟨hg, hcase⟩
  rcases hcase with ⟨h, _⟩ | ⟨j, ta, tc, ra, rc, da, dc, he, rfl, k1, k2, k3, k4⟩
  ·cases h
  cases he
  dsimp only at k1 k2 k3 k4 ⊢
  replace HR3 := jh (kBq HR3.out hg)
  replace HG3 := jh (Lf.gbt HG3.out hg)
  have hga := HGA.out w1 ta ra da tc rc dc
  have HC2 := jh (HC.out _ ta ra da tc rc dc (Lf.gbt HG3.out hga) (k1.grow hga) (k2.grow hga) k3 (k4.same (sAl hga)))
  unfold insV at HC2 ⊢
  clear hg k1 k2 k3 k4 hga HC HRD HGA
  go_wp2_with fail
  refine HC2.out.mono ?_
  rintro e w5 hp
  obtain ⟨a5, l5, c5, f5, er5, rfl, hS5, q0, q1, q2, HB5, HL5⟩ := led_fin hp HG3.out (Lf.gb _) HR3.out
  clear hp
  go_wp2_with fail
  exact end_led (fun w z0 z1 => by simp [results, Tryz.results24, go_sem, z0, z1]) rfl HB5.out HL5.out
end Go.Proofs.YtamohjlhndedhadGreatRRR
