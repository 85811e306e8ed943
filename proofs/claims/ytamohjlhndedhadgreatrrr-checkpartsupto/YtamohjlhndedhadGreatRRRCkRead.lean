import Derived.Test.YtamohjlhndedhadGreatRRRCkTakeT
import Derived.Test.YtamohjlhndedhadGreatRRRZk
namespace Go.Proofs.YtamohjlhndedhadGreatRRR
set_option maxRecDepth 100000
set_option maxHeartbeats 4000000
open Go.ChangeShapes Go.WideShapes Go.ChangeAt Go.RowKit
set_option linter.unusedVariables false
set_option linter.unusedSimpArgs false
theorem u8_ne {f : UInt8} {k : Nat} (hk : k < 256) (h : f ≠ UInt8.ofNat k) : (f.toNat : Int) ≠ (k : Int) := fun e => h (by
 have e2 : f.toNat = k := by omega
 rw [← e2, UInt8.ofNat_toNat])
theorem take_any {WB W : World} {ib : Nat} {i : Ins} {t : Tr} {nv : Value} (f : UInt8) (hI : InsIs WB W ib i) (hL : Lies (· + 1 < ib) WB t nv) (htl : i.types.length <= 1000) (hrl : i.rows.length <= 1000) :
 Calls Tryz.prog 51 #[.pointer (some ⟨ib, 0, none⟩), .int .u8 (f.toNat : Int), nv] W (TakePost WB ib i f t) := by
 by_cases h1 : f = 110
 ·subst h1; exact takeI_n hI hL
 ·by_cases h2 : f = 116
  ·subst h2; exact take_t (.inl ⟨rfl, rfl⟩) hI hL htl hrl
  ·by_cases h3 : f = 117
   ·subst h3; exact take_t (.inr ⟨rfl, rfl⟩) hI hL htl hrl
   ·by_cases h4 : f = 99
    ·subst h4; exact take_c (.inl ⟨rfl, rfl⟩) hI hL htl hrl
    ·by_cases h5 : f = 100
     ·subst h5; exact take_c (.inr ⟨rfl, rfl⟩) hI hL htl hrl
     ·exact take_v ⟨h1, by simp [h2, h3], by simp [h4, h5]⟩ hI hL ⟨u8_ne (k := 110) (by decide) h1, u8_ne (k := 116) (by decide) h2, u8_ne (k := 117) (by decide) h3, u8_ne (k := 99) (by decide) h4, u8_ne (k := 100) (by decide) h5⟩ htl hrl
theorem takeF_len {i j : Ins} {f : UInt8} {t : Tr} (h : takeF i f t = some j) : j.types.length <= i.types.length + 1 /\ j.rows.length <= i.rows.length + 1 := by
 unfold takeF at h
 split at h
 ·split at h
  ·cases h; exact ⟨Nat.le_succ _, Nat.le_succ _⟩
  ·cases h
 ·split at h
  ·split at h
   ·cases h; simp
   ·cases h
  ·split at h
   ·split at h
    ·cases h; simp
    ·cases h
   ·cases h; exact ⟨Nat.le_succ _, Nat.le_succ _⟩
def InsPost (r : Option Ins) (W : World) (e : Ending) (w' : World) : Prop :=
 W.grownBy w' none /\ ((r = none /\ e = .returned (.tuple #[insV 0 0 none 0 0 none 0 0 0 0 0 ⟨#[]⟩ none 0 0, .bool false])) \/ ∃ i ta tc ra rc da dc, r = some i /\ e = .returned (.tuple #[insV i.p i.n ta i.types.length tc ra i.rows.length rc i.data.k0 i.data.n0 i.data.p0 i.data.s0 da i.data.args0.length dc, .bool true]) /\
  RowC w' i.types (.slice ta i.types.length tc) /\ RowR w' i.rows ra /\ i.rows.length <= rc /\ Lies (fun _ => True) w' i.data (nodeV i.data.k0 i.data.n0 i.data.p0 i.data.s0 da i.data.args0.length dc))
def set9 (w : World) (g : Nat) (y0 y1 y2 y3 y4 y5 y6 y7 y8 : Value) : World := ((((((((w.setCell ⟨g, 0, none⟩ y0).setCell ⟨g, 1, none⟩ y1).setCell ⟨g, 2, none⟩ y2).setCell ⟨g, 3, none⟩ y3).setCell ⟨g, 4, none⟩ y4).setCell ⟨g, 5, none⟩ y5).setCell ⟨g, 6, none⟩ y6).setCell ⟨g, 7, none⟩ y7).setCell ⟨g, 8, none⟩ y8
theorem set9_block {w : World} {g : Nat} {T : TypeId} {x0 x1 x2 x3 x4 x5 x6 x7 x8 : Value} (h : w.heap[g]? = some (.cells #[x0, x1, x2, x3, x4, x5, x6, x7, x8] T (0, 0))) (y0 y1 y2 y3 y4 y5 y6 y7 y8 : Value) : (set9 w g y0 y1 y2 y3 y4 y5 y6 y7 y8).heap[g]? = some (.cells #[y0, y1, y2, y3, y4, y5, y6, y7, y8] T (0, 0)) := by
 simp [set9, World.setCell, Array.getElem?_modify, h]
theorem set9_grow (w : World) (g : Nat) (y0 y1 y2 y3 y4 y5 y6 y7 y8 : Value) : w.grownBy (set9 w g y0 y1 y2 y3 y4 y5 y6 y7 y8) (some g) :=
 grow_set (grow_set (grow_set (grow_set (grow_set (grow_set (grow_set (grow_set (grow_set (gRf w (some g)) 0 none y0) 1 none y1) 2 none y2) 3 none y3) 4 none y4) 5 none y5) 6 none y6) 7 none y7) 8 none y8
theorem grow_newR {w w1 w2 : World} {b : Nat} (h : w.grownBy w1 none) (hg : w1.grownBy w2 (some b)) (hb : w.heap.size <= b) : w.grownBy w2 none :=
 ⟨hg.os.trans h.os, hg.tape.trans h.tape, hg.output.trans h.output, Nat.le_trans h.size hg.size, fun k hk hr => (hg.block k (Nat.lt_of_lt_of_le hk h.size) (by simp; omega)).trans (h.block k hk hr)⟩
theorem takesF_drop {i j : Ins} {fs : List UInt8} {l : List Tr} {k : Nat} (h1 : k < fs.length) (h2 : k < l.length) : takesF i (fs.drop k) (l.drop k) = match takeF i fs[k] l[k] with
 | none => none
 | some j => takesF j (fs.drop (k + 1)) (l.drop (k + 1)) := by
 rw [List.drop_eq_getElem_cons h1, List.drop_eq_getElem_cons h2]
 rfl
theorem readI_loop {W : World} {t : Tr} {nv : Value} (hL : Lies (fun _ => True) W t nv) (h1 : t.k0 = 2) (h2 : 40 <= t.p0) (h3 : t.args0.length = (formsF t.p0).length) :
 Calls Tryz.prog 31 #[nv] W (InsPost (takesF ⟨t.p0, 0, [], [], tr0⟩ (formsF t.p0) t.args0) W) := by
 obtain ⟨na, nc, VN, e1, ⟨ik, iN, ip, hss⟩, hRN⟩ := hL.invN
 rw [e1]
 unfold nodeV
 have hfl : t.args0.length <= 3 := by rw [h3]; unfold formsF; split <;> (try split) <;> (try split) <;> (try split) <;> (try split) <;> (try split) <;> (try split) <;> simp
 have hsz : (ByteArray.mk (formsF t.p0).toArray).size = t.args0.length := by rw [h3]; simp [ByteArray.size]
 obtain ⟨hg3, hI3, hR3, hK3⟩ := start3 W (.cells #[.int .i64 2, .int .i64 t.n0, .int .i64 t.p0, .string t.s0, .slice na t.args0.length nc] 24) (.cells #[.int .i64 0, .int .i64 0, .slice none 0 0, .slice none 0 0, .int .i64 0, .int .i64 0, .int .i64 0, .string ⟨#[]⟩, .slice none 0 0] 59) (.cells #[.int .i64 t.p0, .int .i64 0, .slice none 0 0, .slice none 0 0, .int .i64 0, .int .i64 0, .int .i64 0, .string ⟨#[]⟩, .slice none 0 0] 59)
 have hWB : (((W.alloc (.cells #[.int .i64 2, .int .i64 t.n0, .int .i64 t.p0, .string t.s0, .slice na t.args0.length nc] 24)).alloc (.cells #[.int .i64 0, .int .i64 0, .slice none 0 0, .slice none 0 0, .int .i64 0, .int .i64 0, .int .i64 0, .string ⟨#[]⟩, .slice none 0 0] 59)).alloc (.cells #[.int .i64 t.p0, .int .i64 0, .slice none 0 0, .slice none 0 0, .int .i64 0, .int .i64 0, .int .i64 0, .string ⟨#[]⟩, .slice none 0 0] 59)).heap.size = W.heap.size + 1 + 1 + 1 := by simp
 have HNB : Hid (RowN (· + 1 < W.heap.size + 1 + 1) _ t.args0 na VN) := ((hRN.okMono (ok' := (· < W.heap.size)) (fun b hb _ => hb)).same (fun b o hb _ => World.cell?_of_block (hg3.block b hb (by simp)))).okMono (fun b _ hb => by have : b < W.heap.size := hb; show b + 1 < _; omega)
 have HI0 : Hid (InsIs _ _ (W.heap.size + 1 + 1) ⟨t.p0, 0, [], [], tr0⟩) := ⟨.slice none 0 0, .slice none 0 0, [], [], none, 0, hK3, ⟨gRf _ _, by rw [hWB]; omega, World.ownsRow_nil _ _ _ _, rfl, fun k t u h => by simp at h, World.ownsRow_nil _ _ _ _, rfl, fun k t u h => by simp at h⟩, Lies.mk (fun _ => .int .i64 0) (Nat.zero_le _) (Nat.zero_le _) ⟨by decide, by decide⟩ ⟨by decide, by decide⟩ ⟨by decide, by decide⟩ (fun i hi => by cases hi) (fun i hi => by cases hi)⟩
 have HG3 := jh hg3
 have HR3 := jh hR3
 have HWB := jh hWB
 have hp40 : ¬ t.p0 < 40 := by omega
 have h3r : (formsF t.p0).length = t.args0.length := h3.symm
 obtain ⟨q, hq⟩ : ∃ q, q = takesF ⟨t.p0, 0, [], [], tr0⟩ (formsF t.p0) t.args0 := ⟨_, rfl⟩
 rw [← hq]
 have HQ := jh hq
 generalize t.k0 = kk at *
 subst h1
 clear hq hL hRN hg3 hI3 hR3 hK3 hWB h3 e1 h2
 go_enter Tryz.func31, Tryz.ntmps31
 go_wp2_with fail
 refine (formsOf_any _ _).mono ?_; rintro e w1 ⟨rfl, rfl⟩
 go_wp2_with fail
 generalize ((W.alloc _).alloc _).alloc _ = WB at *
 go_loopw [34] (fun iv wr => ∃ (j : Nat) (i : Ins), j <= t.args0.length /\ iv = .int .i64 j /\ InsIs WB wr (W.heap.size + 1 + 1) i /\ i.types.length <= j /\ i.rows.length <= j /\ q = takesF i ((formsF t.p0).drop j) (t.args0.drop j)) (fun iv _ => t.args0.length - (intOf iv).toNat)
 case atStart => exact ⟨0, _, Nat.zero_le _, rfl, HI0.out, Nat.le_refl _, Nat.le_refl _, HQ.out⟩
 case round =>
  obtain ⟨j, i, hj, rfl, hI, htl, hrl, hqj⟩ := hrel
  have hgB : WB.grownBy wr (some (W.heap.size + 1 + 1)) := by obtain ⟨_, _, _, _, _, _, _, hm, _⟩ := hI; exact hm.grow
  have hR := (hgB.block _ (Array.getElem?_eq_some_iff.1 HR3.out).1 (by simp)).trans HR3.out
  have HQJ := jh hqj
  have HGB := jh hgB
  clear hqj HI0 HQ
  by_cases hlt : j < t.args0.length
  ·obtain ⟨b, o, rfl, hb1, k', n', p', s', a', l', c', hv, y0, y1, y2, y3, y4⟩ := HNB.out.2.1 j hlt
   have hLj := HNB.out.2.2 j hlt
   rw [hv] at hLj
   have hfj : j < (formsF t.p0).length := by omega
   have hji : (j : Int) < (t.args0.length : Int) := by omega
   have hkeep : ∀ {o : Nat} {v : Value}, WB.cell? ⟨b, o, none⟩ = some v -> wr.cell? ⟨b, o, none⟩ = some v := fun {o v} h => (World.cell?_of_block (hgB.block b (World.block_lt_of_cell? WB _ h) (by have h1 : b + 1 < W.heap.size + 1 + 1 := hb1; simp; omega))).trans h
   have z0 := hkeep y0
   have z1 := hkeep y1
   have z2 := hkeep y2
   have z3 := hkeep y3
   have z4 := hkeep y4
   have hgn := Lf.gb (w := wr) (.cells #[.int .i64 k', .int .i64 n', .int .i64 p', .string s', .slice a' l' c'] 24)
   have hbn := heap_alloc_new wr (.cells #[.int .i64 k', .int .i64 n', .int .i64 p', .string s', .slice a' l' c'] 24)
   have hgd : (wr.alloc (.cells #[.int .i64 k', .int .i64 n', .int .i64 p', .string s', .slice a' l' c'] 24)).grownBy (wr.alloc (.cells #[.int .i64 k', .int .i64 n', .int .i64 p', .string s', .slice a' l' c'] 24)).drew none := gDr (gRf _ _)
   obtain ⟨n0, n1, n2, n3, n4⟩ := box5 (kBq hbn hgd)
   have HT := jh (take_any ((formsF t.p0)[j]'hfj) (hI.call (Lf.gbt hgn hgd)) hLj (by omega) (by omega))
   have HNX := jh (takesF_drop (i := i) (j := i) hfj hlt)
   have hTr : True := trivial
   have hix : (ByteArray.mk (formsF t.p0).toArray).data[j]? = some ((formsF t.p0)[j]'hfj) := by simp [hfj]
   clear hI hLj hgn hbn hgd hgB hR hkeep y0 y1 y2 y3 y4
   go_wp2_with fail
   refine wp_region_held_drew (S := fun _ => True) (by kernel_rfl) ?_ (fun hHeld => ?_)
   ·trivial
   generalize (wr.alloc _).drew = w5 at *
   refine rGq 0 39 ?_
   simp only [Act.put, pS]
   refine rGq 1 40 ?_
   simp only [Act.put, pS]
   refine rGq 2 41 ?_
   simp only [Act.put, pS]
   refine wpAnyH_ready (rs := [3]) (by kernel_rfl) (by simp) ?_
   refine AllReadyH.cons rfl (fun K hK => ?_) AllReadyH.nil
   go_simp
   refine hK.out _ _ trivial (fun _ => ?_)
   clear hK K
   refine wpAnyH_ready (rs := [4]) (by kernel_rfl) (by simp) ?_
   refine AllReadyH.cons rfl (fun K hK => ?_) AllReadyH.nil
   go_simp
   go_at_call 51
   refine HT.out.mono ?_; rintro e w6 ⟨ok, rfl, hg6, hcase⟩
   refine hK.out _ _ trivial (fun _ => ?_)
   clear hK K HT
   refine rGq 5 44 ?_
   simp only [Act.put, pS]
   refine wpAnyH_done (by kernel_rfl) ?_ _
   rcases hcase with ⟨rfl, hno⟩ | ⟨rfl, i2, hyes, hI2⟩
   ·have hqn : q = none := by rw [HQJ.out, HNX.out, hno]
    subst hqn
    have hR6 := (hg6.block _ (Array.getElem?_eq_some_iff.1 HR3.out).1 (by simp)).trans HR3.out
    obtain ⟨r0, r1, r2, r3, r4, r5, r6, r7, r8⟩ := box9 hR6
    have rf := free9 hR6
    have HR6 := jh hR6
    have HGW := jh (grow_newR HG3.out hg6 (by omega))
    clear hR6 hg6 hno HNX HQJ n0 n1 n2 n3 n4 z0 z1 z2 z3 z4
    go_wp2_with fail
    change bodyPost _ _ _ _ _ (set9 w6 (W.heap.size + 1) (.int .i64 0) (.int .i64 0) (.slice none 0 0) (.slice none 0 0) (.int .i64 0) (.int .i64 0) (.int .i64 0) (.string ⟨#[]⟩) (.slice none 0 0))
    have hb' := set9_block HR6.out (.int .i64 0) (.int .i64 0) (.slice none 0 0) (.slice none 0 0) (.int .i64 0) (.int .i64 0) (.int .i64 0) (.string ⟨#[]⟩) (.slice none 0 0)
    have hg' := grow_newR HGW.out (set9_grow w6 (W.heap.size + 1) (.int .i64 0) (.int .i64 0) (.slice none 0 0) (.slice none 0 0) (.int .i64 0) (.int .i64 0) (.int .i64 0) (.string ⟨#[]⟩) (.slice none 0 0)) (Nat.le_succ _)
    generalize set9 w6 (W.heap.size + 1) _ _ _ _ _ _ _ _ _ = wf at *
    obtain ⟨s0, s1, s2, s3, s4, s5, s6, s7, s8⟩ := box9 hb'
    exact bodyPost_ret (v := .tuple #[insV 0 0 none 0 0 none 0 0 0 0 0 ⟨#[]⟩ none 0 0, .bool false]) (by simp [results, Tryz.results31, go_sem, s0, s1, s2, s3, s4, s5, s6, s7, s8, insV]) rfl ⟨hg', .inl ⟨rfl, rfl⟩⟩
   ·have HI2 := jh hI2
    have HL2 := jh (takeF_len hyes)
    have hqs : q = takesF i2 ((formsF t.p0).drop (j + 1)) (t.args0.drop (j + 1)) := by rw [HQJ.out, HNX.out, hyes]
    have HQS := jh hqs
    clear hqs hI2 hyes hg6 HNX HQJ n0 n1 n2 n3 n4 z0 z1 z2 z3 z4
    go_wp2_with fail
    go_roundw
    case rel => exact ⟨j + 1, i2, by omega, by go_num, HI2.out, by have := HL2.out; omega, by have := HL2.out; omega, HQS.out⟩
    case measure => simp [intOf]; omega
  ·have hji : ¬ (j : Int) < (t.args0.length : Int) := by omega
   have hqs : q = some i := by
    rw [HQJ.out, List.drop_of_length_le (by omega), List.drop_of_length_le (by omega)]
    rfl
   subst hqs
   obtain ⟨ta, tc, ra, rc, da, dc, hib, _⟩ := hI.done (gRf wr (some (W.heap.size + 1))) rfl
   have HI := jh hI
   obtain ⟨v0, v1, v2, v3, v4, v5, v6, v7, v8⟩ := box9 hib
   obtain ⟨r0, r1, r2, r3, r4, r5, r6, r7, r8⟩ := box9 hR
   have rf := free9 hR
   have HR := jh hR
   have HIB := jh hib
   clear hib hR hI HQJ hgB
   go_wp2_with fail
   change bodyPost _ _ _ _ _ (set9 wr (W.heap.size + 1) (.int .i64 i.p) (.int .i64 i.n) (.slice ta i.types.length tc) (.slice ra i.rows.length rc) (.int .i64 i.data.k0) (.int .i64 i.data.n0) (.int .i64 i.data.p0) (.string i.data.s0) (.slice da i.data.args0.length dc))
   have hb' := set9_block HR.out (.int .i64 i.p) (.int .i64 i.n) (.slice ta i.types.length tc) (.slice ra i.rows.length rc) (.int .i64 i.data.k0) (.int .i64 i.data.n0) (.int .i64 i.data.p0) (.string i.data.s0) (.slice da i.data.args0.length dc)
   have hgs := set9_grow wr (W.heap.size + 1) (.int .i64 i.p) (.int .i64 i.n) (.slice ta i.types.length tc) (.slice ra i.rows.length rc) (.int .i64 i.data.k0) (.int .i64 i.data.n0) (.int .i64 i.data.p0) (.string i.data.s0) (.slice da i.data.args0.length dc)
   have hg' := grow_newR (grow_newR HG3.out HGB.out (by omega)) hgs (Nat.le_succ _)
   obtain ⟨ta', tc', ra', rc', da', dc', hib', k1, k2, k3, k4⟩ := HI.out.done hgs rfl
   have heq := HIB.out.symm.trans hib'
   simp only [Option.some.injEq, Obj.cells.injEq, Array.mk.injEq, List.cons.injEq, Value.slice.injEq, true_and, and_true] at heq
   obtain ⟨⟨rfl, rfl⟩, ⟨rfl, rfl⟩, ⟨rfl, rfl⟩⟩ := heq
   generalize set9 wr (W.heap.size + 1) _ _ _ _ _ _ _ _ _ = wf at *
   obtain ⟨s0, s1, s2, s3, s4, s5, s6, s7, s8⟩ := box9 hb'
   exact bodyPost_ret (v := .tuple #[insV i.p i.n ta i.types.length tc ra i.rows.length rc i.data.k0 i.data.n0 i.data.p0 i.data.s0 da i.data.args0.length dc, .bool true]) (by simp [results, Tryz.results31, go_sem, s0, s1, s2, s3, s4, s5, s6, s7, s8, insV]) rfl ⟨hg', .inr ⟨i, ta, tc, ra, rc, da, dc, rfl, rfl, k1, k2, k3, k4⟩⟩
theorem readI_no {W : World} {t : Tr} {nv : Value} (hL : Lies (fun _ => True) W t nv) (h : ¬ (t.k0 = 2 /\ 40 <= t.p0 /\ t.args0.length = (formsF t.p0).length)) :
 Calls Tryz.prog 31 #[nv] W (InsPost none W) := by
 obtain ⟨na, nc, VN, e1, ⟨ik, iN, ip, hss⟩, hRN⟩ := hL.invN
 rw [e1]
 unfold nodeV
 obtain ⟨hg3, hI3, hR3⟩ := start2 W (.cells #[.int .i64 t.k0, .int .i64 t.n0, .int .i64 t.p0, .string t.s0, .slice na t.args0.length nc] 24) (.cells #[.int .i64 0, .int .i64 0, .slice none 0 0, .slice none 0 0, .int .i64 0, .int .i64 0, .int .i64 0, .string ⟨#[]⟩, .slice none 0 0] 59)
 obtain ⟨m0, m1, m2, m3, m4⟩ := box5 hI3
 obtain ⟨r0, r1, r2, r3, r4, r5, r6, r7, r8⟩ := box9 hR3
 have rf := free9 hR3
 have HG3 := jh hg3
 have HR3 := jh hR3
 have hfl : (formsF t.p0).length <= 3 := by unfold formsF; split <;> (try split) <;> (try split) <;> (try split) <;> (try split) <;> (try split) <;> (try split) <;> simp
 have hal : t.args0.length <= 9223372036854775807 := by have := hRN.1; unfold maxLen at this; omega
 clear hL hRN e1 hg3 hI3 hR3
 generalize t.k0 = kk at *
 generalize t.p0 = pp at *
 by_cases h1 : kk = 2
 ·subst h1
  by_cases h2 : pp < 40
  ·go_enter Tryz.func31, Tryz.ntmps31
   go_wp2_with fail
   refine (formsOf_any _ _).mono ?_; rintro e w1 ⟨rfl, rfl⟩
   go_wp2_with fail
   generalize (W.alloc _).alloc _ = w6 at *
   obtain ⟨s0, s1, s2, s3, s4, s5, s6, s7, s8⟩ := box9 HR3.out
   exact bodyPost_ret (v := .tuple #[insV 0 0 none 0 0 none 0 0 0 0 0 ⟨#[]⟩ none 0 0, .bool false]) (by simp [results, Tryz.results31, go_sem, s0, s1, s2, s3, s4, s5, s6, s7, s8, insV]) rfl ⟨HG3.out, .inl ⟨rfl, rfl⟩⟩
  ·have h3 : ((t.args0.length : Int) != ((formsF pp).length : Int)) = true := by simp; omega
   have h4 : ¬ (t.args0.length : Int) = ((formsF pp).length : Int) := by omega
   have h5 : ¬ t.args0.length = (formsF pp).length := by omega
   clear h
   go_enter Tryz.func31, Tryz.ntmps31
   go_wp2_with fail
   refine (formsOf_any _ _).mono ?_; rintro e w1 ⟨rfl, rfl⟩
   go_wp2_with fail
   generalize (W.alloc _).alloc _ = w6 at *
   obtain ⟨s0, s1, s2, s3, s4, s5, s6, s7, s8⟩ := box9 HR3.out
   exact bodyPost_ret (v := .tuple #[insV 0 0 none 0 0 none 0 0 0 0 0 ⟨#[]⟩ none 0 0, .bool false]) (by simp [results, Tryz.results31, go_sem, s0, s1, s2, s3, s4, s5, s6, s7, s8, insV]) rfl ⟨HG3.out, .inl ⟨rfl, rfl⟩⟩
 ·have h2 : (kk != 2) = true := by simpa using h1
  clear h
  go_enter Tryz.func31, Tryz.ntmps31
  go_wp2_with fail
  refine (formsOf_any _ _).mono ?_; rintro e w1 ⟨rfl, rfl⟩
  go_wp2_with fail
  generalize (W.alloc _).alloc _ = w6 at *
  obtain ⟨s0, s1, s2, s3, s4, s5, s6, s7, s8⟩ := box9 HR3.out
  exact bodyPost_ret (v := .tuple #[insV 0 0 none 0 0 none 0 0 0 0 0 ⟨#[]⟩ none 0 0, .bool false]) (by simp [results, Tryz.results31, go_sem, s0, s1, s2, s3, s4, s5, s6, s7, s8, insV]) rfl ⟨HG3.out, .inl ⟨rfl, rfl⟩⟩
theorem readI_any {W : World} {t : Tr} {nv : Value} (hL : Lies (fun _ => True) W t nv) : Calls Tryz.prog 31 #[nv] W (InsPost (readF t) W) := by
 unfold readF
 by_cases h : t.k0 = 2 /\ 40 <= t.p0 /\ t.args0.length = (formsF t.p0).length
 ·rw [if_pos h]; exact readI_loop hL h.1 h.2.1 h.2.2
 ·rw [if_neg h]; exact readI_no hL h
end Go.Proofs.YtamohjlhndedhadGreatRRR
