/- slices.Repeat of a list of one type, by its contract. -/
import Derived.Test.YtdninmanfncfiadRepM
import Derived.Test.YtdninmanfncfiadTyMem
import Derived.Laws.CopyRow
import Derived.Laws.MakeOwn
import Derived.Laws.OwnMore
import Derived.Deep.RegionHeld3
import Derived.Deep.DeepCutAuto
namespace Go.Proofs.Ytdninmanfncfiad
open Go.ChangeShapes Go.WideShapes Go.ChangeAt Go.RowKit
set_option linter.unusedVariables false

theorem run_copyG (w : World) (dT sT ty elem : TypeId) (i : TypeInfo) (hu : Try.prog.underlying dT = some (.slice elem)) (hi : Try.prog.info? elem = some i) (g o dLen dCap : Nat) (ad : Addr) (sLen sCap : Nat) (cur : Array Value) (t : TypeId) (cs : List Value)
    (hg : w.heap[g]? = some (.cells cur t (0, 0))) (hn : cs.length = Nat.min sLen dLen * i.size) (hsrc : ∀ j v, cs[j]? = some v → w.cell? (ad.add j) = some v) (hfit : o + cs.length ≤ cur.size) (h1 : ∀ v ∈ cs, v.oneCell' = true) :
    (Builtin.copy_ #[dT, sT] ty #[.slice (some ⟨g, o, none⟩) dLen dCap, .slice (some ad) sLen sCap]).run Try.prog w =
      .ok (goInt (Nat.min sLen dLen)) (w.setRow g (cur.toList.take o ++ cs ++ cur.toList.drop (o + cs.length)).toArray) := by
  have hl := run_loadCells_list (P := Try.prog) w ad cs hsrc
  have hst := run_storeCells_at Try.prog g o t cs 0 cur w hg (by simpa using hfit) h1
  simp [Builtin.copy_, run_underlying hu, Builtin.lenOf, Builtin.firstCells, sizeOf, typeInfo, hi, ← hn, hl, hst]

/-- the first m of n elements of block g are the type (u0, u1) -/
def RepAt (w : World) (g n m : Nat) (u0 u1 : Value) : Prop := ∃ cur : Array Value, w.heap[g]? = some (.cells cur 24 (0, 0)) ∧ cur.size = n * 2 ∧ m ≤ n ∧ ∀ j, j < m → cur[j * 2]? = some u0 ∧ cur[j * 2 + 1]? = some u1

theorem info_tyR : (Try.prog.info? 24).map (fun i => (i.zero, i.size, i.bytes)) = some (some (.agg #[.int .i64 0, .slice none 0 0]), 2, 32) := by kernel_rfl

set_option maxRecDepth 100000 in
/-- what lies at the beginning, once more behind it -/
theorem rep_more {w : World} {g n m : Nat} {u0 u1 : Value} (h : RepAt w g n m u0 u1) (o0 : u0.oneCell' = true) (o1 : u1.oneCell' = true) (k : Nat) (ad : Addr) (c sc sl dl : Nat) (hk : k = Nat.min sl dl) (hfit : m + k ≤ n)
    (hsrc : ∀ j, j < k → w.cell? (ad.add (j * 2)) = some u0 ∧ w.cell? (ad.add (j * 2 + 1)) = some u1) :
    ∃ w2, (∀ ty, (Builtin.copy_ #[22, 22] ty #[.slice (some ⟨g, m * 2, none⟩) dl c, .slice (some ad) sl sc]).run Try.prog w = .ok (.int .i64 (k : Nat)) w2) ∧ RepAt w2 g n (m + k) u0 u1 ∧ w.grownBy w2 (some g) := by
  obtain ⟨cur, hg, hsz, hmn, hc⟩ := h
  obtain ⟨i0, hi, hz0, hz1, hz2⟩ := info_parts info_tyR
  let cs : List Value := (List.range (k * 2)).map fun j => if j % 2 = 0 then u0 else u1
  have hlen : cs.length = k * 2 := by simp [cs]
  have hget : ∀ j v, cs[j]? = some v → j < k * 2 ∧ v = if j % 2 = 0 then u0 else u1 := by
    intro j v hv
    have hj : j < k * 2 := by rw [← hlen]; exact (List.getElem?_eq_some_iff.1 hv).1
    refine ⟨hj, ?_⟩
    simp [cs, hj] at hv
    exact hv.symm
  have hr : ∀ ty, _ := fun ty => run_copyG w 22 22 ty 24 i0 Try.underlying22 hi g (m * 2) dl c ad sl sc cur 24 cs hg (by rw [hlen, hz1, hk]) (by
    intro j v hv
    obtain ⟨hj, rfl⟩ := hget j v hv
    obtain ⟨q0, q1⟩ := hsrc (j / 2) (by omega)
    by_cases hp : j % 2 = 0
    · rw [if_pos hp]; rw [show j / 2 * 2 = j from by omega] at q0; exact q0
    · rw [if_neg hp]; rw [show j / 2 * 2 + 1 = j from by omega] at q1; exact q1) (by rw [hlen, hsz]; omega) (by
    intro v hv
    obtain ⟨j, hj, rfl⟩ := List.getElem_of_mem hv
    obtain ⟨_, h2⟩ := hget j _ (List.getElem?_eq_getElem hj)
    rw [h2]; split <;> assumption)
  refine ⟨w.setRow g (cur.toList.take (m * 2) ++ cs ++ cur.toList.drop (m * 2 + cs.length)).toArray, fun ty => ?_, ⟨_, setRow_heap w g cur _ _ _ hg, ?_, hfit, fun j hj => ?_⟩, ?_⟩
  · rw [hr ty, ← hk]; rfl
  · simp [hlen]; omega
  · have key : ∀ q, q < (m + k) * 2 → (cur.toList.take (m * 2) ++ cs ++ cur.toList.drop (m * 2 + cs.length)).toArray[q]? = some (if q % 2 = 0 then u0 else u1) := by
      intro q hq
      rw [List.getElem?_toArray, List.append_assoc]
      by_cases h1 : q < m * 2
      · rw [List.getElem?_append_left (by simp; omega), List.getElem?_take, if_pos h1, Array.getElem?_toList]
        obtain ⟨e0, e1⟩ := hc (q / 2) (by omega)
        by_cases hp : q % 2 = 0
        · rw [if_pos hp]; rw [show q / 2 * 2 = q from by omega] at e0; exact e0
        · rw [if_neg hp]; rw [show q / 2 * 2 + 1 = q from by omega] at e1; exact e1
      · have hl2 : (cur.toList.take (m * 2)).length = m * 2 := by simp; omega
        rw [List.getElem?_append_right (by omega), hl2, List.getElem?_append_left (by omega)]
        have hlt : q - m * 2 < k * 2 := by omega
        simp only [cs, List.getElem?_map, List.getElem?_range hlt, Option.map_some]
        rw [show (q - m * 2) % 2 = q % 2 from by omega]
    have k0 := key (j * 2) (by omega)
    have k1 := key (j * 2 + 1) (by omega)
    rw [if_pos (by omega)] at k0
    rw [if_neg (by omega)] at k1
    exact ⟨k0, k1⟩
  · exact ⟨rfl, rfl, rfl, by simp [World.setRow], fun q _ hq => setRow_other w g q _ (by simpa using hq)⟩

set_option maxRecDepth 100000 in
set_option maxHeartbeats 1000000 in
theorem repeat_at (t : Int) (a : Option Addr) (l c : Nat) (b o n cx : Nat) (hn : n < 1000) (W : World) (h0 : W.cell? ⟨b, o, none⟩ = some (.int .i64 t)) (h1 : W.cell? ⟨b, o + 1, none⟩ = some (.slice a l c)) :
    Calls Try.prog 45 #[.slice (some ⟨b, o, none⟩) 1 cx, .int .i64 n] W fun e w' => ∃ g c', e = .returned (.slice (some ⟨g, 0, none⟩) n c') ∧ W.heap.size ≤ g ∧ RepAt w' g n n (.int .i64 t) (.slice a l c) ∧ W.grownBy w' none := by
  have HM := Lf.hide (bmul_one n (by omega))
  obtain ⟨i0, hi, hz0, hz1, hz2⟩ := info_parts info_tyR
  have hmk := run_make (P := Try.prog) W 22 24 i0 _ Try.underlying22 hi hz0 .i64 .i64 n n (by omega) (Int.le_refl _) (by rw [hz2]; omega) (by omega)
  simp only [Int.toNat_natCast, hz1] at hmk
  have hMs : (madeCells (Value.agg #[.int .i64 0, .slice none 0 0]).cells (n * 2)).size = n * 2 := size_madeCells _ _
  generalize madeCells (Value.agg #[.int .i64 0, .slice none 0 0]).cells (n * 2) = M at *
  have hR0 : RepAt (W.alloc (.cells M 24)) W.heap.size n 0 (.int .i64 t) (.slice a l c) := ⟨M, heap_alloc_new _ _, hMs, Nat.zero_le _, fun j hj => by omega⟩
  have hb0 : b < W.heap.size := World.block_lt_of_cell? W _ h0
  obtain ⟨w2, hcp, hR1, hg1⟩ := rep_more hR0 rfl rfl (Nat.min 1 n) ⟨b, o, none⟩ n cx 1 n rfl (by rw [Nat.zero_add]; exact Nat.min_le_right _ _) (fun j hj => by
    obtain rfl : j = 0 := by have : Nat.min 1 n ≤ 1 := Nat.min_le_left _ _; omega
    have e1 : (W.alloc (.cells M 24)).cell? ⟨b, o, none⟩ = some (.int .i64 t) := (World.cell?_of_block (heap_alloc_old (w := W) (o := _) (h := hb0))).trans h0
    have e2 : (W.alloc (.cells M 24)).cell? ⟨b, o + 1, none⟩ = some (.slice a l c) := (World.cell?_of_block (heap_alloc_old (w := W) (o := _) (h := hb0))).trans h1
    have hadd : ∀ x, (⟨b, o, none⟩ : Addr).add x = ⟨b, o + x, none⟩ := fun x => by unfold Addr.add; split <;> simp_all
    rw [hadd, hadd]
    exact ⟨e1, e2⟩)
  have hg2 : W.grownBy w2 none := grow_new (Lf.gb _) hg1 (Nat.le_refl _)
  rw [Nat.zero_mul] at hcp
  rw [Nat.zero_add] at hR1
  have HR1 := Lf.hide hR1
  have HG2 := Lf.hide hg2
  clear h0 h1 hR0 hR1 hg1 hg2 hMs hz0 hz1 hz2 hi
  go_enter Try.func45, Try.ntmps45
  go_wp2_with fail
  refine (HM.out _).mono ?_; rintro e W0 ⟨rfl, rfl⟩
  go_wp2_with fail
  go_loopw [8] (fun iv wr => ∃ m : Nat, iv = .int .i64 m ∧ m ≤ n ∧ (m = n ∨ 1 ≤ m) ∧ RepAt wr W0.heap.size n m (.int .i64 t) (.slice a l c) ∧ W0.grownBy wr none) (fun iv _ => n - (intOf iv).toNat)
  case atStart =>
    refine ⟨Nat.min 1 n, ?_, Nat.min_le_right _ _, ?_, HR1.out, HG2.out⟩
    · first | rfl | simp
    · by_cases h : n = 0
      · left; subst h; rfl
      · right; exact Nat.le_min.2 ⟨Nat.le_refl _, by omega⟩
  case round =>
    obtain ⟨m, rfl, hmn, hm1, hRep, hgr⟩ := hrel
    by_cases hlt : m < n
    · have hm2 : 1 ≤ m := by omega
      have hk : m + Nat.min m (n - m) ≤ n := by have : Nat.min m (n - m) ≤ n - m := Nat.min_le_right _ _; omega
      have hkp : 1 ≤ Nat.min m (n - m) := Nat.le_min.2 ⟨hm2, by omega⟩
      obtain ⟨w3, hc3, hR3, hg3⟩ := rep_more (w := wr.drew) hRep rfl rfl (Nat.min m (n - m)) ⟨W0.heap.size, 0, none⟩ (n - m) n m (n - m) rfl hk (fun j hj => by
        obtain ⟨cur, q1, q2, q3, q4⟩ := hRep
        have hjm : j < m := Nat.lt_of_lt_of_le hj (Nat.min_le_left _ _)
        obtain ⟨e0, e1⟩ := q4 j hjm
        have hadd : ∀ x, (⟨W0.heap.size, 0, none⟩ : Addr).add x = ⟨W0.heap.size, x, none⟩ := fun x => by unfold Addr.add; split <;> simp_all
        rw [hadd, hadd]
        constructor
        · show wr.cell? _ = _
          simp [World.cell?, q1, e0]
        · show wr.cell? _ = _
          simp [World.cell?, q1, e1])
      have hlt' : (m : Int) < (n : Int) := by omega
      have hnm : ¬ n - m = 0 := by omega
      generalize hk9 : Nat.min m (n - m) = k9 at *
      have HR3 := Lf.hide hR3
      have HG3 := Lf.hide (grow_new (grow_drew hgr) hg3 (Nat.le_refl _))
      clear hR3 hg3 hRep hgr hk9 hmk hcp HR1 HG2 HM
      have hwr : IntKind.i64.wrap ((m : Int) + (k9 : Int)) = (m : Int) + (k9 : Int) := by rw [IntKind.wrap_i64]; omega
      have hmle : m ≤ n := hmn
      go_wp2_with fail
      go_region_held3 (fun _ => True) (first | trivial) (fail)
      all_goals
        go_wp2_with fail
        refine ⟨⟨m + k9, by first | rfl | simp, hk, .inr (by omega), HR3.out, HG3.out⟩, ?_⟩
        simp [intOf]; omega
    · have hme : m = n := by omega
      subst hme
      have hlt' : ¬ (m : Int) < (m : Int) := by omega
      have HR := Lf.hide hRep
      have HG := Lf.hide hgr
      clear hRep hgr hmk hcp HR1 HG2 HM
      go_wp2_with fail
      go_ret
      exact ⟨_, ⟨_, rfl⟩, Nat.le_refl _, HR.out, HG.out⟩

theorem repeat_any (t : Int) (a : Option Addr) (l c : Nat) (b n cx : Nat) (hn : n < 1000) (W : World) (h0 : W.cell? ⟨b, 0, none⟩ = some (.int .i64 t)) (h1 : W.cell? ⟨b, 1, none⟩ = some (.slice a l c)) :
    Calls Try.prog 45 #[.slice (some ⟨b, 0, none⟩) 1 cx, .int .i64 n] W fun e w' => ∃ g c', e = .returned (.slice (some ⟨g, 0, none⟩) n c') ∧ W.heap.size ≤ g ∧ RepAt w' g n n (.int .i64 t) (.slice a l c) ∧ W.grownBy w' none :=
  repeat_at t a l c b 0 n cx hn W h0 h1

end Go.Proofs.Ytdninmanfncfiad
