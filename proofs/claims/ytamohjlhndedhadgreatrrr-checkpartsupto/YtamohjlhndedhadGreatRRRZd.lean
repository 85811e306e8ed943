import Derived.Test.YtamohjlhndedhadGreatRRRZa
import Derived.Test.YtamohjlhndedhadGreatRRRCheckF
import Derived.Test.YtamohjlhndedhadGreatRRRZb
namespace Go.Proofs.YtamohjlhndedhadGreatRRR
set_option maxRecDepth 100000
set_option maxHeartbeats 4000000
open Go.ChangeShapes Go.WideShapes Go.ChangeAt Go.RowKit
set_option linter.unusedVariables false
def LedPost (r : Led) (W : World) (e : Ending) (w' : World) : Prop :=
 W.grownBy w' none /\ ((∃ er, r = .no er /\ er ≠ 0 /\ e = .returned (.tuple #[.agg #[.slice none 0 0, .bool false], .int .i64 er])) \/ ∃ f ts a l c, r = .ok f ts /\ e = .returned (.tuple #[.agg #[.slice a l c, .bool f], .int .i64 0]) /\ RowC w' ts (.slice a l c))
theorem LedPost.of {r : Led} {W W2 : World} {e : Ending} {w' : World} (h : LedPost r W2 e w') (hg : W.grownBy W2 none) : LedPost r W e w' := ⟨Lf.gbt hg h.1, h.2⟩
theorem LedPost.form {r : Led} {W : World} {e : Ending} {w' : World} (h : LedPost r W e w') : ∃ a l c f er, e = .returned (.tuple #[.agg #[.slice a l c, .bool f], .int .i64 er]) := by
 rcases h.2 with ⟨er, _, _, rfl⟩ | ⟨f, ts, a, l, c, _, rfl, _⟩
 ·exact ⟨_, _, _, _, _, rfl⟩
 ·exact ⟨_, _, _, _, _, rfl⟩
theorem not_typed {w : World} {R l c : Nat} {a : Option Addr} {f : Bool} {T : TypeId} (hb : w.heap[R]? = some (.cells #[.slice a l c, .bool f] T (0, 0))) (n : Nat) (z : Int) : w.cell? ⟨R, n, none⟩ ≠ some (.int .i64 z) := by
 intro h
 rcases n with _ | _ | n <;> simp [World.cell?, hb] at h
theorem TyAt.ne {ok : Nat -> Prop} {w : World} {R l c : Nat} {a : Option Addr} {f : Bool} {T : TypeId} (hb : w.heap[R]? = some (.cells #[.slice a l c, .bool f] T (0, 0))) {p : Option Addr} {i : Nat} {v : Value} (h : TyAt ok w p i v) : TyAt (fun b => ok b /\ b ≠ R) w p i v := by
 obtain ⟨b, o, e, hk, t, a', l', c', hv, h0, h1⟩ := h
 exact ⟨b, o, e, ⟨hk, fun e2 => by subst e2; exact not_typed hb _ _ h0⟩, t, a', l', c', hv, h0, h1⟩
theorem LiesT.ne {ok : Nat -> Prop} {w : World} {R l c : Nat} {a : Option Addr} {f : Bool} {T : TypeId} (hb : w.heap[R]? = some (.cells #[.slice a l c, .bool f] T (0, 0))) {t : Ty} {v : Value} (h : LiesT ok w t v) : LiesT (fun b => ok b /\ b ≠ R) w t v := by
 induction h with
 | mk V hl hlc it hc _ ih => exact .mk V hl hlc it (fun i hi => (hc i hi).ne hb) ih
theorem RowC.set {w : World} {ts : List Ty} {u : Value} (h : RowC w ts u) {R l c : Nat} {a : Option Addr} {f : Bool} {T : TypeId} (hb : w.heap[R]? = some (.cells #[.slice a l c, .bool f] T (0, 0))) (x y : Value) : RowC (set2 w R x y) ts u := by
 obtain ⟨a', c', V, e, h1, hr⟩ := h
 have hs : Same (fun b => True /\ b ≠ R) w (set2 w R x y) := fun b o hk hlt => World.cell?_of_block ((set2_grow w R x y).block b hlt (by have := hk.2; simp; omega))
 have hr2 : RowT (fun b => True /\ b ≠ R) w ts a' V := ⟨hr.1, fun i hi => (hr.2.1 i hi).ne hb, fun i hi => (hr.2.2 i hi).ne hb⟩
 exact ⟨a', c', V, e, h1, (hr2.same hs).okMono (fun _ _ _ => trivial)⟩
theorem LedPost.lift {r : Led} {W W2 w1 : World} {e : Ending} {R l c : Nat} {a : Option Addr} {f : Bool} {T : TypeId} (h : LedPost r W2 e w1) (hg : W.grownBy W2 none) (hR : W.heap.size <= R) (hb : W2.heap[R]? = some (.cells #[.slice a l c, .bool f] T (0, 0))) :
 ∃ a' l' c' f' er, e = .returned (.tuple #[.agg #[.slice a' l' c', .bool f'], .int .i64 er]) /\ w1.heap[R]? = some (.cells #[.slice a l c, .bool f] T (0, 0)) /\ W.grownBy w1 none /\ LedPost r W e (set2 w1 R (.slice a' l' c') (.bool f')) := by
 have hb1 : w1.heap[R]? = some (.cells #[.slice a l c, .bool f] T (0, 0)) := (h.1.block R (Array.getElem?_eq_some_iff.1 hb).1 (by simp)).trans hb
 have hg1 := Lf.gbt hg h.1
 rcases h.2 with ⟨er, h1, h2, h3⟩ | ⟨f2, ts, a2, l2, c2, h1, h3, h4⟩
 ·exact ⟨_, _, _, _, _, h3, hb1, hg1, grow_set2 hg1 hR _ _, .inl ⟨er, h1, h2, h3⟩⟩
 ·exact ⟨_, _, _, _, _, h3, hb1, hg1, grow_set2 hg1 hR _ _, .inr ⟨f2, ts, a2, l2, c2, h1, h3, h4.set hb1 _ _⟩⟩
theorem stand_iff : ∀ (s : List Ty) (ks : List Int), standF s ks = true ↔ ks.length <= s.length /\ ∀ i (h : i < ks.length) (h2 : i < s.length), ks[i] = 0 \/ (s[i]).t = ks[i]
 | s, [] => by cases s <;> simp [standF]
 | [], k :: ks => by simp [standF]
 | T :: s, k :: ks => by
  have ih := stand_iff s ks
  simp only [standF, Bool.and_eq_true, Bool.or_eq_true, decide_eq_true_eq, ih, List.length_cons, Nat.add_le_add_iff_right]
  constructor
  ·rintro ⟨h1, h2, h3⟩
   refine ⟨h2, fun i hi hj => ?_⟩
   cases i with
   | zero => exact h1
   | succ i => exact h3 i (by omega) (by omega)
  ·rintro ⟨h1, h2⟩
   exact ⟨h2 0 (by omega) (by omega), h1, fun i hi hj => h2 (i + 1) (by omega) (by omega)⟩
theorem stand_any {W : World} {s : List Ty} {sv : Value} {ks : List Int} {kb kc : Nat} (hs : RowC W s sv) (hk : ∀ i (h : i < ks.length), W.cell? ⟨kb, i, none⟩ = some (.int .i64 ks[i])) (hkl : ks.length <= 8) :
 Calls Tryz.prog 52 #[sv, .slice (some ⟨kb, 0, none⟩) ks.length kc] W fun e w' => e = .returned (.bool (standF s ks)) /\ w' = W := by
 obtain ⟨sa, sc, V, rfl, hsc, hr⟩ := hs
 have hl63 := hr.1
 unfold maxLen at hl63
 by_cases hlt : s.length < ks.length
 ·have hz : (s.length : Int) < (ks.length : Int) := by omega
  have hf : standF s ks = false := by
   cases h : standF s ks with
   | false => rfl
   | true => have := stand_len h; omega
  rw [hf]
  clear hr hk
  go_enter Tryz.func52, Tryz.ntmps52
  go_wp2_with fail
  go_ret
  exact ⟨rfl, rfl⟩
 ·have hz : ¬ (s.length : Int) < (ks.length : Int) := by omega
  have HR := jh hr
  have HK := jh hk
  clear hr hk
  go_enter Tryz.func52, Tryz.ntmps52
  go_wp2_with fail
  go_loopw [14] (fun iv wr => wr = W /\ ∃ j : Nat, j <= ks.length /\ iv = .int .i64 j /\ ∀ i (h : i < ks.length) (h2 : i < s.length), i < j -> ks[i] = 0 \/ (s[i]).t = ks[i]) (fun iv _ => ks.length - (intOf iv).toNat)
  case atStart => exact ⟨rfl, 0, Nat.zero_le _, rfl, fun i _ _ h => by omega⟩
  case round =>
   obtain ⟨hw, j, hj, rfl, hall⟩ := hrel
   replace hw := hw.symm
   subst hw
   by_cases hlt2 : j < ks.length
   ·have hji : (j : Int) < (ks.length : Int) := by omega
    have hjs : j < s.length := by omega
    have hjs2 : (j : Int) < (s.length : Int) := by omega
    have hkc := HK.out j hlt2
    obtain ⟨b, o, rfl, _, t, a', l, c, hv, h0, h1⟩ := HR.out.2.1 j hjs
    have hL := HR.out.2.2 j hjs
    rw [hv] at hL
    have ht : (s[j]).t = t := by
     obtain ⟨_, _, _, e, _⟩ := hL.inv
     simp only [tyV, Value.agg.injEq, Array.mk.injEq, List.cons.injEq, Value.int.injEq, true_and] at e
     exact e.1.symm
    have HALL := jh hall
    have HT := jh ht
    obtain ⟨kk, hkk⟩ : ∃ kk, kk = ks[j] := ⟨_, rfl⟩
    rw [← hkk] at hkc
    have HKK := jh hkk
    clear hall hL hv h1 ht hkk hlt
    by_cases hk0 : kk = 0
    ·subst hk0
     go_wp2_with fail
     go_roundw
     case rel =>
      refine ⟨by trivial, j + 1, by omega, by go_num, fun i hi h2 hij => ?_⟩
      by_cases e : i = j
      ·subst e; exact .inl HKK.out.symm
      ·exact HALL.out i hi h2 (by omega)
     case measure => simp [intOf]; omega
    ·have hk1 : (kk == 0) = false := by simpa using hk0
     have hk2 : (kk != 0) = true := by simpa using hk0
     by_cases hk3 : t = kk
     ·subst hk3
      go_wp2_with fail
      go_roundw
      case rel =>
       refine ⟨by trivial, j + 1, by omega, by go_num, fun i hi h2 hij => ?_⟩
       by_cases e : i = j
       ·subst e; exact .inr (HT.out.trans HKK.out)
       ·exact HALL.out i hi h2 (by omega)
      case measure => simp [intOf]; omega
     ·have hk4 : (t == kk) = false := by simpa using hk3
      have hk5 : (t != kk) = true := by simpa using hk3
      have hf : standF s ks = false := by
       cases h : standF s ks with
       | false => rfl
       | true =>
        have h2 := ((stand_iff s ks).1 h).2 j hlt2 hjs
        rw [HT.out, ← HKK.out] at h2
        rcases h2 with h2 | h2
        ·exact absurd h2 hk0
        ·exact absurd h2 hk3
      have HF := jh hf
      clear hf
      go_wp2_with fail
      go_ret
      exact ⟨by rw [HF.out]; rfl, rfl⟩
   ·have hji : ¬ (j : Int) < (ks.length : Int) := by omega
    have ht : standF s ks = true := (stand_iff s ks).2 ⟨by omega, fun i h1 h2 => hall i h1 h2 (by omega)⟩
    have HF := jh ht
    clear hall ht
    go_wp2_with fail
    go_ret
    exact ⟨by rw [HF.out]; rfl, rfl⟩
theorem of_any (t : Int) (a : Option Addr) (l c : Nat) (W : World) :
 Calls Tryz.prog 56 #[.int .i64 t, .slice a l c] W fun e w' => e = .returned (.agg #[.int .i64 t, .slice a l c]) /\ W.grownBy w' none := by
 go_enter Tryz.func56, Tryz.ntmps56
 go_wp2_with fail
 have hb := heap_alloc_new W (.cells #[.int .i64 t, .slice a l c] 44)
 have HG := jh (Lf.gb (w := W) (.cells #[.int .i64 t, .slice a l c] 44))
 generalize W.alloc (.cells #[.int .i64 t, .slice a l c] 44) = wf at *
 have z0 := cell0_of hb
 have z1 := cell1_of hb
 exact bodyPost_ret (v := .agg #[.int .i64 t, .slice a l c]) (by simp [results, Tryz.results56, go_sem, z0, z1]) rfl ⟨rfl, HG.out⟩
theorem refused_any (er : Int) (W : World) :
 Calls Tryz.prog 11 #[.int .i64 er] W fun e w' => e = .returned (.tuple #[.agg #[.slice none 0 0, .bool false], .int .i64 er]) /\ W.grownBy w' none := by
 go_enter Tryz.func11, Tryz.ntmps11
 go_wp2_with fail
 have hb := heap_alloc_new W (.cells #[.slice none 0 0, .bool false] 27)
 have HG := jh (Lf.gb (w := W) (.cells #[.slice none 0 0, .bool false] 27))
 generalize W.alloc (.cells #[.slice none 0 0, .bool false] 27) = wf at *
 have z0 := cell0_of hb
 have z1 := cell1_of hb
 exact bodyPost_ret (v := .tuple #[.agg #[.slice none 0 0, .bool false], .int .i64 er]) (by simp [results, Tryz.results11, go_sem, z0, z1]) rfl ⟨rfl, HG.out⟩
theorem refused_led (er : Int) (h : er ≠ 0) (W : World) : Calls Tryz.prog 11 #[.int .i64 er] W (LedPost (.no er) W) :=
 (refused_any er W).mono fun e w' ⟨h1, h2⟩ => ⟨h2, .inl ⟨er, rfl, h, h1⟩⟩
theorem put_any {W : World} {s top : List Ty} {sv tv : Value} (hs : RowC W s sv) (ht : RowC W top tv) (hn : top.length + s.length <= 20000000) :
 Calls Tryz.prog 53 #[sv, tv] W (LedPost (putF s top) W) := by
 obtain ⟨sa, sc, e1, hsc, hs63⟩ := hs.form
 obtain ⟨ta, tc, e2, htc, ht63⟩ := ht.form
 subst e1; subst e2
 let A : Obj := .cells #[.slice none 0 0, .bool false] 27
 let B : Obj := .cells #[.slice ta top.length tc, .slice sa s.length sc] 25
 have hg2 : W.grownBy ((W.alloc A).alloc B) none := Lf.gbt (Lf.gb _) (Lf.gb _)
 have hbB : ((W.alloc A).alloc B).heap[W.heap.size + 1]? = some B := by
  have h := heap_alloc_new (W.alloc A) B
  rwa [show (W.alloc A).heap.size = W.heap.size + 1 from by simp] at h
 have HC := jh (concat_any hbB (ht.grow hg2) (hs.grow hg2) hn)
 have HBA := jh (res_new W A B)
 have HG2 := jh hg2
 clear hs ht hg2 hbB
 go_enter Tryz.func53, Tryz.ntmps53
 go_wp2_with fail
 refine HC.out.mono ?_; rintro e w1 ⟨v, rfl, hrow, hg1⟩
 have hb1 : w1.heap[W.heap.size]? = some A := (hg1.block _ (Array.getElem?_eq_some_iff.1 HBA.out).1 (by simp)).trans HBA.out
 obtain ⟨va, vl, vc, e3⟩ := hrow.form3
 subst e3
 have q0 := cell0_of hb1
 have q1 := cell1_of hb1
 have q2 := free2_of hb1
 have HB1 := jh hb1
 have HR := jh hrow
 have HG1 := jh (Lf.gbt HG2.out hg1)
 clear hb1 hrow hg1 HC
 go_wp2_with fail
 change bodyPost _ _ _ _ _ (set2 w1 W.heap.size (.slice va vl vc) (.bool false))
 have hb' := set2_block HB1.out (.slice va vl vc) (.bool false)
 have hg' := grow_set2 HG1.out (Nat.le_refl _) (.slice va vl vc) (.bool false)
 have hr' := HR.out.set HB1.out (.slice va vl vc) (.bool false)
 generalize set2 w1 W.heap.size (.slice va vl vc) (.bool false) = wf at *
 have z0 := cell0_of hb'
 have z1 := cell1_of hb'
 exact bodyPost_ret (v := .tuple #[.agg #[.slice va vl vc, .bool false], .int .i64 0]) (by simp [results, Tryz.results53, go_sem, z0, z1]) rfl ⟨hg', .inr ⟨false, _, _, _, _, rfl, rfl, hr'⟩⟩
def insV (p n : Int) (ta : Option Addr) (tl tc : Nat) (ra : Option Addr) (rl rc : Nat) (dk dn dp : Int) (ds : ByteArray) (da : Option Addr) (dl dc : Nat) : Value :=
 .agg #[.int .i64 p, .int .i64 n, .slice ta tl tc, .slice ra rl rc, .int .i64 dk, .int .i64 dn, .int .i64 dp, .string ds, .slice da dl dc]
theorem isOfTwo_any (p : Int) (W : World) : Calls Tryz.prog 61 #[.int .i64 p] W fun e w' => e = .returned (.bool (decide (p = 69 \/ p = 70 \/ p = 71 \/ p = 72))) /\ w' = W := by
 have h : (decide (p = 69 \/ p = 70 \/ p = 71 \/ p = 72)) = (decide (p = 69) || (decide (p = 70) || (decide (p = 71) || decide (p = 72)))) := by simp [Bool.decide_or]
 rw [h]
 by_cases h1 : p = 69
 ·subst h1; go_enter Tryz.func61, Tryz.ntmps61; go_wp2_with fail; go_ret; exact ⟨rfl, rfl⟩
 ·by_cases h2 : p = 70
  ·subst h2; go_enter Tryz.func61, Tryz.ntmps61; go_wp2_with fail; go_ret; exact ⟨rfl, rfl⟩
  ·by_cases h3 : p = 71
   ·subst h3; go_enter Tryz.func61, Tryz.ntmps61; go_wp2_with fail; go_ret; exact ⟨rfl, rfl⟩
   ·by_cases h4 : p = 72
    ·subst h4; go_enter Tryz.func61, Tryz.ntmps61; go_wp2_with fail; go_ret; exact ⟨rfl, rfl⟩
    ·have q1 : (p == 69) = false := by simpa using h1
     have q2 : (p == 70) = false := by simpa using h2
     have q3 : (p == 71) = false := by simpa using h3
     have q4 : (p == 72) = false := by simpa using h4
     go_enter Tryz.func61, Tryz.ntmps61
     go_wp2_with fail
     go_ret
     exact ⟨by simp [h1, h2, h3, h4], rfl⟩
theorem RowC.at {w : World} {s : List Ty} {sa : Option Addr} {sl sc : Nat} (h : RowC w s (.slice sa sl sc)) (i : Nat) (hi : i < s.length) : ∃ b o t a l k, sa = some ⟨b, o, none⟩ /\ w.cell? ⟨b, o + 2 * i, none⟩ = some (.int .i64 t) /\ w.cell? ⟨b, o + (2 * i + 1), none⟩ = some (.slice a l k) /\ LiesT (fun _ => True) w (tyAt s i) (Go.Proofs.YtamohjlhndedhadGreatRRR.tyV t a l k) := by
 obtain ⟨a', c, V, e, h1, hr⟩ := h
 simp only [Value.slice.injEq] at e
 obtain ⟨rfl, rfl, rfl⟩ := e
 obtain ⟨b, o, rfl, _, t, a, l, k, hv, h0, h2⟩ := hr.2.1 i hi
 have hL := hr.2.2 i hi
 rw [hv] at hL
 refine ⟨b, o, t, a, l, k, rfl, ?_, ?_, ?_⟩
 ·rw [Nat.mul_comm]; exact h0
 ·rw [Nat.mul_comm, ← Nat.add_assoc]; exact h2
 ·unfold tyAt; rw [List.getElem?_eq_getElem hi]; exact hL
theorem kDq {w w' : World} {R l c : Nat} {a : Option Addr} {f : Bool} {T : TypeId} (hb : w.heap[R]? = some (.cells #[.slice a l c, .bool f] T (0, 0))) (hg : w.grownBy w' (some R)) {b o o2 : Nat} {z : Int} {v : Value} (h : w.cell? ⟨b, o, none⟩ = some (.int .i64 z)) (h2 : w.cell? ⟨b, o2, none⟩ = some v) : w'.cell? ⟨b, o2, none⟩ = some v := by
 by_cases e : b = R
 ·subst e; exact absurd h (not_typed hb o z)
 ·exact (World.cell?_of_block (hg.block b (World.block_lt_of_cell? w _ h) (by simpa using e))).trans h2
theorem start2 (W : World) (I R : Obj) : W.grownBy ((W.alloc I).alloc R) none /\ ((W.alloc I).alloc R).heap[W.heap.size]? = some I /\ ((W.alloc I).alloc R).heap[W.heap.size + 1]? = some R := by
 refine ⟨Lf.gbt (Lf.gb _) (Lf.gb _), res_new W I R, ?_⟩
 have h := heap_alloc_new (W.alloc I) R
 rwa [show (W.alloc I).heap.size = W.heap.size + 1 from by simp] at h
theorem start3 (W : World) (I R K : Obj) : W.grownBy (((W.alloc I).alloc R).alloc K) none /\ (((W.alloc I).alloc R).alloc K).heap[W.heap.size]? = some I /\ (((W.alloc I).alloc R).alloc K).heap[W.heap.size + 1]? = some R /\ (((W.alloc I).alloc R).alloc K).heap[W.heap.size + 1 + 1]? = some K := by
 obtain ⟨h1, h2, h3⟩ := start2 W I R
 refine ⟨Lf.gbt h1 (Lf.gb _), heap_keep h2, heap_keep h3, ?_⟩
 have h := heap_alloc_new ((W.alloc I).alloc R) K
 rwa [show ((W.alloc I).alloc R).heap.size = W.heap.size + 1 + 1 from by simp] at h
theorem grow_setR {w0 w : World} {R : Nat} {x y : Value} (h : w0.grownBy w (some R)) : w0.grownBy ((w.setCell ⟨R, 0, none⟩ x).setCell ⟨R, 1, none⟩ y) (some R) := grow_set (grow_set h _ _ _) _ _ _
theorem led_end {W W3 w4 w5 : World} {r : Led} {e : Ending} {o : Obj} {R l c : Nat} {a : Option Addr} {f : Bool} {T : TypeId} (hp : LedPost r w4 e w5) (hg3 : W.grownBy W3 none) (hg4 : W3.grownBy w4 none) (hR : W.heap.size <= R) (hb : W3.heap[R]? = some (.cells #[.slice a l c, .bool f] T (0, 0))) :
 ∃ a' l' c' f' er, e = .returned (.tuple #[.agg #[.slice a' l' c', .bool f'], .int .i64 er]) /\ w5.heap[R]? = some (.cells #[.slice a l c, .bool f] T (0, 0)) /\ W3.grownBy w5 (some R) /\ LedPost r W e (set2 w5 R (.slice a' l' c') (.bool f')) := by
 obtain ⟨a', l', c', f', er, h1, h2, h3, h4⟩ := hp.lift (Lf.gbt hg3 hg4) hR ((hg4.block R (Array.getElem?_eq_some_iff.1 hb).1 (by simp)).trans hb)
 exact ⟨a', l', c', f', er, h1, h2, gAq (Lf.gbt hg4 hp.1), h4⟩
theorem led_fin {W W3 w4 w5 : World} {r : Led} {e : Ending} {l c : Nat} {a : Option Addr} {f : Bool} {T : TypeId} (hp : LedPost r w4 e w5) (hg3 : W.grownBy W3 none) (hg4 : W3.grownBy w4 none) (hb : W3.heap[W.heap.size + 1]? = some (.cells #[.slice a l c, .bool f] T (0, 0))) :
 ∃ a' l' c' f' er, e = .returned (.tuple #[.agg #[.slice a' l' c', .bool f'], .int .i64 er]) /\ W3.grownBy w5 (some (W.heap.size + 1)) /\ w5.cell? ⟨W.heap.size + 1, 0, none⟩ = some (.slice a l c) /\ w5.cell? ⟨W.heap.size + 1, 1, none⟩ = some (.bool f) /\ (∀ o, w5.frozen? ⟨W.heap.size + 1, o, none⟩ = false) /\
  Hid (w5.heap[W.heap.size + 1]? = some (.cells #[.slice a l c, .bool f] T (0, 0))) /\ Hid (LedPost r W e (set2 w5 (W.heap.size + 1) (.slice a' l' c') (.bool f'))) := by
 obtain ⟨a', l', c', f', er, h1, h2, h3, h4⟩ := led_end (o := .cells #[] 0) hp hg3 hg4 (Nat.le_succ _) hb
 exact ⟨a', l', c', f', er, h1, h3, cell0_of h2, cell1_of h2, free2_of h2, h2, h4⟩
theorem end_led {P : Program} {fn : Func} {W w5 : World} {R : Nat} {r : Led} {ac : Act} {a a5 : Option Addr} {l c l5 c5 : Nat} {f f5 : Bool} {er5 : Int} {T : TypeId}
 (hres : ∀ w : World, w.cell? ⟨R, 0, none⟩ = some (.slice a5 l5 c5) -> w.cell? ⟨R, 1, none⟩ = some (.bool f5) -> (results fn ac.tmps).run P w = .ok (.tuple #[.agg #[.slice a5 l5 c5, .bool f5], .int .i64 er5]) w)
 (hd : ac.defers = []) (hb : w5.heap[R]? = some (.cells #[.slice a l c, .bool f] T (0, 0))) (hl : LedPost r W (.returned (.tuple #[.agg #[.slice a5 l5 c5, .bool f5], .int .i64 er5])) (set2 w5 R (.slice a5 l5 c5) (.bool f5))) :
 bodyPost P fn (LedPost r W) .ret ac (set2 w5 R (.slice a5 l5 c5) (.bool f5)) := by
 have hb' := set2_block hb (.slice a5 l5 c5) (.bool f5)
 exact bodyPost_ret (hres _ (cell0_of hb') (cell1_of hb')) hd hl
theorem kNq {w w' : World} {a : Addr} {v : Value} (hg : w.grownBy w' none) (h : w.cell? a = some v) : w'.cell? a = some v := (World.cell?_of_block (hg.block _ (World.block_lt_of_cell? w _ h) (by simp))).trans h
theorem kBq {w w' : World} {b : Nat} {o : Obj} (h : w.heap[b]? = some o) (hg : w.grownBy w' none) : w'.heap[b]? = some o := (hg.block _ (Array.getElem?_eq_some_iff.1 h).1 (by simp)).trans h
theorem LiesT.low {w : World} {T : Ty} {v : Value} (h : LiesT (fun _ => True) w T v) : LiesT (· < w.heap.size) w T v := h.okMono (fun b hb _ => hb)
theorem fails_led {W w : World} {T : TypeId} {R l c : Nat} {a : Option Addr} {f : Bool} (hg : W.grownBy w none) (hb : w.heap[R]? = some (.cells #[.slice a l c, .bool f] T (0, 0))) (hR : W.heap.size <= R := by exact Nat.le_succ _) : LedPost (.ok true []) W (.returned (.tuple #[.agg #[.slice none 0 0, .bool true], .int .i64 0])) (set2 w R (.slice none 0 0) (.bool true)) :=
 ⟨grow_set2 hg hR _ _, .inr ⟨true, [], none, 0, 0, rfl, rfl, RowC.nil _ _ _⟩⟩
theorem new_at {w : World} {o : Obj} {n : Nat} (h : w.heap.size = n) : (w.alloc o).heap[n]? = some o := h ▸ heap_alloc_new w o
theorem new_two2 (w : World) (o o' : Obj) : ((w.alloc o).alloc o').heap[w.heap.size + 1]? = some o' := by
 have h := heap_alloc_new (w.alloc o) o'
 rwa [show (w.alloc o).heap.size = w.heap.size + 1 from by simp] at h
theorem undrew {w w' : World} {r : Option Nat} (h : w.drew.grownBy w' r) : w.grownBy w' r := ⟨h.os, h.tape, h.output, h.size, h.block⟩
theorem RowC.dr {w : World} {ts : List Ty} {u : Value} (h : RowC w ts u) : RowC w.drew ts u := h.grow (gDr (gRf _ _))
theorem keepI {w w' : World} {g : Nat} {o : Obj} (h : w.heap[g]? = some o) (hg : w.grownBy w' (some (g + 1))) : w'.heap[g]? = some o := (hg.block g (Array.getElem?_eq_some_iff.1 h).1 (by simp)).trans h
theorem kinds1 {w : World} {b : Nat} {k : Int} {T : TypeId} (h : w.heap[b]? = some (.cells #[.int .i64 k] T (0, 0))) : ∀ i (hi : i < [k].length), w.cell? ⟨b, i, none⟩ = some (.int .i64 ([k][i])) := fun i hi => by
 obtain rfl : i = 0 := by simp at hi; omega
 simp [World.cell?, h]
theorem kinds2 {w : World} {b : Nat} {k l : Int} {T : TypeId} (h : w.heap[b]? = some (.cells #[.int .i64 k, .int .i64 l] T (0, 0))) : ∀ i (hi : i < [k, l].length), w.cell? ⟨b, i, none⟩ = some (.int .i64 ([k, l][i])) := fun i hi => by
 rcases (show i = 0 \/ i = 1 by simp at hi; omega) with rfl | rfl <;> simp [World.cell?, h]
theorem kinds3 {w : World} {b : Nat} {k l m : Int} {T : TypeId} (h : w.heap[b]? = some (.cells #[.int .i64 k, .int .i64 l, .int .i64 m] T (0, 0))) : ∀ i (hi : i < [k, l, m].length), w.cell? ⟨b, i, none⟩ = some (.int .i64 ([k, l, m][i])) := fun i hi => by
 rcases (show i = 0 \/ i = 1 \/ i = 2 by simp at hi; omega) with rfl | rfl | rfl <;> simp [World.cell?, h]
theorem stand_at {s : List Ty} {ks : List Int} (h : standF s ks = true) (i : Nat) (k : Int) (hk : ks[i]? = some k) (h0 : k ≠ 0) : (tyAt s i).t = k := by
 obtain ⟨h1, h2⟩ := (stand_iff s ks).1 h
 obtain ⟨hi, e⟩ := List.getElem?_eq_some_iff.1 hk
 have hi2 : i < s.length := by omega
 have := h2 i hi hi2
 rw [e] at this
 unfold tyAt
 rw [List.getElem?_eq_getElem hi2]
 rcases this with h | h
 ·exact absurd h h0
 ·exact h
theorem good_at {s : List Ty} (h : s.all goodTy = true) {i : Nat} (hi : i < s.length) : goodTy (tyAt s i) = true := by
 unfold tyAt
 rw [List.getElem?_eq_getElem hi]
 exact List.all_eq_true.1 h _ (List.getElem_mem hi)
theorem good_cnt {T : Ty} (h : goodTy T = true) : (T.args.length : Int) = partsF T.t := by
 obtain ⟨t, args⟩ := T
 simp only [goodTy, formedB, Bool.and_eq_true, decide_eq_true_eq] at h
 exact h.1.1.1.2.2
theorem cnt_at {s : List Ty} {ks : List Int} (h : standF s ks = true) (hg : s.all goodTy = true) (i : Nat) (k : Int) (n : Nat) (hk : ks[i]? = some k) (h0 : k ≠ 0) (hn : partsF k = n) : (tyAt s i).args.length = n := by
 have hi : i < s.length := by
  have h1 := stand_len h
  have h2 := (List.getElem?_eq_some_iff.1 hk).1
  omega
 have h1 := good_cnt (good_at hg hi)
 rw [stand_at h i k hk h0, hn] at h1
 omega
set_option linter.unusedSimpArgs false
mutual
theorem formedB_less (d : Nat) : ∀ (T : Ty), formedB (d + 1) T = true -> formedB d T = true
 | .nd t args, h => by
  simp only [formedB, Bool.and_eq_true, decide_eq_true_eq] at h ⊢
  exact ⟨⟨by omega, h.1.2⟩, formedBs_less (d + 1) args h.2⟩
theorem formedBs_less (d : Nat) : ∀ (l : List Ty), formedBs (d + 1) l = true -> formedBs d l = true
 | [], _ => rfl
 | T :: l, h => by
  simp only [formedBs, Bool.and_eq_true] at h ⊢
  exact ⟨formedB_less d T h.1, formedBs_less d l h.2⟩
end
theorem good_parts {t : Int} {args : List Ty} (h : goodTy (.nd t args) = true) : args.all goodTy = true := by
 rw [List.all_eq_true]
 intro T hT
 obtain ⟨h1, h2, h3⟩ := goodTy_formed h
 simp only [formedB, Bool.and_eq_true, formedBs_all, List.all_eq_true] at h1
 have h4 := formedB_less 1 T (h1.2 T hT)
 have h5 : keyedF T = true := by
  simp only [keyedF, Bool.and_eq_true, keyedFs_all, List.all_eq_true] at h3
  exact h3.2 T hT
 have h6 : T.size <= 300 := by
  have := tysize_mem hT
  simp only [Ty.size] at h2
  omega
 simp [goodTy, h4, h5, h6]
theorem good_args {T : Ty} (h : goodTy T = true) : T.args.all goodTy = true := by
 obtain ⟨t, args⟩ := T
 exact good_parts h
theorem good_pair {args : List Ty} (h : goodTy (.nd 13 args) = true) : goodTy (.nd 11 args) = true := by
 obtain ⟨h1, h2, h3⟩ := goodTy_formed h
 simp only [formedB, Bool.and_eq_true, decide_eq_true_eq] at h1
 simp only [keyedF, Bool.and_eq_true] at h3
 simp only [Ty.size] at h2
 simp only [goodTy, formedB, keyedF, Ty.size, Bool.and_eq_true, decide_eq_true_eq]
 refine ⟨⟨⟨⟨h1.1.1, by decide, ?_⟩, h1.2⟩, by simpa using h2⟩, ?_, h3.2⟩
 ·have := h1.1.2.2
  simpa [partsF] using this
 ·simp [keyHere]
theorem good_app {a b : List Ty} (ha : a.all goodTy = true) (hb : b.all goodTy = true) : (a ++ b).all goodTy = true := by rw [List.all_append, ha, hb]; rfl
theorem good_drop {s : List Ty} (h : s.all goodTy = true) (k : Nat) : (s.drop k).all goodTy = true := List.all_eq_true.2 fun x hx => List.all_eq_true.1 h x (List.mem_of_mem_drop hx)
theorem good_take {s : List Ty} (h : s.all goodTy = true) (k : Nat) : (s.take k).all goodTy = true := List.all_eq_true.2 fun x hx => List.all_eq_true.1 h x (List.mem_of_mem_take hx)
theorem good_pairT {T : Ty} (h : goodTy T = true) (ht : T.t = 13) : goodTy (.nd 11 T.args) = true := by
 obtain ⟨t, args⟩ := T
 simp only [Ty.t] at ht
 subst ht
 exact good_pair h
end Go.Proofs.YtamohjlhndedhadGreatRRR
