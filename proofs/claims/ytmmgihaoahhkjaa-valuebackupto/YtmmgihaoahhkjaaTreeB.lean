/- tree.putNode, putArgs and Encode by their contracts: for every good tree they put its bytes. -/
import Derived.Test.YtmmgihaoahhkjaaTreeA
import Derived.Deep.RegionWith
namespace Go.Proofs.Ytmmgihaoahhkjaa
set_option maxRecDepth 20000
open Go.ChangeShapes Go.WideShapes Go.ChangeAt Go.RowKit

mutual
/-- a tree's bytes -/
def encTr : Tr → List UInt8
  | .nd k n p s args => k.toNat.toUInt8 :: (if k = 0 then encN n else if k = 1 then encN s.size ++ s.data.toList else if k = 2 then p.toNat.toUInt8 :: (encN args.length ++ encTrs args) else encN args.length ++ encTrs args)
def encTrs : List Tr → List UInt8
  | [] => []
  | t :: ts => encTr t ++ encTrs ts
end

theorem encTrs_append (a b : List Tr) : encTrs (a ++ b) = encTrs a ++ encTrs b := by
  induction a with
  | nil => simp [encTrs]
  | cons t ts ih => simp [encTrs, ih]

theorem encTrs_take_succ (l : List Tr) (i : Nat) (h : i < l.length) : encTrs (l.take (i + 1)) = encTrs (l.take i) ++ encTr l[i] := by
  rw [List.take_succ_eq_append_getElem h, encTrs_append]; simp [encTrs]

theorem encTrs_take_len (l : List Tr) (i : Nat) : (encTrs (l.take i)).length ≤ (encTrs l).length := by
  have h := encTrs_append (l.take i) (l.drop i)
  rw [List.take_append_drop] at h; rw [h]; simp

/-- what putting t behind xs comes to -/
def PutPost (B : Nat) (w : World) (vb : Value) (l : List UInt8) (e : Ending) (w' : World) : Prop := ∃ v', e = .returned v' ∧ Owns B w' v' l ∧ Gr w vb w' v'

/-- the contract of putNode at a tree -/
def PutOk (B : Nat) (w0 : World) (v : Value) (t : Tr) : Prop := ∀ (xs : List UInt8) (vb : Value) (w2 : World), Below B w0 w2 → Owns B w2 vb xs → xs.length + (encTr t).length ≤ 1000000 →
  Calls Try.prog 109 #[vb, v] w2 (PutPost B w2 vb (xs ++ encTr t))

set_option maxHeartbeats 400000 in
theorem putArgs_of {B : Nat} {w0 : World} {args : List Tr} {a : Option Addr} {c : Nat} (V : Nat → Value) (hBw : B ≤ w0.heap.size) (hc : ∀ i, i < args.length → NodeAt (· < B) w0 a i (V i)) (hI : ∀ i (h : i < args.length), PutOk B w0 (V i) args[i])
    (xs : List UInt8) (vb : Value) (w2 : World) (hb : Below B w0 w2) (hown : Owns B w2 vb xs) (hlen : xs.length + (encN args.length ++ encTrs args).length ≤ 1000000) (hal : args.length ≤ 1000000) :
    Calls Try.prog 122 #[vb, .slice a args.length c] w2 (PutPost B w2 vb (xs ++ (encN args.length ++ encTrs args))) := by
  have HC := Lf.hide hc
  have HI := Lf.hide hI
  have HB := Lf.hide hb
  have hB2 : B ≤ w2.heap.size := Nat.le_trans hBw hb.size
  have HW := Lf.hide hown
  have HN := Lf.hide (putNumber_any B args.length ⟨by omega, by omega⟩ (by omega) vb xs w2 hown hB2 (by omega))
  rw [List.length_append] at hlen
  clear hc hI hb hown
  go_enter Try.func122, Try.ntmps122
  go_wp2_with fail
  refine HN.out.mono ?_; rintro e w3 ⟨v3, rfl, hown3, hb3⟩
  have HO3 := Lf.hide hown3
  have HB3 := Lf.hide hb3
  clear hown3 hb3 HN
  go_wp2_with fail
  go_loopw [0, 13] (fun v i wr => ∃ j : Nat, j ≤ args.length ∧ i = .int .i64 j ∧ Owns B wr v (xs ++ encN args.length ++ encTrs (args.take j)) ∧ Gr w2 vb wr v) (fun _ i _ => args.length - (intOf i).toNat)
  case atStart => exact ⟨0, Nat.zero_le _, rfl, by simpa [encTrs] using HO3.out, HB3.out⟩
  case round =>
    obtain ⟨j, hj, rfl, ho, hg⟩ := hrel
    have hb := hg.below HW.out hB2
    by_cases hlt : j < args.length
    · have hA := (HC.out j hlt).same (Same.below (HB.out.trans hb))
      obtain ⟨b, o, rfl, hne, k', n', p', s', a', l', c', hv, e0, e1, e2, e3, e4⟩ := hA
      have hts := encTrs_take_succ args j hlt
      have htl := encTrs_take_len args (j + 1)
      have hl1 := congrArg List.length hts
      rw [List.length_append] at hl1
      have hzr : B ≤ wr.heap.size := Nat.le_trans hB2 hb.size
      have hP := HI.out j hlt (xs ++ encN args.length ++ encTrs (args.take j)) u0 (wr.alloc (.cells #[.int .i64 k', .int .i64 n', .int .i64 p', .string s', .slice a' l' c'] 39))
        ((HB.out.trans hb).alloc hzr _) (World.ownsRow.alloc ho _) (by simp only [List.length_append]; omega)
      rw [hv] at hP
      unfold nodeV at hP
      have HP := Lf.hide hP
      have HTS := Lf.hide hts
      have HBR := Lf.hide (hg.alloc (.cells #[.int .i64 k', .int .i64 n', .int .i64 p', .string s', .slice a' l' c'] 39))
      clear hP hts hb hg ho hv htl hl1
      go_wp2_with fail
      refine HP.out.mono ?_; rintro e w4 ⟨v4, rfl, ho4, hb4⟩
      have HO4 := Lf.hide ho4
      have HB4 := Lf.hide hb4
      clear ho4 hb4
      go_wp2_with fail
      go_roundw
      case rel => exact ⟨j + 1, by omega, by go_num, by rw [HTS.out, ← List.append_assoc]; exact HO4.out, HBR.out.trans HB4.out⟩
      case measure => simp [intOf]; omega
    · have hje : j = args.length := by omega
      have HO4 := Lf.hide ho
      have HB4 := Lf.hide hg
      have HJ := Lf.hide hje
      clear ho hb hg hje
      go_wp2_with fail
      go_ret
      have ho := HO4.out
      rw [HJ.out, List.take_length, List.append_assoc] at ho
      exact ⟨_, rfl, ho, HB4.out⟩

theorem wrong_zero {k n p : Int} {s : ByteArray} {l : Nat} (h : Lf.wrongF k n p s l = 0) : (0 ≤ k ∧ k ≤ 3) ∧ (k = 2 → Lf.isPrimB p = true) ∧ Lf.moreB k n p s l = false ∧ (-1152921504606846976 ≤ n ∧ n ≤ 1152921504606846976) ∧ s.size ≤ 200 := by
  unfold Lf.wrongF at h
  by_cases h1 : Lf.isKindB k = false
  · simp [h1] at h
  rw [if_neg h1] at h
  by_cases h2 : k = 2 ∧ Lf.isPrimB p = false
  · simp [h2] at h
  rw [if_neg h2] at h
  by_cases h3 : Lf.moreB k n p s l = true
  · simp [h3] at h
  rw [if_neg h3] at h
  by_cases h4 : n < -1152921504606846976 ∨ 1152921504606846976 < n
  · rw [if_pos h4] at h; omega
  rw [if_neg h4] at h
  by_cases h5 : 200 < s.size
  · rw [if_pos h5] at h; omega
  refine ⟨by simpa [Lf.isKindB] using h1, fun e => ?_, by simpa using h3, by omega, by omega⟩
  simpa [e] using h2

theorem firstW_zero {d : Nat} {k n p : Int} {s : ByteArray} {args : List Tr} (h : firstW d (.nd k n p s args) = 0) : d ≤ 24 ∧ Lf.wrongF k n p s args.length = 0 ∧ firstWs (d + 1) args = 0 := by
  rw [firstW] at h
  by_cases h1 : 24 < d
  · rw [if_pos h1] at h; omega
  rw [if_neg h1] at h
  by_cases h2 : Lf.wrongF k n p s args.length = 0
  · rw [if_neg (by simpa using h2)] at h; exact ⟨by omega, h2, h⟩
  · rw [if_pos h2] at h; exact absurd h h2

theorem firstWs_zero {d : Nat} {args : List Tr} (h : firstWs d args = 0) : ∀ t ∈ args, firstW d t = 0 := by
  induction args with
  | nil => simp
  | cons t ts ih =>
    rw [firstWs] at h
    by_cases h1 : firstW d t = 0
    · rw [if_neg (by simpa using h1)] at h
      intro x hx
      rcases List.mem_cons.1 hx with rfl | hx
      · exact h1
      · exact ih h x hx
    · rw [if_pos h1] at h; exact absurd h h1

theorem prim_range {p : Int} (h : Lf.isPrimB p = true) : 1 ≤ p ∧ p ≤ 95 := by
  simp [Lf.isPrimB] at h; omega

theorem encTr_pos (t : Tr) : 1 ≤ (encTr t).length := by cases t; simp [encTr]

theorem len_le_enc (l : List Tr) : l.length ≤ (encTrs l).length := by
  induction l with
  | nil => simp
  | cons t ts ih => have := encTr_pos t; simp [encTrs]; omega

theorem u8_of (k : Int) (h0 : 0 ≤ k) (h1 : k ≤ 255) : k = (k.toNat.toUInt8).toNat := by
  rw [show k.toNat.toUInt8.toNat = k.toNat % 256 from rfl, Nat.mod_eq_of_lt (by omega)]; omega

theorem PutPost.mk {B : Nat} {w w' : World} {vb v' : Value} {l l' : List UInt8} (ho : Owns B w' v' l') (hg : Gr w vb w' v') (hl : l' = l) : PutPost B w vb l (.returned v') w' := by
  subst hl; exact ⟨v', rfl, ho, hg⟩

set_option maxHeartbeats 400000 in
theorem putNode_any {B : Nat} {w0 : World} {t : Tr} {v : Value} (hBw : B ≤ w0.heap.size) (hL : Lies (· < B) w0 t v) : ∀ d, firstW d t = 0 → PutOk B w0 v t := by
  induction hL with
  | @mk k n p s args a c V hl hS ik iN ip hc hr ih =>
    intro d hf xs vb w2 hb hown hlen
    obtain ⟨hd, hw, hfs⟩ := firstW_zero hf
    obtain ⟨hk, hp, hm, hN, hs⟩ := wrong_zero hw
    have hB2 : B ≤ w2.heap.size := Nat.le_trans hBw hb.size
    have hne : some w2.heap.size ≠ vb.ownBlock := fun e => by have := (World.ownsRow.lt hown _ e.symm).2; omega
    rcases (show k = 0 ∨ k = 1 ∨ k = 2 ∨ k = 3 from by omega) with rfl | rfl | rfl | rfl
    · have he : encTr (.nd 0 n p s args) = (0 : Int).toNat.toUInt8 :: encN n := by simp [encTr]
      rw [he] at hlen ⊢
      unfold nodeV
      have HU := Lf.hide (u8_of 0 (by omega) (by omega))
      have HO := Lf.hide hown
      simp only [List.length_cons] at hlen
      clear hf hw hfs hm hc hr ih hb hown he hk hp
      generalize (0 : Int).toNat.toUInt8 = u at *
      go_enter Try.func109, Try.ntmps109
      go_wp2_with (first
        | (at_builtin; refine app1 B xs u _ (w2.alloc (.cells #[.int .i64 0, .int .i64 n, .int .i64 p, .string s, .slice a args.length c] 39)) vb rfl _ _ rfl rfl rfl (by simp) HU.out (World.ownsRow.alloc HO.out _) (by simp; omega) (by omega) ?_; intro v' w1 hown1 hg1; obtain ⟨b0, b1, b2, b3, b4⟩ := box5 ((hg1.block (k := w2.heap.size) (by simp) hne).trans (heap_alloc_new _ _)); have hz1 := hg1.1.size; have HO1 := Lf.hide hown1; have HG1 := Lf.hide hg1; clear hown1 hg1))
      simp at hz1
      refine (putNumber_any B n iN (by omega) v' (xs ++ [u]) w1 HO1.out (by omega) (by simp; omega)).mono ?_
      rintro e w3 ⟨v3, rfl, ho3, hg3⟩
      have HO3 := Lf.hide ho3
      have HG3 := Lf.hide hg3
      clear ho3 hg3
      go_wp2_with fail
      go_ret
      exact PutPost.mk HO3.out (((Gr.refl _ _).alloc _).trans (HG1.out.trans HG3.out)) (by simp)
    · have he : encTr (.nd 1 n p s args) = (1 : Int).toNat.toUInt8 :: (encN s.size ++ s.data.toList) := by simp [encTr]
      rw [he] at hlen ⊢
      unfold nodeV
      simp only [List.length_cons, List.length_append] at hlen
      have HU := Lf.hide (u8_of 1 (by omega) (by omega))
      have HO := Lf.hide hown
      clear hf hw hfs hm hc hr ih hb hown he hk hp
      generalize (1 : Int).toNat.toUInt8 = u at *
      go_enter Try.func109, Try.ntmps109
      go_wp2_with (first
        | (at_builtin; refine app1 B xs u _ (w2.alloc (.cells #[.int .i64 1, .int .i64 n, .int .i64 p, .string s, .slice a args.length c] 39)) vb rfl (.tmp 5) _ rfl rfl rfl (by simp) HU.out (World.ownsRow.alloc HO.out _) (by simp; omega) (by omega) ?_; intro v' w1 hown1 hg1; obtain ⟨b0, b1, b2, b3, b4⟩ := box5 ((hg1.block (k := w2.heap.size) (by simp) hne).trans (heap_alloc_new _ _)); have hz1 := hg1.1.size; simp at hz1; have HO1 := Lf.hide hown1; have HG1 := Lf.hide hg1; clear hown1 hg1))
      have HN := Lf.hide (fun w' => putNumber_any B s.size ⟨by omega, by omega⟩ (by omega) v' (xs ++ [u]) w')
      go_region_law (first
        | (refine step_append_str B (xs ++ [u] ++ encN s.size) s _ v3 rfl (.tmp 25) (.tmp 27) rfl rfl rfl HO3.out (by simp only [List.length_append, List.length_cons, List.length_nil]; omega) (by simp only [List.length_append, List.length_cons, List.length_nil]; omega) (by omega) ?_; intro v4 w4 hown4 hg4; have HO4 := Lf.hide hown4; have HG4 := Lf.hide hg4; clear hown4 hg4)
        | (go_simp; go_at_call 121; refine (HN.out w1.drew HO1.out.drew (by simp; omega) (by simp; omega)).mono ?_; rintro e w3 ⟨v3, rfl, ho3, hg3⟩; have hgg := HG1.out.trans hg3.ofDrew; obtain ⟨e0, e1, e2, e3, e4⟩ := box5 ((hgg.block (k := w2.heap.size) (by simp) hne).trans (heap_alloc_new _ _)); have hz3 := hg3.1.size; simp at hz3; have HO3 := Lf.hide ho3; have HG3 := Lf.hide hgg; clear ho3 hg3 hgg))
      all_goals
        go_wp2_with fail
        go_ret
        exact PutPost.mk HO4.out (((Gr.refl _ _).alloc _).trans (HG3.out.trans HG4.out)) (by simp)
    · have he : encTr (.nd 2 n p s args) = (2 : Int).toNat.toUInt8 :: p.toNat.toUInt8 :: (encN args.length ++ encTrs args) := by simp [encTr]
      rw [he] at hlen ⊢
      unfold nodeV
      obtain ⟨hp1, hp2⟩ := prim_range (hp rfl)
      have hla := len_le_enc args
      simp only [List.length_cons, List.length_append] at hlen
      have HU := Lf.hide (u8_of 2 (by omega) (by omega))
      have HU2 := Lf.hide (u8_of p (by omega) (by omega))
      have HO := Lf.hide hown
      have HA := Lf.hide (fun xs vb w2 hb ho hl => putArgs_of (c := c) V hBw hc (fun i h => ih i h (d + 1) (firstWs_zero hfs _ (List.getElem_mem h))) xs vb w2 hb ho hl (by omega))
      have HB := Lf.hide hb
      clear hf hw hfs hm hc hr ih hb hown he hk hp
      generalize (2 : Int).toNat.toUInt8 = u at *
      generalize p.toNat.toUInt8 = u2 at *
      go_enter Try.func109, Try.ntmps109
      go_wp2_with (first
        | (at_builtin; refine app1 B xs u _ (w2.alloc (.cells #[.int .i64 2, .int .i64 n, .int .i64 p, .string s, .slice a args.length c] 39)) vb rfl (.tmp 5) _ rfl rfl rfl (by simp) HU.out (World.ownsRow.alloc HO.out _) (by simp; omega) (by omega) ?_; intro v' w1 hown1 hg1; obtain ⟨b0, b1, b2, b3, b4⟩ := box5 ((hg1.block (k := w2.heap.size) (by simp) hne).trans (heap_alloc_new _ _)); have hz1 := hg1.1.size; simp at hz1; have HO1 := Lf.hide hown1; have HG1 := Lf.hide hg1; clear hown1 hg1)
        | (at_builtin; refine app1 B (xs ++ [u]) u2 _ w1 v' rfl (.tmp 31) _ rfl rfl rfl (by simp) HU2.out HO1.out (by omega) (by simp; omega) ?_; intro v3 w3 hown3 hg3; have hgg := HG1.out.trans hg3; obtain ⟨e0, e1, e2, e3, e4⟩ := box5 ((hgg.block (k := w2.heap.size) (by simp) hne).trans (heap_alloc_new _ _)); have HO3 := Lf.hide hown3; have HG3 := Lf.hide hgg; clear hown3 hg3 hgg))
      have hb3 : Below B w0 w3 := (HB.out.alloc hB2 _).trans (HG3.out.below (World.ownsRow.alloc HO.out _) (by simp; omega))
      refine (HA.out (xs ++ [u] ++ [u2]) v3 w3 hb3 HO3.out (by simp only [List.length_append, List.length_cons, List.length_nil]; omega)).mono ?_
      rintro e w4 ⟨v4, rfl, ho4, hg4⟩
      have HO4 := Lf.hide ho4
      have HG4 := Lf.hide hg4
      clear ho4 hg4
      go_wp2_with fail
      go_ret
      exact PutPost.mk HO4.out (((Gr.refl _ _).alloc _).trans (HG3.out.trans HG4.out)) (by simp)
    · have he : encTr (.nd 3 n p s args) = (3 : Int).toNat.toUInt8 :: (encN args.length ++ encTrs args) := by simp [encTr]
      rw [he] at hlen ⊢
      unfold nodeV
      have hla := len_le_enc args
      simp only [List.length_cons, List.length_append] at hlen
      have HU := Lf.hide (u8_of 3 (by omega) (by omega))
      have HO := Lf.hide hown
      have HA := Lf.hide (fun xs vb w2 hb ho hl => putArgs_of (c := c) V hBw hc (fun i h => ih i h (d + 1) (firstWs_zero hfs _ (List.getElem_mem h))) xs vb w2 hb ho hl (by omega))
      have HB := Lf.hide hb
      clear hf hw hfs hm hc hr ih hb hown he hk hp
      generalize (3 : Int).toNat.toUInt8 = u at *
      go_enter Try.func109, Try.ntmps109
      go_wp2_with (first
        | (at_builtin; refine app1 B xs u _ (w2.alloc (.cells #[.int .i64 3, .int .i64 n, .int .i64 p, .string s, .slice a args.length c] 39)) vb rfl (.tmp 5) _ rfl rfl rfl (by simp) HU.out (World.ownsRow.alloc HO.out _) (by simp; omega) (by omega) ?_; intro v' w1 hown1 hg1; obtain ⟨b0, b1, b2, b3, b4⟩ := box5 ((hg1.block (k := w2.heap.size) (by simp) hne).trans (heap_alloc_new _ _)); have hz1 := hg1.1.size; simp at hz1; have HO1 := Lf.hide hown1; have HG1 := Lf.hide hg1; clear hown1 hg1))
      have hb3 : Below B w0 w1 := (HB.out.alloc hB2 _).trans (HG1.out.below (World.ownsRow.alloc HO.out _) (by simp; omega))
      refine (HA.out (xs ++ [u]) v' w1 hb3 HO1.out (by simp only [List.length_append, List.length_cons, List.length_nil]; omega)).mono ?_
      rintro e w4 ⟨v4, rfl, ho4, hg4⟩
      have HO4 := Lf.hide ho4
      have HG4 := Lf.hide hg4
      clear ho4 hg4
      go_wp2_with fail
      go_ret
      exact PutPost.mk HO4.out (((Gr.refl _ _).alloc _).trans (HG1.out.trans HG4.out)) (by simp)

end Go.Proofs.Ytmmgihaoahhkjaa

/- tree.Encode by its contract: a good tree's bytes and no error, or no bytes and what is wrong. -/
namespace Go.Proofs.Ytmmgihaoahhkjaa
set_option maxRecDepth 20000
open Go.ChangeShapes Go.WideShapes Go.ChangeAt Go.RowKit

theorem owns_str {B : Nat} {w : World} {v : Value} {l : List UInt8} (h : Owns B w v l) : (convert 135 9 v).run Try.prog w = .ok (.string ⟨l.toArray⟩) w := by
  have h' := h
  unfold Owns at h'
  rcases h'.2 with ⟨rfl, h0⟩ | ⟨g, cap, cur, rfl, hbg, hg, hnc, hcm, hcs, htake⟩
  · have : l = [] := List.eq_nil_of_length_eq_zero h0
    subst this
    exact run_convert_bytes_nil w 135 5 Try.underlying135 Try.underlying5 0 0 9 Try.underlying9
  · refine run_convert_bytes_back w 135 9 5 ⟨g, 0, none⟩ cap l Try.underlying135 Try.underlying5 Try.underlying9 fun j hj => ?_
    exact World.ownsRow.cells h' (g := g) rfl j _ (by simp [cs, List.getElem?_eq_getElem hj])

mutual
theorem encTr_bound (d : Nat) : ∀ t, firstW d t = 0 → t.size ≤ 1000000 → (encTr t).length ≤ 215 * t.size
  | .nd k n p s args, h, hz => by
    obtain ⟨hd, hw, hfs⟩ := firstW_zero h
    obtain ⟨hk, hp, hm, hN, hs⟩ := wrong_zero hw
    rw [Tr.size] at hz
    have ih := encTrs_bound (d + 1) args hfs (by omega)
    have hle := length_le_sizes args
    have h1 := encN_len n ⟨by omega, by omega⟩
    have h2 := encN_len s.size ⟨by omega, by omega⟩
    have h3 := encN_len args.length ⟨by omega, by omega⟩
    have hsl : s.data.toList.length = s.size := by simp
    rw [encTr, Tr.size]
    by_cases k0 : k = 0
    · rw [if_pos k0]; simp; omega
    rw [if_neg k0]
    by_cases k1 : k = 1
    · rw [if_pos k1]; simp only [List.length_cons, List.length_append, hsl]; omega
    rw [if_neg k1]
    by_cases k2 : k = 2
    · rw [if_pos k2]; simp only [List.length_cons, List.length_append]; omega
    · rw [if_neg k2]; simp only [List.length_cons, List.length_append]; omega
theorem encTrs_bound (d : Nat) : ∀ ts, firstWs d ts = 0 → sizes ts ≤ 1000000 → (encTrs ts).length ≤ 215 * sizes ts
  | [], _, _ => by simp [encTrs]
  | t :: ts, h, hz => by
    rw [sizes] at hz
    have h1 := encTr_bound d t (firstWs_zero h t (by simp)) (by omega)
    have h2 : firstWs d ts = 0 := by
      rw [firstWs] at h
      by_cases h0 : firstW d t = 0
      · rwa [if_neg (by simpa using h0)] at h
      · rw [if_pos h0] at h; exact absurd h h0
    have h3 := encTrs_bound d ts h2 (by omega)
    rw [encTrs, sizes, List.length_append]; omega
end

theorem goodF_zero {t : Tr} (h : goodF t = 0) : firstW 1 t = 0 ∧ t.size ≤ 300 := by
  unfold goodF at h
  by_cases h0 : firstW 1 t = 0
  · rw [if_neg (by simpa using h0)] at h
    by_cases h1 : 300 < t.size
    · rw [if_pos h1] at h; omega
    · exact ⟨h0, by omega⟩
  · rw [if_pos h0] at h; exact absurd h h0

set_option maxHeartbeats 400000 in
theorem encode_yes {w : World} {t : Tr} {v : Value} (hL : Lies (· < w.heap.size) w t v) (hg : goodF t = 0) :
    Calls Try.prog 89 #[v] w fun e w' => e = .returned (.tuple #[.string ⟨(encTr t).toArray⟩, .int .i64 0]) ∧ w.grownBy w' none := by
  obtain ⟨h1, h2⟩ := goodF_zero hg
  have hlen := encTr_bound 1 t h1 (by omega)
  have hv : ∃ k n p s a l c, v = nodeV k n p s a l c := by cases hL; exact ⟨_, _, _, _, _, _, _, rfl⟩
  obtain ⟨k, n, p, s, a, l, c, hv⟩ := hv
  have hL1 : ∀ o, Lies (· < (w.alloc o).heap.size) (w.alloc o) t v := fun o => (hL.same (w' := w.alloc o) (fun b _ hb _ => World.cell?_alloc_lt _ _ _ hb)).okMono (fun b _ hb => by simp; have : b < w.heap.size := hb; omega)
  have hG := good_any (hL1 (.cells #[.int .i64 k, .int .i64 n, .int .i64 p, .string s, .slice a l c] 39)) (by omega)
  have hP : ∀ w', (w.alloc (.cells #[.int .i64 k, .int .i64 n, .int .i64 p, .string s, .slice a l c] 39)).grownBy w' none → Calls Try.prog 109 #[.slice none 0 0, v] w' (PutPost w'.heap.size w' (.slice none 0 0) (encTr t)) := by
    intro w' hgr
    have hs : Same (· < (w.alloc (.cells #[.int .i64 k, .int .i64 n, .int .i64 p, .string s, .slice a l c] 39)).heap.size) (w.alloc (.cells #[.int .i64 k, .int .i64 n, .int .i64 p, .string s, .slice a l c] 39)) w' := fun b o hb _ => Lf.gcell hgr b o hb
    have hL2 := ((hL1 _).same hs).okMono (ok' := (· < w'.heap.size)) (fun b hb _ => hb)
    exact putNode_any (Nat.le_refl _) hL2 1 h1 [] (.slice none 0 0) w' (Below.refl _ _) (World.ownsRow_nil _ _ _ _) (by simp; omega)
  rw [hg] at hG
  rw [hv] at hG hP ⊢
  unfold nodeV at hG hP ⊢
  have HG := Lf.hide hG
  have HP := Lf.hide hP
  clear hG hP hL hL1 hv hg h1 h2 hlen
  generalize encTr t = l' at *
  go_enter Try.func89, Try.ntmps89
  go_wp2_with fail
  refine HG.out.mono ?_; rintro e w1 ⟨rfl, hg1⟩
  obtain ⟨b0, b1, b2, b3, b4⟩ := box5 ((hg1.block w.heap.size (by simp) (by simp)).trans (heap_alloc_new _ _))
  have HG1 := Lf.hide hg1
  clear hg1
  go_wp2_with fail
  refine (HP.out _ HG1.out).mono ?_; rintro e w2 ⟨v2, rfl, ho, hg2⟩
  have hstr := owns_str ho
  have HG2 := Lf.hide hg2.1
  clear ho hg2
  go_wp2_with fail
  go_ret2
  refine ⟨rfl, Lf.gbt (Lf.gb _) (Lf.gbt HG1.out ?_)⟩
  exact HG2.out

theorem encode_no {w : World} {t : Tr} {v : Value} (hL : Lies (· < w.heap.size) w t v) (hz : t.size ≤ 4611686018427387904 - 1) (hg : goodF t ≠ 0) :
    Calls Try.prog 89 #[v] w fun e w' => e = .returned (.tuple #[.string ⟨#[]⟩, .int .i64 (goodF t)]) ∧ w.grownBy w' none := by
  have hv : ∃ k n p s a l c, v = nodeV k n p s a l c := by cases hL; exact ⟨_, _, _, _, _, _, _, rfl⟩
  obtain ⟨k, n, p, s, a, l, c, hv⟩ := hv
  have hL1 : ∀ o, Lies (· < (w.alloc o).heap.size) (w.alloc o) t v := fun o => (hL.same (w' := w.alloc o) (fun b _ hb _ => World.cell?_alloc_lt _ _ _ hb)).okMono (fun b _ hb => by simp; have : b < w.heap.size := hb; omega)
  have hG := good_any (hL1 (.cells #[.int .i64 k, .int .i64 n, .int .i64 p, .string s, .slice a l c] 39)) (by omega)
  rw [hv] at hG ⊢
  unfold nodeV at hG ⊢
  have HG := Lf.hide hG
  clear hG hL hL1 hv
  generalize goodF t = x at *
  go_enter Try.func89, Try.ntmps89
  go_wp2_with fail
  refine HG.out.mono ?_; rintro e w1 ⟨rfl, hg1⟩
  have HG1 := Lf.hide hg1
  clear hg1
  go_wp2_with fail
  go_ret2
  exact ⟨rfl, Lf.gbt (Lf.gb _) HG1.out⟩

end Go.Proofs.Ytmmgihaoahhkjaa
