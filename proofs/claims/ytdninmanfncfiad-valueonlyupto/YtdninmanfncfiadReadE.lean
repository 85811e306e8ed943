/- readEach by its contract, given what read does with smaller trees. -/
import Derived.Test.YtdninmanfncfiadReadB
import Derived.Test.YtdninmanfncfiadListsV
import Derived.Test.YtdninmanfncfiadWorth
import Derived.Deep.RegionHeld3
import Derived.Deep.DeepCutAuto
namespace Go.Proofs.Ytdninmanfncfiad
set_option maxRecDepth 20000
open Go.ChangeShapes Go.WideShapes Go.ChangeAt Go.RowKit
set_option linter.unusedVariables false

/-- what read answers -/
def ReadPost (t : Tr) (T : Ty) (W : World) (e : Ending) (w' : World) : Prop :=
  W.grownBy w' none ∧ ∃ k n a s aa al ac ta tl tc na nl nc bb, e = .returned (.tuple #[vaV k n a s aa al ac ta tl tc na nl nc, .bool bb]) ∧
    (bb = true → ∃ x, readT t T = some x ∧ LiesV (W.heap.size ≤ ·) w' x (vaV k n a s aa al ac ta tl tc na nl nc)) ∧ (bb = false → readT t T = none)

/-- read does so with all trees of N nodes at most -/
def ReadN (N : Nat) : Prop := ∀ (t : Tr) (T : Ty) (u tv : Value) (W : World) (d : Nat), t.size ≤ N → t.size ≤ 900 → Lies (fun _ => True) W t u → LiesT (fun _ => True) W T tv → formedB d T = true → Calls Try.prog 18 #[tv, u] W (ReadPost t T W)

/-- what readEach and readElts answer -/
def EachPost (r : Option (List Va)) (W : World) (e : Ending) (w' : World) : Prop :=
  W.grownBy w' none ∧ ((∃ xs, r = some xs ∧ ∃ a c V, e = .returned (.tuple #[.slice a xs.length c, .bool true]) ∧ xs.length ≤ c ∧ RowVa (W.heap.size ≤ ·) w' xs a V) ∨ (r = none ∧ e = .returned (.tuple #[.slice none 0 0, .bool false])))

theorem readTs_len : ∀ (l : List Tr) (ts : List Ty), l.length ≠ ts.length → readTs l ts = none
  | [], [], h => by simp at h
  | [], _ :: _, _ => by simp [readTs]
  | _ :: _, [], _ => by simp [readTs]
  | t :: l, T :: ts, h => by
    rw [readTs]
    cases readT t T with
    | none => rfl
    | some x => simp [readTs_len l ts (by simpa using h)]

theorem ListOkV.slice {H : Nat} {w : World} {v : Value} {ts : List Va} {vs : List Value} (h : ListOkV H w v ts vs) : ∃ la lc, v = .slice la vs.length lc := by
  rcases h.own.2 with ⟨rfl, h0⟩ | ⟨g, cap, cur, rfl, _⟩
  · exact ⟨none, 0, by rw [h0]⟩
  · exact ⟨_, _, rfl⟩

theorem ListOkV.call {H : Nat} {w w' : World} {v : Value} {ts : List Va} {vs : List Value} (h : ListOkV H w v ts vs) (hg : w.grownBy w' none) : ListOkV H w' v ts vs := by
  refine ⟨World.ownsRow.kept h.own hg ?_, h.len, fun i t u ht hu => (h.lies i t u ht hu).same (fun b o _ hlt => World.cell?_of_block (hg.block b hlt (by simp)))⟩
  cases v.ownBlock <;> simp

theorem grow_set7New {w0 w : World} {b : Nat} {v0 v1 v2 v3 v4 v5 v6 : Value} (h : w0.grownBy w none) (hb : w0.heap.size ≤ b) : w0.grownBy (((((((w.setCell ⟨b, 0, none⟩ v0).setCell ⟨b, 1, none⟩ v1).setCell ⟨b, 2, none⟩ v2).setCell ⟨b, 3, none⟩ v3).setCell ⟨b, 4, none⟩ v4).setCell ⟨b, 5, none⟩ v5).setCell ⟨b, 6, none⟩ v6) none :=
  grow_setNew (grow_setNew (grow_setNew (grow_setNew (grow_setNew (grow_setNew (grow_setNew h hb _ _ _) hb _ _ _) hb _ _ _) hb _ _ _) hb _ _ _) hb _ _ _) hb _ _ _

/-- behind read's call: what it answered lies in a block -/
def RdCut (t : Tr) (T : Ty) (wr : World) (p q : Value) (wx : World) : Prop :=
  ∃ b9 k n a s aa al ac ta tl tc na nl nc bb, p = .pointer (some ⟨b9, 0, none⟩) ∧ q = .bool bb ∧ wx.heap[b9]? = some (.cells #[.int .i64 k, .int .i64 n, .int .i64 a, .string s, .slice aa al ac, .slice ta tl tc, .slice na nl nc] 30 (0, 0)) ∧ wr.grownBy wx none ∧
    (bb = true → ∃ x, readT t T = some x ∧ LiesV (wr.heap.size ≤ ·) wx x (vaV k n a s aa al ac ta tl tc na nl nc)) ∧ (bb = false → readT t T = none)

theorem rdCut_one {t : Tr} {T : Ty} {wr w5 w2 : World} {k n a : Int} {s : ByteArray} {aa : Option Addr} {al ac : Nat} {ta : Option Addr} {tl tc : Nat} {na : Option Addr} {nl nc : Nat} {bb : Bool} (h5 : wr.grownBy w5 none) (hg : w5.drew.grownBy w2 none)
    (h1 : bb = true → ∃ x, readT t T = some x ∧ LiesV (w5.drew.heap.size ≤ ·) w2 x (vaV k n a s aa al ac ta tl tc na nl nc)) (h2 : bb = false → readT t T = none) :
    RdCut t T wr (.pointer (some ⟨w2.heap.size, 0, none⟩)) (.bool bb) (w2.alloc (.cells #[.int .i64 k, .int .i64 n, .int .i64 a, .string s, .slice aa al ac, .slice ta tl tc, .slice na nl nc] 30)) := by
  refine ⟨_, k, n, a, s, aa, al, ac, ta, tl, tc, na, nl, nc, bb, rfl, rfl, heap_alloc_new _ _, Lf.gbt (Lf.gbt (grow_drew h5) hg) (Lf.gb _), fun hb => ?_, h2⟩
  obtain ⟨x, e, hL⟩ := h1 hb
  refine ⟨x, e, (hL.same (fun b o _ hlt => World.cell?_of_block ((Lf.gb (w := w2) _).block b hlt (by simp)))).okMono (fun b _ h => ?_)⟩
  have : w5.heap.size ≤ b := h
  have := h5.size
  omega

theorem rdCut_two {t : Tr} {T : Ty} {wr w5 w2 : World} {o : Obj} {k n a : Int} {s : ByteArray} {aa : Option Addr} {al ac : Nat} {ta : Option Addr} {tl tc : Nat} {na : Option Addr} {nl nc : Nat} {bb : Bool} {x0 x1 x2 x3 x4 x5 x6 : Value} (h5 : wr.grownBy w5 none) (hg : (w5.drew.alloc o).grownBy w2 none) (hb : w2.heap[w5.heap.size]? = some (.cells #[x0, x1, x2, x3, x4, x5, x6] 30 (0, 0)))
    (h1 : bb = true → ∃ x, readT t T = some x ∧ LiesV ((w5.drew.alloc o).heap.size ≤ ·) w2 x (vaV k n a s aa al ac ta tl tc na nl nc)) (h2 : bb = false → readT t T = none) :
    RdCut t T wr (.pointer (some ⟨w5.heap.size, 0, none⟩)) (.bool bb) (set7 w2 w5.heap.size (.int .i64 k) (.int .i64 n) (.int .i64 a) (.string s) (.slice aa al ac) (.slice ta tl tc) (.slice na nl nc)) := by
  have hgs := set7_grow w2 w5.heap.size (.int .i64 k) (.int .i64 n) (.int .i64 a) (.string s) (.slice aa al ac) (.slice ta tl tc) (.slice na nl nc)
  refine ⟨_, k, n, a, s, aa, al, ac, ta, tl, tc, na, nl, nc, bb, rfl, rfl, set7_block hb _ _ _ _ _ _ _, grow_new (Lf.gbt (Lf.gbt (grow_drew h5) (Lf.gb _)) hg) hgs h5.size, fun hbb => ?_, h2⟩
  obtain ⟨x, e, hL⟩ := h1 hbb
  have hz : (w5.drew.alloc o).heap.size = w5.heap.size + 1 := World.size_alloc _ _
  rw [hz] at hL
  refine ⟨x, e, (hL.same (fun b o hb hlt => World.cell?_of_block (hgs.block b hlt (by simp; have : w5.heap.size + 1 ≤ b := hb; omega)))).okMono (fun b _ h => ?_)⟩
  have : w5.heap.size + 1 ≤ b := h
  have := h5.size
  omega

set_option maxRecDepth 100000 in
set_option maxHeartbeats 800000 in
theorem readEach_any {N : Nat} (hN0 : ReadN N) {W : World} {l : List Tr} {ts : List Ty} {la ta : Option Addr} {lc tc : Nat} {VL VT : Nat → Value} {d : Nat} (hL : RowN (fun _ => True) W l la VL) (hT : RowT (fun _ => True) W ts ta VT) (hf : ∀ U ∈ ts, formedB d U = true) (hz : sizes l ≤ N) (hz9 : sizes l ≤ 900) :
    Calls Try.prog 44 #[.slice la l.length lc, .slice ta ts.length tc] W (EachPost (readTs l ts) W) := by
  have hll := length_le_sizes l
  have htm := hT.1
  unfold maxLen at htm
  by_cases hlen : l.length = ts.length
  · have HIH : Hid (∀ (j : Nat) (h : j < l.length) (h2 : j < ts.length) (W2 : World), W.grownBy W2 none → Calls Try.prog 18 #[VT j, VL j] W2 (ReadPost l[j] ts[j] W2)) := fun j h h2 W2 hg => by
      have h3 : (l[j]).size ≤ sizes l := by
        have h4 := sizes_take_succ l j h
        have h5 := sizes_take_le l (j + 1)
        omega
      exact hN0 _ _ _ _ W2 d (by omega) (by omega) ((hL.2.2 j h).same (sameAll hg)) ((hT.2.2 j h2).same (sameAll hg)) (hf _ (List.getElem_mem h2))
    have HL := Lf.hide hL
    have HT := Lf.hide hT
    have HLEN := Lf.hide hlen
    clear hN0 hL hT hf hz
    rw [← hlen]
    clear hlen
    go_enter Try.func44, Try.ntmps44
    go_wp2_with fail
    go_loopw [6, 18] (fun lv iv wr => ∃ (xs : List Va) (vs : List Value), iv = .int .i64 vs.length ∧ vs.length ≤ l.length ∧ ListOkV W.heap.size wr lv xs vs ∧ W.grownBy wr none ∧ readTs l ts = (readTs (l.drop vs.length) (ts.drop vs.length)).map (xs ++ ·)) (fun _ iv _ => l.length - (intOf iv).toNat)
    case atStart => exact ⟨[], [], rfl, Nat.zero_le _, ⟨World.ownsRow_nil _ _ _ _, rfl, fun i t u h => by simp at h⟩, grow_refl _ _, by simp⟩
    case round =>
      obtain ⟨xs, vs, rfl, hj, hK, hg, hr⟩ := hrel
      obtain ⟨ra, rc, rfl⟩ := hK.slice
      have hxl := hK.len
      by_cases hlt : vs.length < l.length
      · have hlt2 : vs.length < ts.length := by have := HLEN.out; omega
        obtain ⟨b, o, rfl, _, k', n', p', s', a', l', c', hv, h0, h1, h2, h3, h4⟩ := (HL.out.2.1 vs.length hlt).same (w' := wr) (sameAll hg)
        obtain ⟨b2, o2, rfl, _, t2, a2, l2, c2, hv2, e0, e1⟩ := (HT.out.2.1 vs.length hlt2).same (w' := wr) (sameAll hg)
        have hbl : b < wr.heap.size := World.block_lt_of_cell? wr _ h0
        have hbl2 : b2 < wr.heap.size := World.block_lt_of_cell? wr _ e0
        have hd1 : l.drop vs.length = l[vs.length] :: l.drop (vs.length + 1) := List.drop_eq_getElem_cons hlt
        have hd2 : ts.drop vs.length = ts[vs.length] :: ts.drop (vs.length + 1) := List.drop_eq_getElem_cons hlt2
        have hih : ∀ W2, wr.grownBy W2 none → Calls Try.prog 18 #[tyV t2 a2 l2 c2, nodeV k' n' p' s' a' l' c'] W2 (ReadPost l[vs.length] ts[vs.length] W2) := fun W2 hW2 => by
          have := HIH.out vs.length hlt hlt2 W2 (Lf.gbt hg hW2)
          rw [hv, hv2] at this
          exact this
        have HC := Lf.hide hih
        rw [hd1, hd2, readTs] at hr
        have HR := Lf.hide hr
        have HK := Lf.hide hK
        have HG := Lf.hide hg
        have HXL := Lf.hide hxl
        clear hih hr hd1 hd2 hK hg hv hv2 hxl
        unfold tyV nodeV at HC
        go_wp2_with fail
        have hw5 := Lf.gb (w := wr) (.cells #[.int .i64 k', .int .i64 n', .int .i64 p', .string s', .slice a' l' c'] 27)
        have hn5 := heap_alloc_new wr (.cells #[.int .i64 k', .int .i64 n', .int .i64 p', .string s', .slice a' l' c'] 27)
        generalize wr.alloc (.cells #[.int .i64 k', .int .i64 n', .int .i64 p', .string s', .slice a' l' c'] 27) = w5 at *
        have k1 : ∀ W3 : World, w5.grownBy W3 none → W3.heap[wr.heap.size]? = _ := fun W3 h => (h.block _ (Array.getElem?_eq_some_iff.1 hn5).1 (by simp)).trans hn5
        have f0 : ∀ W3 : World, w5.grownBy W3 none → W3.cell? ⟨wr.heap.size, 0, none⟩ = some (.int .i64 k') := fun W3 h => (box5 (k1 W3 h)).1
        have f1 : ∀ W3 : World, w5.grownBy W3 none → W3.cell? ⟨wr.heap.size, 1, none⟩ = some (.int .i64 n') := fun W3 h => (box5 (k1 W3 h)).2.1
        have f2 : ∀ W3 : World, w5.grownBy W3 none → W3.cell? ⟨wr.heap.size, 2, none⟩ = some (.int .i64 p') := fun W3 h => (box5 (k1 W3 h)).2.2.1
        have f3 : ∀ W3 : World, w5.grownBy W3 none → W3.cell? ⟨wr.heap.size, 3, none⟩ = some (.string s') := fun W3 h => (box5 (k1 W3 h)).2.2.2.1
        have f4 : ∀ W3 : World, w5.grownBy W3 none → W3.cell? ⟨wr.heap.size, 4, none⟩ = some (.slice a' l' c') := fun W3 h => (box5 (k1 W3 h)).2.2.2.2
        have g0 : ∀ W3 : World, w5.grownBy W3 none → W3.cell? ⟨b2, o2 + vs.length * 2, none⟩ = some (.int .i64 t2) := fun W3 h => (World.cell?_of_block ((Lf.gbt hw5 h).block b2 hbl2 (by simp))).trans e0
        have g1 : ∀ W3 : World, w5.grownBy W3 none → W3.cell? ⟨b2, o2 + vs.length * 2 + 1, none⟩ = some (.slice a2 l2 c2) := fun W3 h => (World.cell?_of_block ((Lf.gbt hw5 h).block b2 hbl2 (by simp))).trans e1
        have HW5 := Lf.hide hw5
        clear k1 hw5 hn5 h0 h1 h2 h3 h4 e0 e1
        go_cut [9, 10] (fun p q wx => RdCut l[vs.length] ts[vs.length] wr p q wx)
        case first =>
          go_region_held3 (fun w' => w5.grownBy w' none) (first | with_reducible assumption | with_reducible exact grow_set7New (by assumption) (Nat.le_refl _) | with_reducible exact Lf.gbt (by assumption) (Lf.gb _) | with_reducible exact grow_drew (grow_refl _ _) | with_reducible exact grow_drew (Lf.gb _)) (first
            | (go_at_call 18; refine (HC.out _ (Lf.gbt HW5.out (by assumption))).mono ?_; rintro e w2 hpost; obtain ⟨hgp, kk, nn, aa, ss, xa, xl, xc, ya, yl, yc, za, zl, zc, bb, rfl, hpt, hpf⟩ := hpost; have HPT := Lf.hide hpt; have HPF := Lf.hide hpf; have HGP := Lf.hide hgp; have hS := Lf.gbt (by assumption) hgp; have hb9 : w2.heap[w5.heap.size]? = some (.cells #[.int .i64 0, .int .i64 0, .int .i64 0, .string ⟨#[]⟩, .slice none 0 0, .slice none 0 0, .slice none 0 0] 30 (0, 0)) := (hgp.block _ (by simp) (by simp)).trans (heap_alloc_new w5.drew _); obtain ⟨v0, v1, v2, v3, v4, v5, v6⟩ := box7 hb9; have fz := free7 hb9; have HB9 := Lf.hide hb9; clear hpt hpf hgp hb9 f0 f1 f2 f3 f4 g0 g1; unfold vaV)
            | (go_at_call 18; refine (HC.out _ (Lf.gbt HW5.out (by assumption))).mono ?_; rintro e w2 hpost; obtain ⟨hgp, kk, nn, aa, ss, xa, xl, xc, ya, yl, yc, za, zl, zc, bb, rfl, hpt, hpf⟩ := hpost; have HPT := Lf.hide hpt; have HPF := Lf.hide hpf; have HGP := Lf.hide hgp; have hS := Lf.gbt (by assumption) hgp; clear hpt hpf hgp f0 f1 f2 f3 f4 g0 g1; unfold vaV))
          all_goals
            go_wp2_with fail
            go_meet
            first
            | with_reducible exact rdCut_one HW5.out HGP.out HPT.out HPF.out
            | exact rdCut_two HW5.out HGP.out HB9.out HPT.out HPF.out
        case rest =>
          obtain ⟨b9, kk, nn, aa, ss, xa, xl, xc, ya, yl, yc, za, zl, zc, bb, rfl, rfl, hb9, hgx, hpt, hpf⟩ := hcut
          obtain ⟨v0, v1, v2, v3, v4, v5, v6⟩ := box7 hb9
          cases bb with
          | false =>
            have hnone : readTs l ts = none := by
              have h := HR.out
              rw [hpf rfl] at h
              exact h
            have HN := Lf.hide hnone
            have HGX := Lf.hide (Lf.gbt HG.out hgx)
            clear hnone hgx hpt hpf hb9 f0 f1 f2 f3 f4 g0 g1 HR HC HIH
            go_wp2_with fail
            go_ret2
            exact ⟨HGX.out, .inr ⟨HN.out, rfl⟩⟩
          | true =>
            obtain ⟨x, hx, hLx⟩ := hpt rfl
            have hr2 : readTs l ts = (readTs (l.drop (vs.length + 1)) (ts.drop (vs.length + 1))).map (xs ++ [x] ++ ·) := by
              have h := HR.out
              rw [hx] at h
              rw [h]
              cases readTs (l.drop (vs.length + 1)) (ts.drop (vs.length + 1)) <;> simp
            have HR2 := Lf.hide hr2
            have HGX := Lf.hide (Lf.gbt HG.out hgx)
            have HLX := Lf.hide hLx
            have HKX := Lf.hide (HK.out.call hgx)
            have HOB : Hid (∀ k, (Value.slice ra vs.length rc).ownBlock = some k → k < wr.heap.size) := fun k hk => (World.ownsRow.lt HK.out.own k hk).2
            have hzx : W.heap.size ≤ wc.heap.size := HGX.out.size
            have hzw : W.heap.size ≤ wr.heap.size := HG.out.size
            clear hr2 hLx hx hgx hpt hpf hb9 f0 f1 f2 f3 f4 g0 g1 HR HC HIH
            go_wp2_with (at_builtin; refine appVa W.heap.size vs kk nn aa ss xa xl xc ya yl yc za zl zc wc (.slice ra vs.length rc) rfl (.tmp 34) (.tmp 36) rfl rfl rfl rfl HKX.out.own hzx (by omega) ?_; intro g cap w5 ho5 hg5; have HK5 := Lf.hide (HKX.out.push (S := wr.heap.size) hzw HOB.out HLX.out hg5 ho5); have HG5 := Lf.hide (grow_own HGX.out HKX.out.own (Nat.le_refl _) hg5.1); clear ho5 hg5)
            refine ⟨⟨xs ++ [x], vs ++ [vaV kk nn aa ss xa xl xc ya yl yc za zl zc], by simp, by simp; omega, ?_, HG5.out, ?_⟩, by simp [intOf]; omega⟩
            · have h := HK5.out
              simpa using h
            · have h := HR2.out
              simpa using h
      · have hje : vs.length = l.length := by omega
        have hend : readTs l ts = some xs := by
          have h2 := HLEN.out
          rw [hr, List.drop_of_length_le (by omega), List.drop_of_length_le (by omega), readTs]
          simp
        have hlx : xs.length ≤ maxLen := by unfold maxLen; omega
        obtain ⟨a, c, V, hv, hc, hrow⟩ := hK.done hlx
        have HE := Lf.hide hend
        have HROW := Lf.hide hrow
        have HG := Lf.hide hg
        have HV := Lf.hide hv
        have HCC := Lf.hide hc
        have hlti : ¬ (vs.length : Int) < (l.length : Int) := by omega
        clear hend hrow hg hv hc hr hK hje HIH hlx hxl
        go_wp2_with fail
        go_ret2
        exact ⟨HG.out, .inl ⟨xs, HE.out, a, c, V, by rw [HV.out]; rfl, HCC.out, HROW.out⟩⟩
  · have hn := readTs_len l ts hlen
    have HN := Lf.hide hn
    have hb : ((l.length : Int) == (ts.length : Int)) = false := by simpa using (by omega : ¬ (l.length : Int) = ts.length)
    clear hN0 hL hT hf hn
    have hne : ¬ (l.length : Int) = (ts.length : Int) := by omega
    clear hlen
    go_enter Try.func44, Try.ntmps44
    go_wp2_with fail
    go_ret2
    exact ⟨grow_refl _ _, .inr ⟨HN.out, rfl⟩⟩

end Go.Proofs.Ytdninmanfncfiad
