/- readElts by its contract, given what read does with smaller trees. -/
import Derived.Test.YtdninmanfncfiadReadE
namespace Go.Proofs.Ytdninmanfncfiad
set_option maxRecDepth 20000
open Go.ChangeShapes Go.WideShapes Go.ChangeAt Go.RowKit
set_option linter.unusedVariables false

theorem Lies.invN {ok : Nat → Prop} {w : World} {t : Tr} {u : Value} (h : Lies ok w t u) : ∃ a c V, u = Go.Proofs.Ytdninmanfncfiad.nodeV t.k0 t.n0 t.p0 t.s0 a t.args0.length c ∧ (I64 t.k0 ∧ I64 t.n0 ∧ I64 t.p0 ∧ t.s0.size ≤ maxLen) ∧ RowN ok w t.args0 a V := by
  cases h with
  | mk V hl hs ik iN ip hc hr => exact ⟨_, _, V, rfl, ⟨ik, iN, ip, hs⟩, hl, hc, hr⟩

theorem readEs_cons (t : Tr) (l : List Tr) (ts : List Ty) : readEs (t :: l) ts = match readTs t.args0 ts with
    | none => none
    | some ys => if t.p0 = 28 then (readEs l ts).map (leafVa 11 0 ⟨#[]⟩ ys :: ·) else none := by
  cases t; rw [readEs]; rfl

theorem lt_of_blk2 {w : World} {b : Nat} {o : Obj} (h : w.heap[b]? = some o) : b < w.heap.size := (Array.getElem?_eq_some_iff.1 h).1

theorem tsize_eq (t : Tr) : t.size = sizes t.args0 + 1 := by cases t; rw [Tr.size]; rfl

theorem liesV_leaf {ok : Nat → Prop} {w : World} {k n : Int} {s : ByteArray} {ys : List Va} {a : Option Addr} {c : Nat} {V : Nat → Value} (ik : I64 k) (iN : I64 n) (hs : s.size ≤ maxLen) (hR : RowVa ok w ys a V) (hc : ys.length ≤ c) : LiesV ok w (leafVa k n s ys) (vaV k n 0 s a ys.length c none 0 0 none 0 0) :=
  LiesV.of (types := []) (code := []) (VT := fun _ => .int .i64 0) (VN := fun _ => .int .i64 0) hc hs ik iN ⟨by omega, by omega⟩ hR (RowT.nil _ _ _ _) (RowN.nil _ _ _ _)

set_option maxRecDepth 100000 in
set_option maxHeartbeats 1000000 in
theorem readElts_any {N : Nat} (hN0 : ReadN N) {W : World} {T : Ty} {tv : Value} {l : List Tr} {la : Option Addr} {lc : Nat} {VL : Nat → Value} {d : Nat} (hT0 : LiesT (fun _ => True) W T tv) (hL : RowN (fun _ => True) W l la VL) (hf : ∀ U ∈ T.args, formedB d U = true) (hz : sizes l ≤ N) (hz9 : sizes l ≤ 900) :
    Calls Try.prog 46 #[tv, .slice la l.length lc] W (EachPost (readEs l T.args) W) := by
  obtain ⟨ta, tc, VT, rfl, it, hT⟩ := hT0.inv
  have hll := length_le_sizes l
  have htm := hT.1
  unfold maxLen at htm
  have HIH : Hid (∀ (j : Nat) (h : j < l.length), ∃ a c, VL j = nodeV l[j].k0 l[j].n0 l[j].p0 l[j].s0 a l[j].args0.length c ∧ ∀ (W2 : World), W.grownBy W2 none → Calls Try.prog 44 #[.slice a l[j].args0.length c, .slice ta T.args.length tc] W2 (EachPost (readTs l[j].args0 T.args) W2)) := fun j h => by
    have h3 : (l[j]).size ≤ sizes l := by
      have h4 := sizes_take_succ l j h
      have h5 := sizes_take_le l (j + 1)
      omega
    have h6 := tsize_eq l[j]
    obtain ⟨a, c, V, e, _, hR⟩ := (hL.2.2 j h).invN
    exact ⟨a, c, e, fun W2 hg => readEach_any hN0 (hR.same (sameAll hg)) (hT.same (sameAll hg)) hf (by omega) (by omega)⟩
  have HL := Lf.hide hL
  have hB0 := heap_alloc_new W (.cells #[.int .i64 T.t, .slice ta T.args.length tc] 24)
  have HB0 := Lf.hide hB0
  clear hN0 hL hT hf hz hT0 it hB0
  unfold tyV
  go_enter Try.func46, Try.ntmps46
  go_wp2_with fail
  go_loopw [6, 13] (fun lv iv wr => ∃ (xs : List Va) (vs : List Value), iv = .int .i64 vs.length ∧ vs.length ≤ l.length ∧ ListOkV W.heap.size wr lv xs vs ∧ W.grownBy wr none ∧ wr.heap[W.heap.size]? = some (.cells #[.int .i64 T.t, .slice ta T.args.length tc] 24 (0, 0)) ∧ readEs l T.args = (readEs (l.drop vs.length) T.args).map (xs ++ ·)) (fun _ iv _ => l.length - (intOf iv).toNat)
  case atStart => exact ⟨[], [], rfl, Nat.zero_le _, ⟨World.ownsRow_nil _ _ _ _, rfl, fun i t u h => by simp at h⟩, Lf.gb _, HB0.out, by simp⟩
  case round =>
    obtain ⟨xs, vs, rfl, hj, hK, hg, hbx, hr⟩ := hrel
    obtain ⟨ra, rc, rfl⟩ := hK.slice
    have hxl := hK.len
    by_cases hlt : vs.length < l.length
    · obtain ⟨ca, cc, hcv, hcall⟩ := HIH.out vs.length hlt
      obtain ⟨b, o, rfl, _, k', n', p', s', a', l', c', hv, h0, h1, h2, h3, h4⟩ := (HL.out.2.1 vs.length hlt).same (w' := wr) (sameAll hg)
      have hbl : b < wr.heap.size := World.block_lt_of_cell? wr _ h0
      have hd1 : l.drop vs.length = l[vs.length] :: l.drop (vs.length + 1) := List.drop_eq_getElem_cons hlt
      rw [hd1, readEs_cons] at hr
      rw [hv] at hcv
      unfold nodeV at hcv
      simp only [Value.agg.injEq, Array.mk.injEq, List.cons.injEq, Value.int.injEq, Value.slice.injEq, true_and, and_true] at hcv
      obtain ⟨-, -, ep, -, rfl, el, rfl⟩ := hcv
      rw [← ep] at hr
      have hih : ∀ W2, wr.grownBy W2 none → Calls Try.prog 44 #[.slice a' l' c', .slice ta T.args.length tc] W2 (EachPost (readTs l[vs.length].args0 T.args) W2) := fun W2 hW2 => by
        have := hcall W2 (Lf.gbt hg hW2)
        rw [← el] at this
        exact this
      have hbz := lt_of_blk2 hbx
      have q0 := cell0_of hbx
      have q1 := cell1_of hbx
      have HC := Lf.hide hih
      have HR := Lf.hide hr
      have HK := Lf.hide hK
      have HG := Lf.hide hg
      have HXL := Lf.hide hxl
      have HBX := Lf.hide hbx
      have HN5 := Lf.hide (heap_alloc_new wr (.cells #[.int .i64 k', .int .i64 n', .int .i64 p', .string s', .slice a' l' c'] 27))
      have HG5 := Lf.hide (Lf.gb (w := wr) (.cells #[.int .i64 k', .int .i64 n', .int .i64 p', .string s', .slice a' l' c'] 27))
      generalize readTs l[vs.length].args0 T.args = rr at *
      clear hih hr hd1 hK hg hv hxl hcall ep el hbx
      go_wp2_with fail
      refine (HC.out _ HG5.out).mono ?_; rintro e w3 ⟨hg3, hw⟩
      have hn3 := (hg3.block _ (lt_of_blk2 HN5.out) (by simp)).trans HN5.out
      obtain ⟨m0, m1, m2, m3, m4⟩ := box5 hn3
      have HG3 := Lf.hide (Lf.gbt HG5.out hg3)
      rcases hw with ⟨ys, rfl, ya, yc, V, rfl, hyc, hrow⟩ | ⟨rfl, rfl⟩
      · by_cases hp : p' = 28
        · subst hp
          have hr2 : readEs l T.args = (readEs (l.drop (vs.length + 1)) T.args).map (xs ++ [leafVa 11 0 ⟨#[]⟩ ys] ++ ·) := by
            rw [HR.out]
            simp only [if_true]
            cases readEs (l.drop (vs.length + 1)) T.args <;> simp
          have HR2 := Lf.hide hr2
          have HLX := Lf.hide (liesV_leaf (k := 11) (n := 0) (s := ⟨#[]⟩) ⟨by omega, by omega⟩ ⟨by omega, by omega⟩ (Nat.zero_le _) (hrow.okMono (ok' := (wr.heap.size ≤ ·)) (fun b _ hb => by have h9 : (wr.alloc (.cells #[.int .i64 k', .int .i64 n', .int .i64 28, .string s', .slice a' l' c'] 27)).heap.size ≤ b := hb; rw [World.size_alloc] at h9; show wr.heap.size ≤ b; omega)) hyc)
          have HGX := Lf.hide (Lf.gbt HG.out HG3.out)
          have HKX := Lf.hide (HK.out.call HG3.out)
          have HB3 := Lf.hide ((HG3.out.block _ (lt_of_blk2 HBX.out) (by simp)).trans HBX.out)
          have HOB : Hid (∀ k, (Value.slice ra vs.length rc).ownBlock = some k → k < wr.heap.size) := fun k hk => (World.ownsRow.lt HK.out.own k hk).2
          have hzx : W.heap.size ≤ w3.heap.size := HGX.out.size
          have hzw : W.heap.size ≤ wr.heap.size := HG.out.size
          have HBE : Hid (∀ (w5 : World) (v5 : Value), Gr w3 (.slice ra vs.length rc) w5 v5 → w5.heap[W.heap.size]? = some (.cells #[.int .i64 T.t, .slice ta T.args.length tc] 24 (0, 0))) := fun w5 v5 hgr => (hgr.block (lt_of_blk2 HB3.out) (own_ne_type HKX.out.own HB3.out (by decide))).trans HB3.out
          clear hr2 hrow hg3 hyc hn3 HR HC HIH HN5
          go_wp2_with (at_builtin; refine appVa W.heap.size vs 11 0 0 ⟨#[]⟩ ya ys.length yc none 0 0 none 0 0 w3 (.slice ra vs.length rc) rfl (.tmp 32) (.tmp 35) rfl rfl rfl rfl HKX.out.own hzx (by omega) ?_; intro g cap w5 ho5 hg5; have HB5 := Lf.hide (HBE.out w5 _ hg5); have HK5 := Lf.hide (HKX.out.push (S := wr.heap.size) hzw HOB.out HLX.out hg5 ho5); have HG9 := Lf.hide (grow_own HGX.out HKX.out.own (Nat.le_refl _) hg5.1); clear ho5 hg5)
          refine ⟨⟨xs ++ [leafVa 11 0 ⟨#[]⟩ ys], vs ++ [vaV 11 0 0 ⟨#[]⟩ ya ys.length yc none 0 0 none 0 0], by simp, by simp; omega, ?_, HG9.out, HB5.out, ?_⟩, by simp [intOf]; omega⟩
          · have h := HK5.out
            simpa using h
          · have h := HR2.out
            simpa using h
        · have hnone : readEs l T.args = none := by
            rw [HR.out]; simp [hp]
          have HN := Lf.hide hnone
          have HGX := Lf.hide (Lf.gbt HG.out HG3.out)
          have hpb : (p' == 28) = false := by simpa using hp
          clear hnone hrow hg3 hyc hn3 HR HC HIH hp
          go_wp2_with fail
          go_ret2
          exact ⟨HGX.out, .inr ⟨HN.out, rfl⟩⟩
      · have hnone : readEs l T.args = none := HR.out
        have HN := Lf.hide hnone
        have HGX := Lf.hide (Lf.gbt HG.out HG3.out)
        clear hnone hg3 hn3 HR HC HIH
        go_wp2_with fail
        go_ret2
        exact ⟨HGX.out, .inr ⟨HN.out, rfl⟩⟩
    · have hje : vs.length = l.length := by omega
      have hend : readEs l T.args = some xs := by
        rw [hr, List.drop_of_length_le (by omega), readEs]
        simp
      have hlx : xs.length ≤ maxLen := by unfold maxLen; omega
      obtain ⟨a, c, V, hv, hc, hrow⟩ := hK.done hlx
      have HE := Lf.hide hend
      have HROW := Lf.hide hrow
      have HG := Lf.hide hg
      have HV := Lf.hide hv
      have HCC := Lf.hide hc
      have hlti : ¬ (vs.length : Int) < (l.length : Int) := by omega
      clear hend hrow hg hv hc hr hK hje HIH hlx hxl hbx
      go_wp2_with fail
      go_ret2
      exact ⟨HG.out, .inl ⟨xs, HE.out, a, c, V, by rw [HV.out]; rfl, HCC.out, HROW.out⟩⟩

end Go.Proofs.Ytdninmanfncfiad
