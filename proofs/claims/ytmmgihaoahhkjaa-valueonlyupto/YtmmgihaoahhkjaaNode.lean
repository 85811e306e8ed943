/- The reader's methods args and node by their contracts. -/
import Derived.Test.YtmmgihaoahhkjaaBasis
import Derived.Test.YtmmgihaoahhkjaaParse
namespace Go.Proofs.Ytmmgihaoahhkjaa
set_option maxRecDepth 20000
open Go.ChangeShapes Go.WideShapes Go.ChangeAt Go.RowKit
set_option linter.unusedVariables false

def NodePost (w : World) (rb d n : Nat) (l : List UInt8) (r : Ending) (w' : World) : Prop := w.grownBy w' (some rb) ∧ match pNode d n l with
  | .ok (t, n', l') => ∃ v, r = .returned v ∧ Lies (w.heap.size ≤ ·) w' t v ∧ Rd w' rb (bs l') n' 0
  | .error e => e ≠ 0 ∧ (∃ k m p s a c c', r = .returned (nodeV k m p s a c c')) ∧ ∃ (s : ByteArray) (m : Int), s.size ≤ maxLen ∧ Rd w' rb s m e

def NodeOk (dep : Int) (d : Nat) : Prop := ∀ (w : World) (rb n : Nat) (l : List UInt8), Rd w rb (bs l) n 0 → l.length ≤ maxLen → n ≤ 300 →
  Calls Try.prog 91 #[.pointer (some ⟨rb, 0, none⟩), .int .i64 dep] w (NodePost w rb d n l)

def ArgsPost (w : World) (rb d n : Nat) (l : List UInt8) (r : Ending) (w' : World) : Prop := w.grownBy w' (some rb) ∧ match pArgs (fun n l => pNode d n l) n l with
  | .ok (ts, n', l') => ∃ (a : Option Addr) (c : Nat) (V : Nat → Value), r = .returned (.slice a ts.length c) ∧ (∀ i, i < ts.length → NodeAt (w.heap.size ≤ ·) w' a i (V i)) ∧ (∀ i (h : i < ts.length), Lies (w.heap.size ≤ ·) w' ts[i] (V i)) ∧ Rd w' rb (bs l') n' 0
  | .error e => e ≠ 0 ∧ (∃ a k c, r = .returned (.slice a k c)) ∧ ∃ (s : ByteArray) (m : Int), s.size ≤ maxLen ∧ Rd w' rb s m e

def prep (ts : List Tr) : Except Int (List Tr × Nat × List UInt8) → Except Int (List Tr × Nat × List UInt8)
  | .ok (us, n, l) => .ok (ts ++ us, n, l)
  | .error e => .error e

/-- where reading a list stands -/
def ArgsRel (w : World) (rb d : Nat) (R : Except Int (List Tr × Nat × List UInt8)) (v left : Value) (wr : World) : Prop := w.grownBy wr (some rb) ∧ (
  (∃ (k n : Nat) (l : List UInt8) (ts : List Tr) (vs : List Value), k ≤ 1152921504606846976 ∧ left = .int .i64 k ∧ ts.length ≤ n ∧ n ≤ 300 ∧ l.length ≤ maxLen ∧ Rd wr rb (bs l) n 0 ∧ ListOk w.heap.size wr v ts vs ∧ R = prep ts (pSeq (fun n l => pNode d n l) k n l)) ∨
  (∃ (e : Int) (s : ByteArray) (m : Int) (a : Option Addr) (x c k : Nat), e ≠ 0 ∧ s.size ≤ maxLen ∧ Rd wr rb s m e ∧ v = .slice a x c ∧ left = .int .i64 k ∧ k ≤ 1152921504606846976 ∧ R = .error e))

theorem args_stuck {w : World} {rb : Nat} {s : ByteArray} {n x : Int} (h : Rd w rb s n x) (hs : s.size ≤ maxLen) (hx : x ≠ 0) (dep : Int) :
    Calls Try.prog 115 #[.pointer (some ⟨rb, 0, none⟩), .int .i64 dep] w fun r w' => r = .returned (.slice none 0 0) ∧ w' = w := by
  have HT := Lf.hide (count_stuck h hs hx)
  clear h
  go_enter Try.func115, Try.ntmps115
  go_wp2_with fail
  refine HT.out.mono ?_; rintro e w' ⟨rfl, rfl⟩
  go_wp2_with fail
  refine wp_loop_rounds 1 ?_; rw [rounds_succ]
  go_wp2_with fail
  go_ret
  exact ⟨rfl, rfl⟩

set_option maxHeartbeats 1000000 in
theorem args_of {dep : Int} {d : Nat} (hd : d ≤ 24) (hdep : 0 ≤ dep ∧ dep ≤ 25) (hN : NodeOk (dep + 1) d) (w : World) (rb n : Nat) (l : List UInt8) (h : Rd w rb (bs l) n 0) (hl : l.length ≤ maxLen) (hn : n ≤ 300) :
    Calls Try.prog 115 #[.pointer (some ⟨rb, 0, none⟩), .int .i64 dep] w (ArgsPost w rb d n l) := by
  have hrb := h.lt
  cases hq : pCount l with
  | none =>
    have HT := Lf.hide (count_no h hl hq)
    have HQ : Hid (pArgs (fun n l => pNode d n l) n l = .error 1) := by show _ = _; unfold pArgs; rw [hq]
    clear h hl hq hN
    go_enter Try.func115, Try.ntmps115
    go_wp2_with fail
    refine HT.out.mono ?_; rintro e w1 ⟨rfl, hg, s, hs, hr⟩
    have HR := Lf.hide hr
    have HG := Lf.hide hg
    clear hr hg
    go_wp2_with fail
    refine wp_loop_rounds 1 ?_; rw [rounds_succ]
    go_wp2_with fail
    go_ret
    refine ⟨HG.out, ?_⟩
    rw [HQ.out]
    exact ⟨by decide, ⟨none, 0, 0, rfl⟩, s, n, hs, HR.out⟩
  | some r =>
    obtain ⟨c, l1⟩ := r
    have HT := Lf.hide (count_ok h hl hq)
    have hcl := pCount_len hq
    have hc60 := (pCount_sound hq).1
    have HQ : Hid (pArgs (fun n l => pNode d n l) n l = pSeq (fun n l => pNode d n l) c n l1) := by show _ = _; unfold pArgs; rw [hq]
    have hl1 : l1.length ≤ maxLen := by omega
    have HN := Lf.hide hN
    clear h hl hq hN hcl
    go_enter Try.func115, Try.ntmps115
    go_wp2_with fail
    refine HT.out.mono ?_; rintro e w1 ⟨rfl, hg, hr⟩
    have HR := Lf.hide hr
    have HG := Lf.hide hg
    clear hr hg
    go_wp2_with fail
    go_loopw [5, 6] (fun v left wr => ArgsRel w rb d (pArgs (fun n l => pNode d n l) n l) v left wr) (fun _ left _ => (intOf left).toNat)
    case atStart => exact ⟨HG.out, .inl ⟨c, n, l1, [], [], hc60, rfl, Nat.zero_le _, hn, hl1, HR.out, ListOk.nil _ _, by rw [HQ.out]; cases pSeq (fun n l => pNode d n l) c n l1 <;> rfl⟩⟩
    case round =>
      obtain ⟨hg, hr⟩ := hrel
      rcases hr with ⟨k, n1, l2, ts, vs, hk, rfl, htn, hn1, hl2, hR, hLs, hRR⟩ | ⟨e, s, m, a, x, cc, k, he, hs, hR, rfl, rfl, hk, hRR⟩
      · obtain ⟨c0, c1, c2, f0, f1, f2⟩ := hR.cells
        cases k with
        | zero =>
          have HG1 := Lf.hide hg
          have HR1 := Lf.hide hR
          have HL := Lf.hide hLs
          have HRR := Lf.hide hRR
          clear hg hR hLs hRR
          go_wp2_with fail
          go_ret
          obtain ⟨a, c', V, hv, h1, h2⟩ := HL.out.done
          refine ⟨HG1.out, ?_⟩
          rw [HRR.out]
          simp only [pSeq, prep, List.append_nil]
          exact ⟨a, c', V, by rw [← hv]; rfl, h1, h2, HR1.out⟩
        | succ k =>
          have hk' : (0 : Int) < ((k + 1 : Nat) : Int) := by omega
          have HI := Lf.hide (HN.out wr rb n1 l2 hR hl2 hn1)
          have HG1 := Lf.hide hg
          have HR1 := Lf.hide hR
          have HL := Lf.hide hLs
          have HRR := Lf.hide hRR
          clear hg hR hLs hRR
          go_wp2_with fail
          refine HI.out.mono ?_; rintro e w2 ⟨hg2, hp⟩
          have hw2 : w.heap.size ≤ w2.heap.size := Nat.le_trans HG1.out.size hg2.size
          have hL2 := HL.out.keep hg2 hrb
          have hvl : vs.length ≤ 1000000000000 := by have := HL.out.len; omega
          cases hq : pNode d n1 l2 with
          | error x =>
            rw [hq] at hp
            obtain ⟨hx, ⟨k', m', p', s', a', q', q'', rfl⟩, sx, mx, hsx, hRx⟩ := hp
            have hrr := HRR.out
            rw [pSeq] at hrr
            simp only [hq, prep] at hrr
            have HRR2 := Lf.hide hrr
            have HO2 := Lf.hide hL2.own
            have HG2 := Lf.hide (grow_trans HG1.out hg2)
            have HRX := Lf.hide hRx
            clear hrr hL2 hg2 hRx hq HRR
            unfold nodeV
            go_wp2_with (at_builtin; refine appN w.heap.size vs k' m' p' s' a' q' q'' w2 u5 rfl (.tmp 20) (.tmp 25) rfl rfl rfl rfl HO2.out hw2 hvl ?_; intro g cap w3 ho3 hg3; have HG3 := Lf.hide hg3; have HO3 := Lf.hide ho3; clear ho3 hg3)
            go_roundw
            case rel =>
              refine ⟨?_, .inr ⟨x, sx, mx, _, _, _, k, hx, hsx, ?_, rfl, by go_num, by omega, HRR2.out⟩⟩
              · exact ⟨HG3.out.1.os.trans HG2.out.os, HG3.out.1.tape.trans HG2.out.tape, HG3.out.1.output.trans HG2.out.output, Nat.le_trans HG2.out.size HG3.out.1.size, fun i hi hr => (HG3.out.block (Nat.lt_of_lt_of_le hi HG2.out.size) (fun e => by have := (World.ownsRow.lt HO2.out i e.symm).1; omega)).trans (HG2.out.block i hi hr)⟩
              · unfold Rd; rw [HG3.out.block HRX.out.lt (fun e => by have := (World.ownsRow.lt HO2.out rb e.symm).1; omega)]; exact HRX.out
            case measure => simp [intOf]; try omega
          | ok y =>
            obtain ⟨t, n', l'⟩ := y
            rw [hq] at hp
            obtain ⟨v, rfl, hLt, hRx⟩ := hp
            obtain ⟨a1, a2, a3, a4⟩ := pNode_sound d hd n1 l2 t n' l' hn1 hq
            obtain ⟨k', m', p', s', a', q', q'', rfl⟩ := hLt.nodeV
            have hl' : l'.length ≤ maxLen := by rw [a1, List.length_append] at hl2; omega
            have htz := size_pos t
            have hrr := HRR.out
            rw [pSeq] at hrr
            simp only [hq] at hrr
            have hown := HL.out.own
            have HRR2 := Lf.hide hrr
            have HO2 := Lf.hide hL2
            have HG2 := Lf.hide (grow_trans HG1.out hg2)
            have HRX := Lf.hide hRx
            have HLT := Lf.hide hLt
            have HVS : Hid (∀ k, u5.ownBlock = some k → k < wr.heap.size) := fun k hk => (World.ownsRow.lt hown k hk).2
            have hwr := HG1.out.size
            clear hrr hL2 hg2 hRx hq HRR hLt a1 a4 hown
            unfold nodeV
            go_wp2_with (at_builtin; refine appN w.heap.size vs k' m' p' s' a' q' q'' w2 u5 rfl (.tmp 20) (.tmp 25) rfl rfl rfl rfl HO2.out.own hw2 hvl ?_; intro g cap w3 ho3 hg3; have HG3 := Lf.hide hg3; have HO3 := Lf.hide ho3; clear ho3 hg3)
            go_roundw
            case rel =>
              refine ⟨?_, .inl ⟨k, n', l', ts ++ [t], vs ++ [nodeV k' m' p' s' a' q' q''], by omega, by go_num, by simp; omega, a3, hl', ?_, ?_, ?_⟩⟩
              · exact ⟨HG3.out.1.os.trans HG2.out.os, HG3.out.1.tape.trans HG2.out.tape, HG3.out.1.output.trans HG2.out.output, Nat.le_trans HG2.out.size HG3.out.1.size, fun i hi hr => (HG3.out.block (Nat.lt_of_lt_of_le hi HG2.out.size) (fun e => by have := (World.ownsRow.lt HO2.out.own i e.symm).1; omega)).trans (HG2.out.block i hi hr)⟩
              · unfold Rd; rw [HG3.out.block HRX.out.lt (fun e => by have := (World.ownsRow.lt HO2.out.own rb e.symm).1; omega)]; exact HRX.out
              · exact HO2.out.push hwr HVS.out HLT.out HG3.out HO3.out
              · rw [HRR2.out]; cases pSeq (fun n l => pNode d n l) k n' l' <;> simp [prep]
            case measure => simp [intOf]; try omega
      · obtain ⟨c0, c1, c2, f0, f1, f2⟩ := hR.cells
        have HG1 := Lf.hide hg
        have HR1 := Lf.hide hR
        have HRR := Lf.hide hRR
        clear hg hR hRR
        by_cases hk0 : (0 : Int) < (k : Int)
        all_goals
          go_wp2_with fail
          go_ret
          refine ⟨HG1.out, ?_⟩
          rw [HRR.out]
          exact ⟨he, ⟨a, x, cc, rfl⟩, s, m, hs, HR1.out⟩


/-- a block of the call's own, behind a method of the reader -/
theorem box_keep {w w' : World} {rb g : Nat} {o : Obj} (h : w.heap[g]? = some o) (hg : w.grownBy w' (some rb)) (hne : g ≠ rb) : w'.heap[g]? = some o := by
  rw [hg.block g (Array.getElem?_eq_some_iff.1 h).1 (by simpa using hne)]; exact h

theorem post_long {w w' : World} {rb d n : Nat} {l : List UInt8} {v : Value} {e m : Int} {s : ByteArray} (hp : pNode d n l = .error e) (he : e ≠ 0) (hg : w.grownBy w' (some rb)) (hv : ∃ k m p s a c c', v = nodeV k m p s a c c') (hs : s.size ≤ maxLen) (hR : Rd w' rb s m e) :
    NodePost w rb d n l (.returned v) w' := by
  refine ⟨hg, ?_⟩
  rw [hp]
  obtain ⟨k, m', p, s', a, c, c', rfl⟩ := hv
  exact ⟨he, ⟨k, m', p, s', a, c, c', rfl⟩, s, m, hs, hR⟩

/-- five cells stored -/


theorem Rd.far {w w' : World} {rb g : Nat} {s : ByteArray} {n x : Int} (h : Rd w rb s n x) (k : w.grownBy w' (some g)) (hne : rb ≠ g) : Rd w' rb s n x := by
  unfold Rd; rw [k.block rb h.lt (by simpa using hne)]; exact h

theorem node_long (dep : Int) (d n : Nat) (l : List UInt8) (hp : pNode d n l = .error 4) (hc : (n : Int) = 300 ∨ 24 < dep) (w : World) (rb : Nat) (h : Rd w rb (bs l) n 0) (hl : l.length ≤ maxLen) (hn : n ≤ 300) :
    Calls Try.prog 91 #[.pointer (some ⟨rb, 0, none⟩), .int .i64 dep] w (NodePost w rb d n l) := by
  obtain ⟨c0, c1, c2, f0, f1, f2⟩ := h.cells
  have hrb := h.lt
  have HFL := Lf.hide (fail_ok (h.alloc (.cells #[.int .i64 0, .int .i64 0, .int .i64 0, .string ⟨#[]⟩, .slice none 0 0] 39)) 4)
  have HP := Lf.hide hp
  have HL : Hid ((bs l).size ≤ maxLen) := by show _ ≤ _; rw [bs_size]; exact hl
  clear h hp hl
  by_cases h3 : (n : Int) = 300
  · clear hc
    go_enter Try.func91, Try.ntmps91
    go_wp2_with fail
    refine HFL.out.mono ?_; rintro e w2 ⟨rfl, h2, hg2⟩
    have hb := box_keep (heap_alloc_new _ _) hg2 (by omega)
    obtain ⟨d0, d1, d2, d3, d4⟩ := box5 hb
    obtain ⟨g0, g1, g2, g3, g4⟩ := box5f hb
    have H2 := Lf.hide h2
    have HG2 := Lf.hide hg2
    clear h2 hg2
    have hRy := hb
    clear hb
    go_wp2_with fail
    change bodyPost _ _ _ _ _ (set5 w2 w.heap.size (.int .i64 0) (.int .i64 0) (.int .i64 0) (.string ⟨#[]⟩) (.slice none 0 0))
    have hb' := set5_block hRy (.int .i64 0) (.int .i64 0) (.int .i64 0) (.string ⟨#[]⟩) (.slice none 0 0)
    have hg' := set5_grow w2 w.heap.size (.int .i64 0) (.int .i64 0) (.int .i64 0) (.string ⟨#[]⟩) (.slice none 0 0)
    generalize set5 w2 w.heap.size (.int .i64 0) (.int .i64 0) (.int .i64 0) (.string ⟨#[]⟩) (.slice none 0 0) = wf at *
    obtain ⟨z0, z1, z2, z3, z4⟩ := box5 hb'
    refine bodyPost_ret (v := nodeV 0 0 0 ⟨#[]⟩ none 0 0) (by simp [results, Try.results91, go_sem, z0, z1, z2, z3, z4, nodeV]) rfl ?_
    exact post_long HP.out (by decide) (grow_new (grow_trans (grow_any (Lf.gb _)) HG2.out) hg' (Nat.le_refl _)) ⟨_, _, _, _, _, _, _, rfl⟩ HL.out (H2.out.far hg' (by omega))
  · have h24 : 24 < dep := by omega
    have h3' : ¬ n = 300 := by omega
    clear hc
    go_enter Try.func91, Try.ntmps91
    go_wp2_with fail
    refine HFL.out.mono ?_; rintro e w2 ⟨rfl, h2, hg2⟩
    have hb := box_keep (heap_alloc_new _ _) hg2 (by omega)
    obtain ⟨d0, d1, d2, d3, d4⟩ := box5 hb
    obtain ⟨g0, g1, g2, g3, g4⟩ := box5f hb
    have H2 := Lf.hide h2
    have HG2 := Lf.hide hg2
    clear h2 hg2
    have hRy := hb
    clear hb
    go_wp2_with fail
    change bodyPost _ _ _ _ _ (set5 w2 w.heap.size (.int .i64 0) (.int .i64 0) (.int .i64 0) (.string ⟨#[]⟩) (.slice none 0 0))
    have hb' := set5_block hRy (.int .i64 0) (.int .i64 0) (.int .i64 0) (.string ⟨#[]⟩) (.slice none 0 0)
    have hg' := set5_grow w2 w.heap.size (.int .i64 0) (.int .i64 0) (.int .i64 0) (.string ⟨#[]⟩) (.slice none 0 0)
    generalize set5 w2 w.heap.size (.int .i64 0) (.int .i64 0) (.int .i64 0) (.string ⟨#[]⟩) (.slice none 0 0) = wf at *
    obtain ⟨z0, z1, z2, z3, z4⟩ := box5 hb'
    refine bodyPost_ret (v := nodeV 0 0 0 ⟨#[]⟩ none 0 0) (by simp [results, Try.results91, go_sem, z0, z1, z2, z3, z4, nodeV]) rfl ?_
    exact post_long HP.out (by decide) (grow_new (grow_trans (grow_any (Lf.gb _)) HG2.out) hg' (Nat.le_refl _)) ⟨_, _, _, _, _, _, _, rfl⟩ HL.out (H2.out.far hg' (by omega))

/-- a call of a method in the middle of node: where the two blocks of its own lie -/
structure Mid (w y : World) (rb N : Nat) (k : Int) (p : Int) : Prop where
  grow : w.grownBy y (some rb)
  hR : y.heap[w.heap.size]? = some (.cells #[.int .i64 0, .int .i64 0, .int .i64 0, .string ⟨#[]⟩, .slice none 0 0] 39 (0, 0))
  hN : y.heap[N]? = some (.cells #[.int .i64 k, .int .i64 0, .int .i64 p, .string ⟨#[]⟩, .slice none 0 0] 39 (0, 0))
  lt : w.heap.size < N
  rlt : rb < w.heap.size

theorem Mid.step {w y y' : World} {rb N : Nat} {k p : Int} (h : Mid w y rb N k p) (hg : y.grownBy y' (some rb)) : Mid w y' rb N k p :=
  ⟨grow_trans h.grow hg, box_keep h.hR hg (by have := h.rlt; omega), box_keep h.hN hg (by have := h.rlt; have := h.lt; omega), h.lt, h.rlt⟩

theorem stuck_num {w : World} {rb : Nat} {s : ByteArray} {n x : Int} (h : Rd w rb s n x) (hs : s.size ≤ maxLen) (hx : x ≠ 0) :
    Calls Try.prog 112 #[.pointer (some ⟨rb, 0, none⟩)] w fun r w' => r = .returned (.int .i64 0) ∧ w.grownBy w' (some rb) ∧ Rd w' rb s n x :=
  (number_stuck h hs hx).mono fun r w' ⟨h1, h2⟩ => by subst h2; exact ⟨h1, grow_refl _ _, h⟩

theorem stuck_args {w : World} {rb : Nat} {s : ByteArray} {n x : Int} (h : Rd w rb s n x) (hs : s.size ≤ maxLen) (hx : x ≠ 0) (dep : Int) :
    Calls Try.prog 115 #[.pointer (some ⟨rb, 0, none⟩), .int .i64 dep] w fun r w' => r = .returned (.slice none 0 0) ∧ w.grownBy w' (some rb) ∧ Rd w' rb s n x :=
  (args_stuck h hs hx dep).mono fun r w' ⟨h1, h2⟩ => by subst h2; exact ⟨h1, grow_refl _ _, h⟩

theorem node_nil {dep : Int} {d : Nat} (hd : d + 1 ≤ 24) (hdep : 0 ≤ dep ∧ dep ≤ 24) (w : World) (rb n : Nat) (h : Rd w rb (bs []) n 0) (hl : ([] : List UInt8).length ≤ maxLen) (hn : n ≤ 300) :
    Calls Try.prog 91 #[.pointer (some ⟨rb, 0, none⟩), .int .i64 dep] w (NodePost w rb (d + 1) n []) := by
  by_cases h300 : n = 300
  · exact node_long dep (d + 1) n [] (by rw [pNode.eq_def]; simp [h300]) (.inl (by omega)) w rb h hl hn
  have h300' : ((n : Int) == 300) = false := by simp; omega
  obtain ⟨hdep0, hdep1⟩ := hdep
  obtain ⟨c0, c1, c2, f0, f1, f2⟩ := h.cells
  have hrb := h.lt
  have hA : Rd ((w.setCell ⟨rb, 1, none⟩ (.int .i64 ((n : Int) + 1))).alloc (.cells #[.int .i64 0, .int .i64 0, .int .i64 0, .string ⟨#[]⟩, .slice none 0 0] 39)) rb (bs []) ((n : Int) + 1) 0 := (h.set1 _).alloc _
  have hAR : ((w.setCell ⟨rb, 1, none⟩ (.int .i64 ((n : Int) + 1))).alloc (.cells #[.int .i64 0, .int .i64 0, .int .i64 0, .string ⟨#[]⟩, .slice none 0 0] 39)).heap[w.heap.size]? = some (.cells #[.int .i64 0, .int .i64 0, .int .i64 0, .string ⟨#[]⟩, .slice none 0 0] 39 (0, 0)) := by
    have h2 := heap_alloc_new (w.setCell ⟨rb, 1, none⟩ (.int .i64 ((n : Int) + 1))) (.cells #[.int .i64 0, .int .i64 0, .int .i64 0, .string ⟨#[]⟩, .slice none 0 0] 39)
    rw [show (w.setCell ⟨rb, 1, none⟩ (.int .i64 ((n : Int) + 1))).heap.size = w.heap.size from by simp [World.setCell]] at h2
    exact h2
  have hAG : w.grownBy ((w.setCell ⟨rb, 1, none⟩ (.int .i64 ((n : Int) + 1))).alloc (.cells #[.int .i64 0, .int .i64 0, .int .i64 0, .string ⟨#[]⟩, .slice none 0 0] 39)) (some rb) := grow_trans (grow_set (grow_refl _ _) _ _ _) (grow_any (Lf.gb _))
  have HAR := Lf.hide hAR
  have HAG := Lf.hide hAG
  clear h hAR hAG
  have HP : Hid (pNode (d + 1) n [] = .error 1) := by show _ = _; rw [pNode.eq_def]; simp [h300]
  have HO := Lf.hide (octet_no hA)
  clear hA
  go_enter Try.func91, Try.ntmps91
  go_wp2_with fail
  refine HO.out.mono ?_; rintro e w2 ⟨rfl, h2, hg2⟩
  have hbk := box_keep HAR.out hg2 (by omega)
  have hM : Mid w (w2.alloc (.cells #[.int .i64 0, .int .i64 0, .int .i64 0, .string ⟨#[]⟩, .slice none 0 0] 39)) rb w2.heap.size 0 0 :=
    ⟨grow_trans (grow_trans HAG.out hg2) (grow_any (Lf.gb _)), by rw [heap_alloc_old (h := (Array.getElem?_eq_some_iff.1 hbk).1)]; exact hbk, heap_alloc_new _ _, (Array.getElem?_eq_some_iff.1 hbk).1, hrb⟩
  have hRD := h2.alloc (.cells #[.int .i64 0, .int .i64 0, .int .i64 0, .string ⟨#[]⟩, .slice none 0 0] 39)
  have HM := Lf.hide hM
  have HRD := Lf.hide hRD
  clear h2 hg2 hM hbk hRD
  go_wp2_with fail
  refine (stuck_num HRD.out (by rw [bs_size]; simp) (by decide)).mono ?_; rintro e y ⟨rfl, hgy, hRy0⟩
  have HM2 := Lf.hide (HM.out.step hgy)
  have HRD2 := Lf.hide hRy0
  clear hgy hRy0
  obtain ⟨hMG, hMR, hMN, hMlt, _⟩ := HM2.out
  have hNy := (set_one hMN (.int .i64 0)).1
  have hRy := set_far (o := 1) hMR (by omega : w.heap.size ≠ w2.heap.size) (.int .i64 0)
  obtain ⟨d0, d1, d2, d3, d4⟩ := box5 hNy
  obtain ⟨q0, q1, q2, q3, q4⟩ := box5 hRy
  obtain ⟨g0, g1, g2, g3, g4⟩ := box5f hRy
  obtain ⟨i0, i1, i2, i3, i4⟩ := box5f hMN
  obtain ⟨j0, j1, j2, j3, j4⟩ := box5 hMN
  have HRY := Lf.hide hRy
  have HMG := Lf.hide hMG
  clear hNy hRy hMR hMN hMG
  go_wp2_with fail
  change bodyPost _ _ _ _ _ (set5 (y.setCell ⟨w2.heap.size, 1, none⟩ (.int .i64 0)) w.heap.size (.int .i64 0) (.int .i64 0) (.int .i64 0) (.string ⟨#[]⟩) (.slice none 0 0))
  have hb' := set5_block HRY.out (.int .i64 0) (.int .i64 0) (.int .i64 0) (.string ⟨#[]⟩) (.slice none 0 0)
  have hg' := set5_grow (y.setCell ⟨w2.heap.size, 1, none⟩ (.int .i64 0)) w.heap.size (.int .i64 0) (.int .i64 0) (.int .i64 0) (.string ⟨#[]⟩) (.slice none 0 0)
  generalize set5 (y.setCell ⟨w2.heap.size, 1, none⟩ (.int .i64 0)) w.heap.size (.int .i64 0) (.int .i64 0) (.int .i64 0) (.string ⟨#[]⟩) (.slice none 0 0) = wf at *
  obtain ⟨z0, z1, z2, z3, z4⟩ := box5 hb'
  refine bodyPost_ret (v := nodeV 0 0 0 ⟨#[]⟩ none 0 0) (by simp [results, Try.results91, go_sem, z0, z1, z2, z3, z4, nodeV]) rfl ?_
  exact post_long HP.out (by decide) (grow_new (grow_new HMG.out (grow_set (grow_refl _ _) _ _ _) (by omega)) hg' (Nat.le_refl _)) ⟨_, _, _, _, _, _, _, rfl⟩ (by rw [bs_size]; simp) ((HRD2.out.far (grow_set (grow_refl _ _) _ _ _) (by omega)).far hg' (by omega))

theorem post_ok {w w' : World} {rb d n n' : Nat} {l l' : List UInt8} {v : Value} {t : Tr} {m : Int} (hp : pNode d n l = .ok (t, n', l')) (hg : w.grownBy w' (some rb)) (hv : Lies (w.heap.size ≤ ·) w' t v) (hm : m = n') (hR : Rd w' rb (bs l') m 0) :
    NodePost w rb d n l (.returned v) w' := by
  subst hm
  refine ⟨hg, ?_⟩
  rw [hp]
  exact ⟨v, rfl, hv, hR⟩

theorem lies_leaf {ok : Nat → Prop} {w : World} {k n p : Int} {s : ByteArray} (hs : s.size ≤ maxLen) (hk : I64 k) (hn : I64 n) (hp : I64 p) : Lies ok w (.nd k n p s []) (nodeV k n p s none 0 0) :=
  Lies.mk (args := []) (fun _ => .int .i64 0) (by simp) hs hk hn hp (fun i hi => by simp at hi) (fun i hi => by simp at hi)

theorem lies_args {w y wf : World} {S : Nat} {ts : List Tr} {a : Option Addr} {c : Nat} {V : Nat → Value} {k p : Int} (hA1 : ∀ i, i < ts.length → NodeAt (S ≤ ·) y a i (V i)) (hA2 : ∀ i (h : i < ts.length), Lies (S ≤ ·) y ts[i] (V i)) (hs : Same (S ≤ ·) y wf) (hS : w.heap.size ≤ S)
    (hl : ts.length ≤ maxLen) (hk : I64 k) (hp : I64 p) : Lies (w.heap.size ≤ ·) wf (.nd k 0 p (bs []) ts) (nodeV k 0 p (bs []) a ts.length c) := by
  have h := Lies.mk (ok := (S ≤ ·)) (w := wf) (args := ts) (a := a) (c := c) (s := bs []) V hl (by rw [bs_size]; simp) hk (show I64 0 from ⟨by omega, by omega⟩) hp (fun i hi => (hA1 i hi).same hs) (fun i hi => (hA2 i hi).same hs)
  exact h.okMono (fun b _ hb => by have : S ≤ b := hb; show _ ≤ b; omega)

/-- stores into two blocks that were there do not reach what came later -/
theorem same_two {y y1 wf : World} {S N R : Nat} (h1 : y.grownBy y1 (some N)) (h2 : y1.grownBy wf (some R)) (hN : N < S) (hR : R < S) : Same (S ≤ ·) y wf := by
  intro b o hb hlt
  have hb' : S ≤ b := hb
  exact World.cell?_of_block ((h2.block b (Nat.lt_of_lt_of_le hlt h1.size) (by simp; omega)).trans (h1.block b hlt (by simp; omega)))

set_option maxHeartbeats 400000 in
theorem node_k0 {dep : Int} {d : Nat} (hd : d + 1 ≤ 24) (hdep : 0 ≤ dep ∧ dep ≤ 24) (w : World) (rb n : Nat) (b : UInt8) (l : List UInt8) (hb : b.toNat = 0) (h : Rd w rb (bs (b :: l)) n 0) (hl : (b :: l).length ≤ maxLen) (hn : n ≤ 300) :
    Calls Try.prog 91 #[.pointer (some ⟨rb, 0, none⟩), .int .i64 dep] w (NodePost w rb (d + 1) n (b :: l)) := by
  by_cases h300 : n = 300
  · exact node_long dep (d + 1) n (b :: l) (by rw [pNode.eq_def]; simp [h300]) (.inl (by omega)) w rb h hl hn
  have h300' : ((n : Int) == 300) = false := by simp; omega
  obtain ⟨hdep0, hdep1⟩ := hdep
  obtain ⟨c0, c1, c2, f0, f1, f2⟩ := h.cells
  have hrb := h.lt
  have hA : Rd ((w.setCell ⟨rb, 1, none⟩ (.int .i64 ((n : Int) + 1))).alloc (.cells #[.int .i64 0, .int .i64 0, .int .i64 0, .string ⟨#[]⟩, .slice none 0 0] 39)) rb (bs (b :: l)) ((n : Int) + 1) 0 := (h.set1 _).alloc _
  have hAR : ((w.setCell ⟨rb, 1, none⟩ (.int .i64 ((n : Int) + 1))).alloc (.cells #[.int .i64 0, .int .i64 0, .int .i64 0, .string ⟨#[]⟩, .slice none 0 0] 39)).heap[w.heap.size]? = some (.cells #[.int .i64 0, .int .i64 0, .int .i64 0, .string ⟨#[]⟩, .slice none 0 0] 39 (0, 0)) := by
    have h2 := heap_alloc_new (w.setCell ⟨rb, 1, none⟩ (.int .i64 ((n : Int) + 1))) (.cells #[.int .i64 0, .int .i64 0, .int .i64 0, .string ⟨#[]⟩, .slice none 0 0] 39)
    rw [show (w.setCell ⟨rb, 1, none⟩ (.int .i64 ((n : Int) + 1))).heap.size = w.heap.size from by simp [World.setCell]] at h2
    exact h2
  have hAG : w.grownBy ((w.setCell ⟨rb, 1, none⟩ (.int .i64 ((n : Int) + 1))).alloc (.cells #[.int .i64 0, .int .i64 0, .int .i64 0, .string ⟨#[]⟩, .slice none 0 0] 39)) (some rb) := grow_trans (grow_set (grow_refl _ _) _ _ _) (grow_any (Lf.gb _))
  have HAR := Lf.hide hAR
  have HAG := Lf.hide hAG
  clear h hAR hAG
  have hO := octet_ok hA hl
  rw [hb, show ((0 : Nat) : Int) = 0 from rfl] at hO
  have HO := Lf.hide hO
  have HL1 : Hid (l.length ≤ maxLen) := by show _ ≤ _; simp at hl; omega
  clear hA hO hl
  go_enter Try.func91, Try.ntmps91
  go_wp2_with fail
  refine HO.out.mono ?_; rintro e w2 ⟨rfl, h2, hg2⟩
  have hbk := box_keep HAR.out hg2 (by omega)
  have hM : Mid w (w2.alloc (.cells #[.int .i64 0, .int .i64 0, .int .i64 0, .string ⟨#[]⟩, .slice none 0 0] 39)) rb w2.heap.size 0 0 :=
    ⟨grow_trans (grow_trans HAG.out hg2) (grow_any (Lf.gb _)), by rw [heap_alloc_old (h := (Array.getElem?_eq_some_iff.1 hbk).1)]; exact hbk, heap_alloc_new _ _, (Array.getElem?_eq_some_iff.1 hbk).1, hrb⟩
  have hRD := h2.alloc (.cells #[.int .i64 0, .int .i64 0, .int .i64 0, .string ⟨#[]⟩, .slice none 0 0] 39)
  have HM := Lf.hide hM
  have HRD := Lf.hide hRD
  clear h2 hg2 hM hbk hRD
  cases hq : pNum l with
  | none =>
    have HP : Hid (pNode (d + 1) n (b :: l) = .error 1) := by show _ = _; rw [pNode.eq_def]; simp [h300, hb, hq]
    have HN := Lf.hide (number_any HRD.out HL1.out)
    have HQ := Lf.hide hq
    clear hq
    go_wp2_with fail
    refine HN.out.mono ?_; rintro e y ⟨hgy, hpy⟩
    rw [HQ.out] at hpy
    obtain ⟨rfl, s, hs, hRy0⟩ := hpy
    have HM2 := Lf.hide (HM.out.step hgy)
    have HRD2 := Lf.hide hRy0
    clear hgy hRy0
    obtain ⟨hMG, hMR, hMN, hMlt, _⟩ := HM2.out
    have hNy := (set_one hMN (.int .i64 0)).1
    have hRy := set_far (o := 1) hMR (by omega : w.heap.size ≠ w2.heap.size) (.int .i64 0)
    obtain ⟨d0, d1, d2, d3, d4⟩ := box5 hNy
    obtain ⟨q0, q1, q2, q3, q4⟩ := box5 hRy
    obtain ⟨g0, g1, g2, g3, g4⟩ := box5f hRy
    obtain ⟨i0, i1, i2, i3, i4⟩ := box5f hMN
    obtain ⟨j0, j1, j2, j3, j4⟩ := box5 hMN
    have HRY := Lf.hide hRy
    have HMG := Lf.hide hMG
    clear hNy hRy hMR hMN hMG
    go_wp2_with fail
    change bodyPost _ _ _ _ _ (set5 (y.setCell ⟨w2.heap.size, 1, none⟩ (.int .i64 0)) w.heap.size (.int .i64 0) (.int .i64 0) (.int .i64 0) (.string ⟨#[]⟩) (.slice none 0 0))
    have hb' := set5_block HRY.out (.int .i64 0) (.int .i64 0) (.int .i64 0) (.string ⟨#[]⟩) (.slice none 0 0)
    have hg' := set5_grow (y.setCell ⟨w2.heap.size, 1, none⟩ (.int .i64 0)) w.heap.size (.int .i64 0) (.int .i64 0) (.int .i64 0) (.string ⟨#[]⟩) (.slice none 0 0)
    generalize set5 (y.setCell ⟨w2.heap.size, 1, none⟩ (.int .i64 0)) w.heap.size (.int .i64 0) (.int .i64 0) (.int .i64 0) (.string ⟨#[]⟩) (.slice none 0 0) = wf at *
    obtain ⟨z0, z1, z2, z3, z4⟩ := box5 hb'
    refine bodyPost_ret (v := nodeV 0 0 0 ⟨#[]⟩ none 0 0) (by simp [results, Try.results91, go_sem, z0, z1, z2, z3, z4, nodeV]) rfl ?_
    exact post_long HP.out (by decide) (grow_new (grow_new HMG.out (grow_set (grow_refl _ _) _ _ _) (by omega)) hg' (Nat.le_refl _)) ⟨_, _, _, _, _, _, _, rfl⟩ hs ((HRD2.out.far (grow_set (grow_refl _ _) _ _ _) (by omega)).far hg' (by omega))
  | some r =>
    obtain ⟨m, l'⟩ := r
    have hm := (pNum_sound hq).1
    have HP : Hid (pNode (d + 1) n (b :: l) = .ok (.nd 0 m 0 (bs []) [], n + 1, l')) := by show _ = _; rw [pNode.eq_def]; simp [h300, hb, hq]
    have HN := Lf.hide (number_any HRD.out HL1.out)
    have HQ := Lf.hide hq
    clear hq
    go_wp2_with fail
    refine HN.out.mono ?_; rintro e y ⟨hgy, hpy⟩
    rw [HQ.out] at hpy
    obtain ⟨rfl, hRy0⟩ := hpy
    have HM2 := Lf.hide (HM.out.step hgy)
    have HRD2 := Lf.hide hRy0
    clear hgy hRy0
    obtain ⟨hMG, hMR, hMN, hMlt, _⟩ := HM2.out
    have hNy := (set_one hMN (.int .i64 m)).1
    have hRy := set_far (o := 1) hMR (by omega : w.heap.size ≠ w2.heap.size) (.int .i64 m)
    obtain ⟨d0, d1, d2, d3, d4⟩ := box5 hNy
    obtain ⟨q0, q1, q2, q3, q4⟩ := box5 hRy
    obtain ⟨g0, g1, g2, g3, g4⟩ := box5f hRy
    obtain ⟨i0, i1, i2, i3, i4⟩ := box5f hMN
    obtain ⟨j0, j1, j2, j3, j4⟩ := box5 hMN
    have HRY := Lf.hide hRy
    have HMG := Lf.hide hMG
    clear hNy hRy hMR hMN hMG
    go_wp2_with fail
    change bodyPost _ _ _ _ _ (set5 (y.setCell ⟨w2.heap.size, 1, none⟩ (.int .i64 m)) w.heap.size (.int .i64 0) (.int .i64 m) (.int .i64 0) (.string ⟨#[]⟩) (.slice none 0 0))
    have hb' := set5_block HRY.out (.int .i64 0) (.int .i64 m) (.int .i64 0) (.string ⟨#[]⟩) (.slice none 0 0)
    have hg' := set5_grow (y.setCell ⟨w2.heap.size, 1, none⟩ (.int .i64 m)) w.heap.size (.int .i64 0) (.int .i64 m) (.int .i64 0) (.string ⟨#[]⟩) (.slice none 0 0)
    generalize set5 (y.setCell ⟨w2.heap.size, 1, none⟩ (.int .i64 m)) w.heap.size (.int .i64 0) (.int .i64 m) (.int .i64 0) (.string ⟨#[]⟩) (.slice none 0 0) = wf at *
    obtain ⟨z0, z1, z2, z3, z4⟩ := box5 hb'
    refine bodyPost_ret (v := nodeV 0 m 0 ⟨#[]⟩ none 0 0) (by simp [results, Try.results91, go_sem, z0, z1, z2, z3, z4, nodeV]) rfl ?_
    exact post_ok HP.out (grow_new (grow_new HMG.out (grow_set (grow_refl _ _) _ _ _) (by omega)) hg' (Nat.le_refl _)) (lies_leaf (Nat.zero_le _) ⟨by omega, by omega⟩ ⟨by omega, by omega⟩ ⟨by omega, by omega⟩) (by push_cast; rfl) ((HRD2.out.far (grow_set (grow_refl _ _) _ _ _) (by omega)).far hg' (by omega))

set_option maxHeartbeats 400000 in
theorem node_k1 {dep : Int} {d : Nat} (hd : d + 1 ≤ 24) (hdep : 0 ≤ dep ∧ dep ≤ 24) (w : World) (rb n : Nat) (b : UInt8) (l : List UInt8) (hb : b.toNat = 1) (h : Rd w rb (bs (b :: l)) n 0) (hl : (b :: l).length ≤ maxLen) (hn : n ≤ 300) :
    Calls Try.prog 91 #[.pointer (some ⟨rb, 0, none⟩), .int .i64 dep] w (NodePost w rb (d + 1) n (b :: l)) := by
  by_cases h300 : n = 300
  · exact node_long dep (d + 1) n (b :: l) (by rw [pNode.eq_def]; simp [h300]) (.inl (by omega)) w rb h hl hn
  have h300' : ((n : Int) == 300) = false := by simp; omega
  obtain ⟨hdep0, hdep1⟩ := hdep
  obtain ⟨c0, c1, c2, f0, f1, f2⟩ := h.cells
  have hrb := h.lt
  have hA : Rd ((w.setCell ⟨rb, 1, none⟩ (.int .i64 ((n : Int) + 1))).alloc (.cells #[.int .i64 0, .int .i64 0, .int .i64 0, .string ⟨#[]⟩, .slice none 0 0] 39)) rb (bs (b :: l)) ((n : Int) + 1) 0 := (h.set1 _).alloc _
  have hAR : ((w.setCell ⟨rb, 1, none⟩ (.int .i64 ((n : Int) + 1))).alloc (.cells #[.int .i64 0, .int .i64 0, .int .i64 0, .string ⟨#[]⟩, .slice none 0 0] 39)).heap[w.heap.size]? = some (.cells #[.int .i64 0, .int .i64 0, .int .i64 0, .string ⟨#[]⟩, .slice none 0 0] 39 (0, 0)) := by
    have h2 := heap_alloc_new (w.setCell ⟨rb, 1, none⟩ (.int .i64 ((n : Int) + 1))) (.cells #[.int .i64 0, .int .i64 0, .int .i64 0, .string ⟨#[]⟩, .slice none 0 0] 39)
    rw [show (w.setCell ⟨rb, 1, none⟩ (.int .i64 ((n : Int) + 1))).heap.size = w.heap.size from by simp [World.setCell]] at h2
    exact h2
  have hAG : w.grownBy ((w.setCell ⟨rb, 1, none⟩ (.int .i64 ((n : Int) + 1))).alloc (.cells #[.int .i64 0, .int .i64 0, .int .i64 0, .string ⟨#[]⟩, .slice none 0 0] 39)) (some rb) := grow_trans (grow_set (grow_refl _ _) _ _ _) (grow_any (Lf.gb _))
  have HAR := Lf.hide hAR
  have HAG := Lf.hide hAG
  clear h hAR hAG
  have hO := octet_ok hA hl
  rw [hb, show ((1 : Nat) : Int) = 1 from rfl] at hO
  have HO := Lf.hide hO
  have HL1 : Hid (l.length ≤ maxLen) := by show _ ≤ _; simp at hl; omega
  clear hA hO hl
  go_enter Try.func91, Try.ntmps91
  go_wp2_with fail
  refine HO.out.mono ?_; rintro e w2 ⟨rfl, h2, hg2⟩
  have hbk := box_keep HAR.out hg2 (by omega)
  have hM : Mid w (w2.alloc (.cells #[.int .i64 1, .int .i64 0, .int .i64 0, .string ⟨#[]⟩, .slice none 0 0] 39)) rb w2.heap.size 1 0 :=
    ⟨grow_trans (grow_trans HAG.out hg2) (grow_any (Lf.gb _)), by rw [heap_alloc_old (h := (Array.getElem?_eq_some_iff.1 hbk).1)]; exact hbk, heap_alloc_new _ _, (Array.getElem?_eq_some_iff.1 hbk).1, hrb⟩
  have hRD := h2.alloc (.cells #[.int .i64 1, .int .i64 0, .int .i64 0, .string ⟨#[]⟩, .slice none 0 0] 39)
  have HM := Lf.hide hM
  have HRD := Lf.hide hRD
  clear h2 hg2 hM hbk hRD
  cases hq : pText l with
  | none =>
    have HP : Hid (pNode (d + 1) n (b :: l) = .error 1) := by show _ = _; rw [pNode.eq_def]; simp [h300, hb, hq]
    have HN := Lf.hide (text_no HRD.out HL1.out hq)
    clear hq
    go_wp2_with fail
    refine HN.out.mono ?_; rintro e y ⟨rfl, hgy, s, hs, hRy0⟩
    have HM2 := Lf.hide (HM.out.step hgy)
    have HRD2 := Lf.hide hRy0
    clear hgy hRy0
    obtain ⟨hMG, hMR, hMN, hMlt, _⟩ := HM2.out
    have hNy := (set_one hMN (.string ⟨#[]⟩)).2.2.1
    have hRy := set_far (o := 3) hMR (by omega : w.heap.size ≠ w2.heap.size) (.string ⟨#[]⟩)
    obtain ⟨d0, d1, d2, d3, d4⟩ := box5 hNy
    obtain ⟨q0, q1, q2, q3, q4⟩ := box5 hRy
    obtain ⟨g0, g1, g2, g3, g4⟩ := box5f hRy
    obtain ⟨i0, i1, i2, i3, i4⟩ := box5f hMN
    obtain ⟨j0, j1, j2, j3, j4⟩ := box5 hMN
    have HRY := Lf.hide hRy
    have HMG := Lf.hide hMG
    clear hNy hRy hMR hMN hMG
    go_wp2_with fail
    change bodyPost _ _ _ _ _ (set5 (y.setCell ⟨w2.heap.size, 3, none⟩ (.string ⟨#[]⟩)) w.heap.size (.int .i64 1) (.int .i64 0) (.int .i64 0) (.string ⟨#[]⟩) (.slice none 0 0))
    have hb' := set5_block HRY.out (.int .i64 1) (.int .i64 0) (.int .i64 0) (.string ⟨#[]⟩) (.slice none 0 0)
    have hg' := set5_grow (y.setCell ⟨w2.heap.size, 3, none⟩ (.string ⟨#[]⟩)) w.heap.size (.int .i64 1) (.int .i64 0) (.int .i64 0) (.string ⟨#[]⟩) (.slice none 0 0)
    generalize set5 (y.setCell ⟨w2.heap.size, 3, none⟩ (.string ⟨#[]⟩)) w.heap.size (.int .i64 1) (.int .i64 0) (.int .i64 0) (.string ⟨#[]⟩) (.slice none 0 0) = wf at *
    obtain ⟨z0, z1, z2, z3, z4⟩ := box5 hb'
    refine bodyPost_ret (v := nodeV 1 0 0 ⟨#[]⟩ none 0 0) (by simp [results, Try.results91, go_sem, z0, z1, z2, z3, z4, nodeV]) rfl ?_
    exact post_long HP.out (by decide) (grow_new (grow_new HMG.out (grow_set (grow_refl _ _) _ _ _) (by omega)) hg' (Nat.le_refl _)) ⟨_, _, _, _, _, _, _, rfl⟩ hs ((HRD2.out.far (grow_set (grow_refl _ _) _ _ _) (by omega)).far hg' (by omega))
  | some r =>
    obtain ⟨s, l'⟩ := r
    have hm := (pText_sound hq).1
    have HP : Hid (pNode (d + 1) n (b :: l) = .ok (.nd 1 0 0 (bs s) [], n + 1, l')) := by show _ = _; rw [pNode.eq_def]; simp [h300, hb, hq]
    have HN := Lf.hide (text_ok HRD.out HL1.out hq)
    have HSZ : Hid ((bs s).size ≤ maxLen) := by show _ ≤ _; rw [bs_size]; unfold maxLen; omega
    clear hq
    generalize bs s = t at *
    go_wp2_with fail
    refine HN.out.mono ?_; rintro e y ⟨rfl, hgy, hRy0⟩
    have HM2 := Lf.hide (HM.out.step hgy)
    have HRD2 := Lf.hide hRy0
    clear hgy hRy0
    obtain ⟨hMG, hMR, hMN, hMlt, _⟩ := HM2.out
    have hNy := (set_one hMN (.string t)).2.2.1
    have hRy := set_far (o := 3) hMR (by omega : w.heap.size ≠ w2.heap.size) (.string t)
    obtain ⟨d0, d1, d2, d3, d4⟩ := box5 hNy
    obtain ⟨q0, q1, q2, q3, q4⟩ := box5 hRy
    obtain ⟨g0, g1, g2, g3, g4⟩ := box5f hRy
    obtain ⟨i0, i1, i2, i3, i4⟩ := box5f hMN
    obtain ⟨j0, j1, j2, j3, j4⟩ := box5 hMN
    have HRY := Lf.hide hRy
    have HMG := Lf.hide hMG
    clear hNy hRy hMR hMN hMG
    go_wp2_with fail
    change bodyPost _ _ _ _ _ (set5 (y.setCell ⟨w2.heap.size, 3, none⟩ (.string t)) w.heap.size (.int .i64 1) (.int .i64 0) (.int .i64 0) (.string t) (.slice none 0 0))
    have hb' := set5_block HRY.out (.int .i64 1) (.int .i64 0) (.int .i64 0) (.string t) (.slice none 0 0)
    have hg' := set5_grow (y.setCell ⟨w2.heap.size, 3, none⟩ (.string t)) w.heap.size (.int .i64 1) (.int .i64 0) (.int .i64 0) (.string t) (.slice none 0 0)
    generalize set5 (y.setCell ⟨w2.heap.size, 3, none⟩ (.string t)) w.heap.size (.int .i64 1) (.int .i64 0) (.int .i64 0) (.string t) (.slice none 0 0) = wf at *
    obtain ⟨z0, z1, z2, z3, z4⟩ := box5 hb'
    refine bodyPost_ret (v := nodeV 1 0 0 t none 0 0) (by simp [results, Try.results91, go_sem, z0, z1, z2, z3, z4, nodeV]) rfl ?_
    exact post_ok HP.out (grow_new (grow_new HMG.out (grow_set (grow_refl _ _) _ _ _) (by omega)) hg' (Nat.le_refl _)) (lies_leaf HSZ.out ⟨by omega, by omega⟩ ⟨by omega, by omega⟩ ⟨by omega, by omega⟩) (by push_cast; rfl) ((HRD2.out.far (grow_set (grow_refl _ _) _ _ _) (by omega)).far hg' (by omega))

set_option maxHeartbeats 400000 in
theorem node_k3 {dep : Int} {d : Nat} (hd : d + 1 ≤ 24) (hdep : 0 ≤ dep ∧ dep ≤ 24) (hN : NodeOk (dep + 1) d) (w : World) (rb n : Nat) (b : UInt8) (l : List UInt8) (hb : b.toNat = 3) (h : Rd w rb (bs (b :: l)) n 0) (hl : (b :: l).length ≤ maxLen) (hn : n ≤ 300) :
    Calls Try.prog 91 #[.pointer (some ⟨rb, 0, none⟩), .int .i64 dep] w (NodePost w rb (d + 1) n (b :: l)) := by
  by_cases h300 : n = 300
  · exact node_long dep (d + 1) n (b :: l) (by rw [pNode.eq_def]; simp [h300]) (.inl (by omega)) w rb h hl hn
  have h300' : ((n : Int) == 300) = false := by simp; omega
  obtain ⟨hdep0, hdep1⟩ := hdep
  obtain ⟨c0, c1, c2, f0, f1, f2⟩ := h.cells
  have hrb := h.lt
  have hA : Rd ((w.setCell ⟨rb, 1, none⟩ (.int .i64 ((n : Int) + 1))).alloc (.cells #[.int .i64 0, .int .i64 0, .int .i64 0, .string ⟨#[]⟩, .slice none 0 0] 39)) rb (bs (b :: l)) ((n : Int) + 1) 0 := (h.set1 _).alloc _
  have hAR : ((w.setCell ⟨rb, 1, none⟩ (.int .i64 ((n : Int) + 1))).alloc (.cells #[.int .i64 0, .int .i64 0, .int .i64 0, .string ⟨#[]⟩, .slice none 0 0] 39)).heap[w.heap.size]? = some (.cells #[.int .i64 0, .int .i64 0, .int .i64 0, .string ⟨#[]⟩, .slice none 0 0] 39 (0, 0)) := by
    have h2 := heap_alloc_new (w.setCell ⟨rb, 1, none⟩ (.int .i64 ((n : Int) + 1))) (.cells #[.int .i64 0, .int .i64 0, .int .i64 0, .string ⟨#[]⟩, .slice none 0 0] 39)
    rw [show (w.setCell ⟨rb, 1, none⟩ (.int .i64 ((n : Int) + 1))).heap.size = w.heap.size from by simp [World.setCell]] at h2
    exact h2
  have hAG : w.grownBy ((w.setCell ⟨rb, 1, none⟩ (.int .i64 ((n : Int) + 1))).alloc (.cells #[.int .i64 0, .int .i64 0, .int .i64 0, .string ⟨#[]⟩, .slice none 0 0] 39)) (some rb) := grow_trans (grow_set (grow_refl _ _) _ _ _) (grow_any (Lf.gb _))
  have HAR := Lf.hide hAR
  have HAG := Lf.hide hAG
  clear h hAR hAG
  have hO := octet_ok hA hl
  rw [hb, show ((3 : Nat) : Int) = 3 from rfl] at hO
  have HO := Lf.hide hO
  have HL1 : Hid (l.length ≤ maxLen) := by show _ ≤ _; simp at hl; omega
  clear hA hO hl
  go_enter Try.func91, Try.ntmps91
  go_wp2_with fail
  refine HO.out.mono ?_; rintro e w2 ⟨rfl, h2, hg2⟩
  have hbk := box_keep HAR.out hg2 (by omega)
  have hM : Mid w (w2.alloc (.cells #[.int .i64 3, .int .i64 0, .int .i64 0, .string ⟨#[]⟩, .slice none 0 0] 39)) rb w2.heap.size 3 0 :=
    ⟨grow_trans (grow_trans HAG.out hg2) (grow_any (Lf.gb _)), by rw [heap_alloc_old (h := (Array.getElem?_eq_some_iff.1 hbk).1)]; exact hbk, heap_alloc_new _ _, (Array.getElem?_eq_some_iff.1 hbk).1, hrb⟩
  have hRD := h2.alloc (.cells #[.int .i64 3, .int .i64 0, .int .i64 0, .string ⟨#[]⟩, .slice none 0 0] 39)
  have HM := Lf.hide hM
  have HRD := Lf.hide hRD
  clear h2 hg2 hM hbk hRD
  have HRDA := HRD
  have HMA := HM
  have HLA := HL1
  have HI := Lf.hide (args_of (by omega) ⟨by omega, by omega⟩ hN _ rb (n + 1) l HRDA.out HLA.out (by omega))
  cases hq : pArgs (fun n l => pNode d n l) (n + 1) l with
  | error x =>
    have HP : Hid (pNode (d + 1) n (b :: l) = .error x) := by show _ = _; rw [pNode.eq_def]; simp [h300, hb, hq]
    have HQ := Lf.hide hq
    clear hq hN
    go_wp2_with fail
    refine HI.out.mono ?_; rintro e y ⟨hgy, hpy⟩
    rw [HQ.out] at hpy
    obtain ⟨hx, ⟨a, sl, c, rfl⟩, s, m, hs, hRy0⟩ := hpy
    have HM2 := Lf.hide (HMA.out.step hgy)
    have HRD2 := Lf.hide hRy0
    clear hgy hRy0
    obtain ⟨hMG, hMR, hMN, hMlt, _⟩ := HM2.out
    have hNy := (set_one hMN (.slice a sl c)).2.2.2
    have hRy := set_far (o := 4) hMR (by omega : w.heap.size ≠ w2.heap.size) (.slice a sl c)
    obtain ⟨d0, d1, d2, d3, d4⟩ := box5 hNy
    obtain ⟨q0, q1, q2, q3, q4⟩ := box5 hRy
    obtain ⟨g0, g1, g2, g3, g4⟩ := box5f hRy
    obtain ⟨i0, i1, i2, i3, i4⟩ := box5f hMN
    obtain ⟨j0, j1, j2, j3, j4⟩ := box5 hMN
    have HRY := Lf.hide hRy
    have HMG := Lf.hide hMG
    clear hNy hRy hMR hMN hMG
    go_wp2_with fail
    change bodyPost _ _ _ _ _ (set5 (y.setCell ⟨w2.heap.size, 4, none⟩ (.slice a sl c)) w.heap.size (.int .i64 3) (.int .i64 0) (.int .i64 0) (.string ⟨#[]⟩) (.slice a sl c))
    have hb' := set5_block HRY.out (.int .i64 3) (.int .i64 0) (.int .i64 0) (.string ⟨#[]⟩) (.slice a sl c)
    have hg' := set5_grow (y.setCell ⟨w2.heap.size, 4, none⟩ (.slice a sl c)) w.heap.size (.int .i64 3) (.int .i64 0) (.int .i64 0) (.string ⟨#[]⟩) (.slice a sl c)
    generalize set5 (y.setCell ⟨w2.heap.size, 4, none⟩ (.slice a sl c)) w.heap.size (.int .i64 3) (.int .i64 0) (.int .i64 0) (.string ⟨#[]⟩) (.slice a sl c) = wf at *
    obtain ⟨z0, z1, z2, z3, z4⟩ := box5 hb'
    refine bodyPost_ret (v := nodeV 3 0 0 ⟨#[]⟩ a sl c) (by simp [results, Try.results91, go_sem, z0, z1, z2, z3, z4, nodeV]) rfl ?_
    exact post_long HP.out hx (grow_new (grow_new HMG.out (grow_set (grow_refl _ _) _ _ _) (by omega)) hg' (Nat.le_refl _)) ⟨_, _, _, _, _, _, _, rfl⟩ hs ((HRD2.out.far (grow_set (grow_refl _ _) _ _ _) (by omega)).far hg' (by omega))
  | ok r =>
    obtain ⟨ts, n', l'⟩ := r
    have hsd := pArgs_sound (pNode_sound d (by omega)) (by omega) hq
    have htl := length_le_sizes ts
    have hn' : n' ≤ 300 ∧ n' = n + 1 + sizes ts := ⟨hsd.2.2.1, hsd.2.1⟩
    have HP : Hid (pNode (d + 1) n (b :: l) = .ok (.nd 3 0 0 (bs []) ts, n', l')) := by show _ = _; rw [pNode.eq_def]; simp [h300, hb, hq]
    have HQ := Lf.hide hq
    clear hq hN hsd
    go_wp2_with fail
    refine HI.out.mono ?_; rintro e y ⟨hgy, hpy⟩
    rw [HQ.out] at hpy
    obtain ⟨a, c, V, rfl, hA1, hA2, hRy0⟩ := hpy
    have HA1 := Lf.hide hA1
    have HA2 := Lf.hide hA2
    have HM2 := Lf.hide (HMA.out.step hgy)
    have HRD2 := Lf.hide hRy0
    clear hgy hRy0 hA1 hA2
    obtain ⟨hMG, hMR, hMN, hMlt, _⟩ := HM2.out
    have hNy := (set_one hMN (.slice a ts.length c)).2.2.2
    have hRy := set_far (o := 4) hMR (by omega : w.heap.size ≠ w2.heap.size) (.slice a ts.length c)
    obtain ⟨d0, d1, d2, d3, d4⟩ := box5 hNy
    obtain ⟨q0, q1, q2, q3, q4⟩ := box5 hRy
    obtain ⟨g0, g1, g2, g3, g4⟩ := box5f hRy
    obtain ⟨i0, i1, i2, i3, i4⟩ := box5f hMN
    obtain ⟨j0, j1, j2, j3, j4⟩ := box5 hMN
    have HRY := Lf.hide hRy
    have HMG := Lf.hide hMG
    clear hNy hRy hMR hMN hMG
    go_wp2_with fail
    change bodyPost _ _ _ _ _ (set5 (y.setCell ⟨w2.heap.size, 4, none⟩ (.slice a ts.length c)) w.heap.size (.int .i64 3) (.int .i64 0) (.int .i64 0) (.string ⟨#[]⟩) (.slice a ts.length c))
    have hb' := set5_block HRY.out (.int .i64 3) (.int .i64 0) (.int .i64 0) (.string ⟨#[]⟩) (.slice a ts.length c)
    have hg' := set5_grow (y.setCell ⟨w2.heap.size, 4, none⟩ (.slice a ts.length c)) w.heap.size (.int .i64 3) (.int .i64 0) (.int .i64 0) (.string ⟨#[]⟩) (.slice a ts.length c)
    generalize set5 (y.setCell ⟨w2.heap.size, 4, none⟩ (.slice a ts.length c)) w.heap.size (.int .i64 3) (.int .i64 0) (.int .i64 0) (.string ⟨#[]⟩) (.slice a ts.length c) = wf at *
    obtain ⟨z0, z1, z2, z3, z4⟩ := box5 hb'
    refine bodyPost_ret (v := nodeV 3 0 0 ⟨#[]⟩ a ts.length c) (by simp [results, Try.results91, go_sem, z0, z1, z2, z3, z4, nodeV]) rfl ?_
    exact post_ok HP.out (grow_new (grow_new HMG.out (grow_set (grow_refl _ _) _ _ _) (by omega)) hg' (Nat.le_refl _)) (lies_args HA1.out HA2.out (same_two (grow_set (grow_refl _ _) _ _ _) hg' (by simp <;> omega) (by simp <;> omega)) (by simp <;> omega) (by unfold maxLen; omega) ⟨by omega, by omega⟩ ⟨by omega, by omega⟩) rfl ((HRD2.out.far (grow_set (grow_refl _ _) _ _ _) (by omega)).far hg' (by omega))

set_option maxHeartbeats 400000 in
theorem node_k2 {dep : Int} {d : Nat} (hd : d + 1 ≤ 24) (hdep : 0 ≤ dep ∧ dep ≤ 24) (hN : NodeOk (dep + 1) d) (q : UInt8) (l1 : List UInt8) (hq1 : Lf.isPrimB q.toNat = true) (w : World) (rb n : Nat) (b : UInt8) (l : List UInt8) (hl1 : l = q :: l1) (hb : b.toNat = 2) (h : Rd w rb (bs (b :: l)) n 0) (hl : (b :: l).length ≤ maxLen) (hn : n ≤ 300) :
    Calls Try.prog 91 #[.pointer (some ⟨rb, 0, none⟩), .int .i64 dep] w (NodePost w rb (d + 1) n (b :: l)) := by
  by_cases h300 : n = 300
  · exact node_long dep (d + 1) n (b :: l) (by rw [pNode.eq_def]; simp [h300]) (.inl (by omega)) w rb h hl hn
  have h300' : ((n : Int) == 300) = false := by simp; omega
  obtain ⟨hdep0, hdep1⟩ := hdep
  obtain ⟨c0, c1, c2, f0, f1, f2⟩ := h.cells
  have hrb := h.lt
  have hA : Rd ((w.setCell ⟨rb, 1, none⟩ (.int .i64 ((n : Int) + 1))).alloc (.cells #[.int .i64 0, .int .i64 0, .int .i64 0, .string ⟨#[]⟩, .slice none 0 0] 39)) rb (bs (b :: l)) ((n : Int) + 1) 0 := (h.set1 _).alloc _
  have hAR : ((w.setCell ⟨rb, 1, none⟩ (.int .i64 ((n : Int) + 1))).alloc (.cells #[.int .i64 0, .int .i64 0, .int .i64 0, .string ⟨#[]⟩, .slice none 0 0] 39)).heap[w.heap.size]? = some (.cells #[.int .i64 0, .int .i64 0, .int .i64 0, .string ⟨#[]⟩, .slice none 0 0] 39 (0, 0)) := by
    have h2 := heap_alloc_new (w.setCell ⟨rb, 1, none⟩ (.int .i64 ((n : Int) + 1))) (.cells #[.int .i64 0, .int .i64 0, .int .i64 0, .string ⟨#[]⟩, .slice none 0 0] 39)
    rw [show (w.setCell ⟨rb, 1, none⟩ (.int .i64 ((n : Int) + 1))).heap.size = w.heap.size from by simp [World.setCell]] at h2
    exact h2
  have hAG : w.grownBy ((w.setCell ⟨rb, 1, none⟩ (.int .i64 ((n : Int) + 1))).alloc (.cells #[.int .i64 0, .int .i64 0, .int .i64 0, .string ⟨#[]⟩, .slice none 0 0] 39)) (some rb) := grow_trans (grow_set (grow_refl _ _) _ _ _) (grow_any (Lf.gb _))
  have HAR := Lf.hide hAR
  have HAG := Lf.hide hAG
  clear h hAR hAG
  have hO := octet_ok hA hl
  rw [hb, show ((2 : Nat) : Int) = 2 from rfl] at hO
  have HO := Lf.hide hO
  have HL1 : Hid (l.length ≤ maxLen) := by show _ ≤ _; simp at hl; omega
  clear hA hO hl
  go_enter Try.func91, Try.ntmps91
  go_wp2_with fail
  refine HO.out.mono ?_; rintro e w2 ⟨rfl, h2, hg2⟩
  have hbk := box_keep HAR.out hg2 (by omega)
  have hM : Mid w (w2.alloc (.cells #[.int .i64 2, .int .i64 0, .int .i64 0, .string ⟨#[]⟩, .slice none 0 0] 39)) rb w2.heap.size 2 0 :=
    ⟨grow_trans (grow_trans HAG.out hg2) (grow_any (Lf.gb _)), by rw [heap_alloc_old (h := (Array.getElem?_eq_some_iff.1 hbk).1)]; exact hbk, heap_alloc_new _ _, (Array.getElem?_eq_some_iff.1 hbk).1, hrb⟩
  have hRD := h2.alloc (.cells #[.int .i64 2, .int .i64 0, .int .i64 0, .string ⟨#[]⟩, .slice none 0 0] 39)
  have HM := Lf.hide hM
  have HRD := Lf.hide hRD
  clear h2 hg2 hM hbk hRD
  subst hl1
  have hqr := prim_range hq1
  have HLA : Hid (l1.length ≤ maxLen) := by show _ ≤ _; have := HL1.out; simp at this; omega
  have HPR := Lf.hide (primR_ok HRD.out HL1.out hq1)
  go_wp2_with fail
  refine HPR.out.mono ?_; rintro e y1 ⟨rfl, hgy1, hRy1⟩
  obtain ⟨hMG1, hMR1, hMN1, hMlt1, hMrb1⟩ := HM.out.step hgy1
  have hz1 := (Array.getElem?_eq_some_iff.1 hMN1).1
  have hM1 : Mid w (y1.setCell ⟨w2.heap.size, 2, none⟩ (.int .i64 q.toNat)) rb w2.heap.size 2 q.toNat :=
    ⟨grow_new hMG1 (grow_set (grow_refl _ _) _ _ _) (by omega), set_far hMR1 (by omega) _, (set_one hMN1 (.int .i64 q.toNat)).2.1, hMlt1, hMrb1⟩
  have HMA := Lf.hide hM1
  have HRDA := Lf.hide (hRy1.far (grow_set (grow_refl y1 (some w2.heap.size)) 2 none (.int .i64 q.toNat)) (by omega))
  obtain ⟨x0, x1, x2, x3, x4⟩ := box5f hMN1
  obtain ⟨y0, y2, y3, y4, y5⟩ := box5 hMN1
  have hsz1 : (y1.setCell ⟨w2.heap.size, 2, none⟩ (.int .i64 q.toNat)).heap.size = y1.heap.size := by simp [World.setCell]
  have HSZ := Lf.hide hsz1
  clear hgy1 hRy1 hMG1 hMR1 hMN1 hM1 hsz1
  have HI := Lf.hide (args_of (by omega) ⟨by omega, by omega⟩ hN _ rb (n + 1) l1 HRDA.out HLA.out (by omega))
  cases hq : pArgs (fun n l => pNode d n l) (n + 1) l1 with
  | error x =>
    have HP : Hid (pNode (d + 1) n (b :: q :: l1) = .error x) := by show _ = _; rw [pNode.eq_def]; simp [h300, hb, hq1, hq]
    have HQ := Lf.hide hq
    clear hq hN
    go_wp2_with fail
    refine HI.out.mono ?_; rintro e y ⟨hgy, hpy⟩
    rw [HQ.out] at hpy
    obtain ⟨hx, ⟨a, sl, c, rfl⟩, s, m, hs, hRy0⟩ := hpy
    have HM2 := Lf.hide (HMA.out.step hgy)
    have HRD2 := Lf.hide hRy0
    clear hgy hRy0
    obtain ⟨hMG, hMR, hMN, hMlt, _⟩ := HM2.out
    have hNy := (set_one hMN (.slice a sl c)).2.2.2
    have hRy := set_far (o := 4) hMR (by omega : w.heap.size ≠ w2.heap.size) (.slice a sl c)
    obtain ⟨d0, d1, d2, d3, d4⟩ := box5 hNy
    obtain ⟨q0, q1, q2, q3, q4⟩ := box5 hRy
    obtain ⟨g0, g1, g2, g3, g4⟩ := box5f hRy
    obtain ⟨i0, i1, i2, i3, i4⟩ := box5f hMN
    obtain ⟨j0, j1, j2, j3, j4⟩ := box5 hMN
    have HRY := Lf.hide hRy
    have HMG := Lf.hide hMG
    clear hNy hRy hMR hMN hMG
    go_wp2_with fail
    change bodyPost _ _ _ _ _ (set5 (y.setCell ⟨w2.heap.size, 4, none⟩ (.slice a sl c)) w.heap.size (.int .i64 2) (.int .i64 0) (.int .i64 q.toNat) (.string ⟨#[]⟩) (.slice a sl c))
    have hb' := set5_block HRY.out (.int .i64 2) (.int .i64 0) (.int .i64 q.toNat) (.string ⟨#[]⟩) (.slice a sl c)
    have hg' := set5_grow (y.setCell ⟨w2.heap.size, 4, none⟩ (.slice a sl c)) w.heap.size (.int .i64 2) (.int .i64 0) (.int .i64 q.toNat) (.string ⟨#[]⟩) (.slice a sl c)
    generalize set5 (y.setCell ⟨w2.heap.size, 4, none⟩ (.slice a sl c)) w.heap.size (.int .i64 2) (.int .i64 0) (.int .i64 q.toNat) (.string ⟨#[]⟩) (.slice a sl c) = wf at *
    obtain ⟨z0, z1, z2, z3, z4⟩ := box5 hb'
    refine bodyPost_ret (v := nodeV 2 0 q.toNat ⟨#[]⟩ a sl c) (by simp [results, Try.results91, go_sem, z0, z1, z2, z3, z4, nodeV]) rfl ?_
    exact post_long HP.out hx (grow_new (grow_new HMG.out (grow_set (grow_refl _ _) _ _ _) (by omega)) hg' (Nat.le_refl _)) ⟨_, _, _, _, _, _, _, rfl⟩ hs ((HRD2.out.far (grow_set (grow_refl _ _) _ _ _) (by omega)).far hg' (by omega))
  | ok r =>
    obtain ⟨ts, n', l'⟩ := r
    have hsd := pArgs_sound (pNode_sound d (by omega)) (by omega) hq
    have htl := length_le_sizes ts
    have hn' : n' ≤ 300 ∧ n' = n + 1 + sizes ts := ⟨hsd.2.2.1, hsd.2.1⟩
    have HP : Hid (pNode (d + 1) n (b :: q :: l1) = .ok (.nd 2 0 q.toNat (bs []) ts, n', l')) := by show _ = _; rw [pNode.eq_def]; simp [h300, hb, hq1, hq]
    have HQ := Lf.hide hq
    clear hq hN hsd
    go_wp2_with fail
    refine HI.out.mono ?_; rintro e y ⟨hgy, hpy⟩
    rw [HQ.out] at hpy
    obtain ⟨a, c, V, rfl, hA1, hA2, hRy0⟩ := hpy
    have HA1 := Lf.hide hA1
    have HA2 := Lf.hide hA2
    have HM2 := Lf.hide (HMA.out.step hgy)
    have HRD2 := Lf.hide hRy0
    clear hgy hRy0 hA1 hA2
    obtain ⟨hMG, hMR, hMN, hMlt, _⟩ := HM2.out
    have hNy := (set_one hMN (.slice a ts.length c)).2.2.2
    have hRy := set_far (o := 4) hMR (by omega : w.heap.size ≠ w2.heap.size) (.slice a ts.length c)
    obtain ⟨d0, d1, d2, d3, d4⟩ := box5 hNy
    obtain ⟨q0, q1, q2, q3, q4⟩ := box5 hRy
    obtain ⟨g0, g1, g2, g3, g4⟩ := box5f hRy
    obtain ⟨i0, i1, i2, i3, i4⟩ := box5f hMN
    obtain ⟨j0, j1, j2, j3, j4⟩ := box5 hMN
    have HRY := Lf.hide hRy
    have HMG := Lf.hide hMG
    clear hNy hRy hMR hMN hMG
    go_wp2_with fail
    change bodyPost _ _ _ _ _ (set5 (y.setCell ⟨w2.heap.size, 4, none⟩ (.slice a ts.length c)) w.heap.size (.int .i64 2) (.int .i64 0) (.int .i64 q.toNat) (.string ⟨#[]⟩) (.slice a ts.length c))
    have hb' := set5_block HRY.out (.int .i64 2) (.int .i64 0) (.int .i64 q.toNat) (.string ⟨#[]⟩) (.slice a ts.length c)
    have hg' := set5_grow (y.setCell ⟨w2.heap.size, 4, none⟩ (.slice a ts.length c)) w.heap.size (.int .i64 2) (.int .i64 0) (.int .i64 q.toNat) (.string ⟨#[]⟩) (.slice a ts.length c)
    generalize set5 (y.setCell ⟨w2.heap.size, 4, none⟩ (.slice a ts.length c)) w.heap.size (.int .i64 2) (.int .i64 0) (.int .i64 q.toNat) (.string ⟨#[]⟩) (.slice a ts.length c) = wf at *
    obtain ⟨z0, z1, z2, z3, z4⟩ := box5 hb'
    refine bodyPost_ret (v := nodeV 2 0 q.toNat ⟨#[]⟩ a ts.length c) (by simp [results, Try.results91, go_sem, z0, z1, z2, z3, z4, nodeV]) rfl ?_
    exact post_ok HP.out (grow_new (grow_new HMG.out (grow_set (grow_refl _ _) _ _ _) (by omega)) hg' (Nat.le_refl _)) (lies_args HA1.out HA2.out (same_two (grow_set (grow_refl _ _) _ _ _) hg' (by rw [HSZ.out]; omega) (by rw [HSZ.out]; omega)) (by rw [HSZ.out]; omega) (by unfold maxLen; omega) ⟨by omega, by omega⟩ ⟨by omega, by omega⟩) rfl ((HRD2.out.far (grow_set (grow_refl _ _) _ _ _) (by omega)).far hg' (by omega))

set_option maxHeartbeats 400000 in
theorem node_k2no {dep : Int} {d : Nat} (hd : d + 1 ≤ 24) (hdep : 0 ≤ dep ∧ dep ≤ 24) (w : World) (rb n : Nat) (b : UInt8) (l : List UInt8) (hpr : ∀ q l1, l = q :: l1 → Lf.isPrimB q.toNat = false) (hb : b.toNat = 2) (h : Rd w rb (bs (b :: l)) n 0) (hl : (b :: l).length ≤ maxLen) (hn : n ≤ 300) :
    Calls Try.prog 91 #[.pointer (some ⟨rb, 0, none⟩), .int .i64 dep] w (NodePost w rb (d + 1) n (b :: l)) := by
  by_cases h300 : n = 300
  · exact node_long dep (d + 1) n (b :: l) (by rw [pNode.eq_def]; simp [h300]) (.inl (by omega)) w rb h hl hn
  have h300' : ((n : Int) == 300) = false := by simp; omega
  obtain ⟨hdep0, hdep1⟩ := hdep
  obtain ⟨c0, c1, c2, f0, f1, f2⟩ := h.cells
  have hrb := h.lt
  have hA : Rd ((w.setCell ⟨rb, 1, none⟩ (.int .i64 ((n : Int) + 1))).alloc (.cells #[.int .i64 0, .int .i64 0, .int .i64 0, .string ⟨#[]⟩, .slice none 0 0] 39)) rb (bs (b :: l)) ((n : Int) + 1) 0 := (h.set1 _).alloc _
  have hAR : ((w.setCell ⟨rb, 1, none⟩ (.int .i64 ((n : Int) + 1))).alloc (.cells #[.int .i64 0, .int .i64 0, .int .i64 0, .string ⟨#[]⟩, .slice none 0 0] 39)).heap[w.heap.size]? = some (.cells #[.int .i64 0, .int .i64 0, .int .i64 0, .string ⟨#[]⟩, .slice none 0 0] 39 (0, 0)) := by
    have h2 := heap_alloc_new (w.setCell ⟨rb, 1, none⟩ (.int .i64 ((n : Int) + 1))) (.cells #[.int .i64 0, .int .i64 0, .int .i64 0, .string ⟨#[]⟩, .slice none 0 0] 39)
    rw [show (w.setCell ⟨rb, 1, none⟩ (.int .i64 ((n : Int) + 1))).heap.size = w.heap.size from by simp [World.setCell]] at h2
    exact h2
  have hAG : w.grownBy ((w.setCell ⟨rb, 1, none⟩ (.int .i64 ((n : Int) + 1))).alloc (.cells #[.int .i64 0, .int .i64 0, .int .i64 0, .string ⟨#[]⟩, .slice none 0 0] 39)) (some rb) := grow_trans (grow_set (grow_refl _ _) _ _ _) (grow_any (Lf.gb _))
  have HAR := Lf.hide hAR
  have HAG := Lf.hide hAG
  clear h hAR hAG
  have hO := octet_ok hA hl
  rw [hb, show ((2 : Nat) : Int) = 2 from rfl] at hO
  have HO := Lf.hide hO
  have HL1 : Hid (l.length ≤ maxLen) := by show _ ≤ _; simp at hl; omega
  clear hA hO hl
  go_enter Try.func91, Try.ntmps91
  go_wp2_with fail
  refine HO.out.mono ?_; rintro e w2 ⟨rfl, h2, hg2⟩
  have hbk := box_keep HAR.out hg2 (by omega)
  have hM : Mid w (w2.alloc (.cells #[.int .i64 2, .int .i64 0, .int .i64 0, .string ⟨#[]⟩, .slice none 0 0] 39)) rb w2.heap.size 2 0 :=
    ⟨grow_trans (grow_trans HAG.out hg2) (grow_any (Lf.gb _)), by rw [heap_alloc_old (h := (Array.getElem?_eq_some_iff.1 hbk).1)]; exact hbk, heap_alloc_new _ _, (Array.getElem?_eq_some_iff.1 hbk).1, hrb⟩
  have hRD := h2.alloc (.cells #[.int .i64 2, .int .i64 0, .int .i64 0, .string ⟨#[]⟩, .slice none 0 0] 39)
  have HM := Lf.hide hM
  have HRD := Lf.hide hRD
  clear h2 hg2 hM hbk hRD
  have HP : Hid (pNode (d + 1) n (b :: l) = .error 1) := by
    show _ = _
    rw [pNode.eq_def]
    cases l with
    | nil => simp [h300, hb]
    | cons q l1 => simp [h300, hb, hpr q l1 rfl]
  have HPR := Lf.hide (prim_no HRD.out HL1.out hpr)
  go_wp2_with fail
  refine HPR.out.mono ?_; rintro e y1 ⟨⟨q, rfl⟩, hgy1, s, hs, hRy1⟩
  obtain ⟨hMG1, hMR1, hMN1, hMlt1, hMrb1⟩ := HM.out.step hgy1
  have hz1 := (Array.getElem?_eq_some_iff.1 hMN1).1
  have hM1 : Mid w (y1.setCell ⟨w2.heap.size, 2, none⟩ (.int .i64 q)) rb w2.heap.size 2 q :=
    ⟨grow_new hMG1 (grow_set (grow_refl _ _) _ _ _) (by omega), set_far hMR1 (by omega) _, (set_one hMN1 (.int .i64 q)).2.1, hMlt1, hMrb1⟩
  have HMA := Lf.hide hM1
  have HRDA := Lf.hide (hRy1.far (grow_set (grow_refl y1 (some w2.heap.size)) 2 none (.int .i64 q)) (by omega))
  obtain ⟨x0, x1, x2, x3, x4⟩ := box5f hMN1
  obtain ⟨y0, y2, y3, y4, y5⟩ := box5 hMN1
  clear hgy1 hRy1 hMG1 hMR1 hMN1 hM1
  go_wp2_with fail
  refine (stuck_args HRDA.out hs (by decide) dep).mono ?_; rintro e y ⟨rfl, hgy, hRy0⟩
  have HM2 := Lf.hide (HMA.out.step hgy)
  have HRD2 := Lf.hide hRy0
  clear hgy hRy0
  obtain ⟨hMG, hMR, hMN, hMlt, _⟩ := HM2.out
  have hNy := (set_one hMN (.slice none 0 0)).2.2.2
  have hRy := set_far (o := 4) hMR (by omega : w.heap.size ≠ w2.heap.size) (.slice none 0 0)
  obtain ⟨d0, d1, d2, d3, d4⟩ := box5 hNy
  obtain ⟨q0, q1, q2, q3, q4⟩ := box5 hRy
  obtain ⟨g0, g1, g2, g3, g4⟩ := box5f hRy
  obtain ⟨i0, i1, i2, i3, i4⟩ := box5f hMN
  obtain ⟨j0, j1, j2, j3, j4⟩ := box5 hMN
  have HRY := Lf.hide hRy
  have HMG := Lf.hide hMG
  clear hNy hRy hMR hMN hMG
  go_wp2_with fail
  change bodyPost _ _ _ _ _ (set5 (y.setCell ⟨w2.heap.size, 4, none⟩ (.slice none 0 0)) w.heap.size (.int .i64 2) (.int .i64 0) (.int .i64 q) (.string ⟨#[]⟩) (.slice none 0 0))
  have hb' := set5_block HRY.out (.int .i64 2) (.int .i64 0) (.int .i64 q) (.string ⟨#[]⟩) (.slice none 0 0)
  have hg' := set5_grow (y.setCell ⟨w2.heap.size, 4, none⟩ (.slice none 0 0)) w.heap.size (.int .i64 2) (.int .i64 0) (.int .i64 q) (.string ⟨#[]⟩) (.slice none 0 0)
  generalize set5 (y.setCell ⟨w2.heap.size, 4, none⟩ (.slice none 0 0)) w.heap.size (.int .i64 2) (.int .i64 0) (.int .i64 q) (.string ⟨#[]⟩) (.slice none 0 0) = wf at *
  obtain ⟨z0, z1, z2, z3, z4⟩ := box5 hb'
  refine bodyPost_ret (v := nodeV 2 0 q ⟨#[]⟩ none 0 0) (by simp [results, Try.results91, go_sem, z0, z1, z2, z3, z4, nodeV]) rfl ?_
  exact post_long HP.out (by decide) (grow_new (grow_new HMG.out (grow_set (grow_refl _ _) _ _ _) (by omega)) hg' (Nat.le_refl _)) ⟨_, _, _, _, _, _, _, rfl⟩ hs ((HRD2.out.far (grow_set (grow_refl _ _) _ _ _) (by omega)).far hg' (by omega))

set_option maxHeartbeats 400000 in
theorem node_kx {dep : Int} {d : Nat} (hd : d + 1 ≤ 24) (hdep : 0 ≤ dep ∧ dep ≤ 24) (w : World) (rb n : Nat) (b : UInt8) (l : List UInt8) (hb : 3 < b.toNat) (h : Rd w rb (bs (b :: l)) n 0) (hl : (b :: l).length ≤ maxLen) (hn : n ≤ 300) :
    Calls Try.prog 91 #[.pointer (some ⟨rb, 0, none⟩), .int .i64 dep] w (NodePost w rb (d + 1) n (b :: l)) := by
  by_cases h300 : n = 300
  · exact node_long dep (d + 1) n (b :: l) (by rw [pNode.eq_def]; simp [h300]) (.inl (by omega)) w rb h hl hn
  have h300' : ((n : Int) == 300) = false := by simp; omega
  obtain ⟨hdep0, hdep1⟩ := hdep
  obtain ⟨c0, c1, c2, f0, f1, f2⟩ := h.cells
  have hrb := h.lt
  have hA : Rd ((w.setCell ⟨rb, 1, none⟩ (.int .i64 ((n : Int) + 1))).alloc (.cells #[.int .i64 0, .int .i64 0, .int .i64 0, .string ⟨#[]⟩, .slice none 0 0] 39)) rb (bs (b :: l)) ((n : Int) + 1) 0 := (h.set1 _).alloc _
  have hAR : ((w.setCell ⟨rb, 1, none⟩ (.int .i64 ((n : Int) + 1))).alloc (.cells #[.int .i64 0, .int .i64 0, .int .i64 0, .string ⟨#[]⟩, .slice none 0 0] 39)).heap[w.heap.size]? = some (.cells #[.int .i64 0, .int .i64 0, .int .i64 0, .string ⟨#[]⟩, .slice none 0 0] 39 (0, 0)) := by
    have h2 := heap_alloc_new (w.setCell ⟨rb, 1, none⟩ (.int .i64 ((n : Int) + 1))) (.cells #[.int .i64 0, .int .i64 0, .int .i64 0, .string ⟨#[]⟩, .slice none 0 0] 39)
    rw [show (w.setCell ⟨rb, 1, none⟩ (.int .i64 ((n : Int) + 1))).heap.size = w.heap.size from by simp [World.setCell]] at h2
    exact h2
  have hAG : w.grownBy ((w.setCell ⟨rb, 1, none⟩ (.int .i64 ((n : Int) + 1))).alloc (.cells #[.int .i64 0, .int .i64 0, .int .i64 0, .string ⟨#[]⟩, .slice none 0 0] 39)) (some rb) := grow_trans (grow_set (grow_refl _ _) _ _ _) (grow_any (Lf.gb _))
  have HAR := Lf.hide hAR
  have HAG := Lf.hide hAG
  clear h hAR hAG
  have hO := octet_ok hA hl
  have hb0 := hb
  have HO := Lf.hide hO
  have HL1 : Hid (l.length ≤ maxLen) := by show _ ≤ _; simp at hl; omega
  clear hA hO hl
  go_enter Try.func91, Try.ntmps91
  go_wp2_with fail
  refine HO.out.mono ?_; rintro e w2 ⟨rfl, h2, hg2⟩
  have hbk := box_keep HAR.out hg2 (by omega)
  have hM : Mid w (w2.alloc (.cells #[.int .i64 b.toNat, .int .i64 0, .int .i64 0, .string ⟨#[]⟩, .slice none 0 0] 39)) rb w2.heap.size b.toNat 0 :=
    ⟨grow_trans (grow_trans HAG.out hg2) (grow_any (Lf.gb _)), by rw [heap_alloc_old (h := (Array.getElem?_eq_some_iff.1 hbk).1)]; exact hbk, heap_alloc_new _ _, (Array.getElem?_eq_some_iff.1 hbk).1, hrb⟩
  have hRD := h2.alloc (.cells #[.int .i64 b.toNat, .int .i64 0, .int .i64 0, .string ⟨#[]⟩, .slice none 0 0] 39)
  have HM := Lf.hide hM
  have HRD := Lf.hide hRD
  clear h2 hg2 hM hbk hRD
  have HP : Hid (pNode (d + 1) n (b :: l) = .error 1) := by
    show _ = _
    rw [pNode.eq_def]; simp only; rw [if_neg h300, if_neg (by omega), if_neg (by omega), if_neg (by omega), if_neg (by omega)]
  have k0 : ((b.toNat : Int) == 0) = false := by simp; omega
  have k1 : ((b.toNat : Int) == 1) = false := by simp; omega
  have k2 : ((b.toNat : Int) == 2) = false := by simp; omega
  have k3 : ((b.toNat : Int) == 3) = false := by simp; omega
  go_wp2_with fail
  refine (fail_ok HRD.out 1).mono ?_; rintro e y ⟨rfl, hRy0, hgy⟩
  have HRD2 := Lf.hide hRy0
  obtain ⟨hMG, hMR, hMN, hMlt, _⟩ := HM.out.step hgy
  obtain ⟨d0, d1, d2, d3, d4⟩ := box5 hMN
  obtain ⟨q0, q1, q2, q3, q4⟩ := box5 hMR
  obtain ⟨g0, g1, g2, g3, g4⟩ := box5f hMR
  have HRY := Lf.hide hMR
  have HMG := Lf.hide hMG
  clear hMR hMN hMG hgy hRy0
  go_wp2_with fail
  change bodyPost _ _ _ _ _ (set5 y w.heap.size (.int .i64 b.toNat) (.int .i64 0) (.int .i64 0) (.string ⟨#[]⟩) (.slice none 0 0))
  have hb' := set5_block HRY.out (.int .i64 b.toNat) (.int .i64 0) (.int .i64 0) (.string ⟨#[]⟩) (.slice none 0 0)
  have hg' := set5_grow y w.heap.size (.int .i64 b.toNat) (.int .i64 0) (.int .i64 0) (.string ⟨#[]⟩) (.slice none 0 0)
  generalize set5 y w.heap.size (.int .i64 b.toNat) (.int .i64 0) (.int .i64 0) (.string ⟨#[]⟩) (.slice none 0 0) = wf at *
  obtain ⟨z0, z1, z2, z3, z4⟩ := box5 hb'
  refine bodyPost_ret (v := nodeV b.toNat 0 0 ⟨#[]⟩ none 0 0) (by simp [results, Try.results91, go_sem, z0, z1, z2, z3, z4, nodeV]) rfl ?_
  exact post_long HP.out (by decide) (grow_new HMG.out hg' (Nat.le_refl _)) ⟨_, _, _, _, _, _, _, rfl⟩ (by rw [bs_size]; exact HL1.out) (HRD2.out.far hg' (by omega))

theorem nodeR_ok (d : Nat) (hd : d ≤ 24) : NodeOk ((25 - d : Nat) : Int) d := by
  induction d with
  | zero =>
    intro w rb n l h hl hn
    exact node_long _ 0 n l (by simp [pNode]) (.inr (by decide)) w rb h hl hn
  | succ d ih =>
    have hN := ih (by omega)
    rw [show ((25 - d : Nat) : Int) = ((25 - (d + 1) : Nat) : Int) + 1 from by omega] at hN
    intro w rb n l h hl hn
    have hdep : 0 ≤ ((25 - (d + 1) : Nat) : Int) ∧ ((25 - (d + 1) : Nat) : Int) ≤ 24 := ⟨by omega, by omega⟩
    cases l with
    | nil => exact node_nil hd hdep w rb n h hl hn
    | cons b l =>
      by_cases h0 : b.toNat = 0
      · exact node_k0 hd hdep w rb n b l h0 h hl hn
      by_cases h1 : b.toNat = 1
      · exact node_k1 hd hdep w rb n b l h1 h hl hn
      by_cases h2 : b.toNat = 2
      · by_cases hpr : ∃ q l1, l = q :: l1 ∧ Lf.isPrimB q.toNat = true
        · obtain ⟨q, l1, e1, e2⟩ := hpr
          exact node_k2 hd hdep hN q l1 e2 w rb n b l e1 h2 h hl hn
        · exact node_k2no hd hdep w rb n b l (fun q l1 e => by
            cases hh : Lf.isPrimB q.toNat with
            | false => rfl
            | true => exact absurd ⟨q, l1, e, hh⟩ hpr) h2 h hl hn
      by_cases h3 : b.toNat = 3
      · exact node_k3 hd hdep hN w rb n b l h3 h hl hn
      exact node_kx hd hdep w rb n b l (by omega) h hl hn

end Go.Proofs.Ytmmgihaoahhkjaa
