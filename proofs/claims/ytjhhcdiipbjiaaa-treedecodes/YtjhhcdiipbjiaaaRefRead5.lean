/- The document's own readNode by its contract: Args. -/
import Derived.Test.YtjhhcdiipbjiaaaRefRead4
namespace Go.Proofs.Ytjhhcdiipbjiaaa
open Go.ChangeShapes Go.WideShapes Go.ChangeAt Go.RowKit
set_option linter.unusedVariables false

theorem own_lt_neD {w : World} {B : Nat} {e : TypeId} {size n : Nat} {v : Value} {xs : List Value} (h : w.ownsRow B e size v n xs) {y : Nat} (hy : y < B) : some y ≠ v.ownBlock := fun e => by have := (World.ownsRow.lt h y e.symm).1; omega

structure DInv (w2 w : World) (nb rb H : Nat) (kb p : Int) (lv : Value) (ts : List Tr) (vs : List Value) : Prop where
  grown : w2.grownBy w none
  blk : w.heap[nb]? = some (.cells #[.int .i64 kb, .int .i64 0, .int .i64 p, .string ⟨#[]⟩, lv] 34 (0, 0))
  res : w.heap[rb]? = some (.cells #[.int .i64 0, .int .i64 0, .int .i64 0, .string ⟨#[]⟩, .slice none 0 0] 34 (0, 0))
  list : ListOk H w lv ts vs
  hz : H ≤ w.heap.size

theorem DInv.call {w2 w w' : World} {nb rb H : Nat} {kb p : Int} {lv : Value} {ts : List Tr} {vs : List Value} (h : DInv w2 w nb rb H kb p lv ts vs) (hg : w.grownBy w' none) (hn : nb < H) : DInv w2 w' nb rb H kb p lv ts vs :=
  ⟨Lf.gbt h.grown hg, (hg.block _ (lt_of_block h.blk) (by simp)).trans h.blk, (hg.block _ (lt_of_block h.res) (by simp)).trans h.res, h.list.keep (rb := nb) (grow_any hg) hn, Nat.le_trans h.hz hg.size⟩

theorem DInv.push {w2 w w' : World} {nb rb H S : Nat} {kb p : Int} {lv lv' u : Value} {ts : List Tr} {vs : List Value} {t : Tr} (h : DInv w2 w nb rb H kb p lv ts vs) (hn : w2.heap.size ≤ nb) (hnH : nb < H) (hrH : rb < H) (hrn : rb ≠ nb) (hS : H ≤ S)
    (hvS : ∀ k, lv.ownBlock = some k → k < S) (hL : Lies (S ≤ ·) w t u) (hg : Gr w lv w' lv') (ho : OwnsL H w' lv' (vs ++ [u])) : DInv w2 (w'.setCell ⟨nb, 4, none⟩ lv') nb rb H kb p lv' (ts ++ [t]) (vs ++ [u]) := by
  have hset : w'.grownBy (w'.setCell ⟨nb, 4, none⟩ lv') (some nb) := grow_set (grow_refl _ _) _ _ _
  have kbk : w'.heap[nb]? = _ := (hg.block (lt_of_block h.blk) (own_lt_neD h.list.own hnH)).trans h.blk
  have kr : w'.heap[rb]? = _ := (hg.block (lt_of_block h.res) (own_lt_neD h.list.own hrH)).trans h.res
  refine ⟨?_, (set_one kbk lv').2.2.2, (hset.block rb (lt_of_block kr) (by simpa using hrn)).trans kr, (h.list.push hS hvS hL hg ho).keep hset hnH, ?_⟩
  · refine ⟨hg.1.os.trans h.grown.os, hg.1.tape.trans h.grown.tape, hg.1.output.trans h.grown.output, Nat.le_trans h.grown.size (Nat.le_trans hg.1.size hset.size), fun i hi hr => ?_⟩
    rw [hset.block i (by have := h.grown.size; have := hg.1.size; omega) (by simp; omega), hg.block (by have := h.grown.size; omega) (own_lt_neD h.list.own (by omega))]
    exact h.grown.block i hi hr
  · have := h.hz; have := hg.1.size; have := hset.size; omega

/-- that readNode answers so at d levels -/
def RROk (d : Nat) : Prop := ∀ (dI LI : Int) (n : Nat) (l : List UInt8) (w : World), dI = d → LI = 300 - n → n ≤ 300 → l.length ≤ maxLen → Calls Try.prog 40 #[.string (bs l), .int .i64 dI, .int .i64 LI] w (RRPost w d n l)

def ArgsAns (d n : Nat) (K : Nat) (l : List UInt8) : Except Int (List Tr × Nat × List UInt8) := pSeq (fun n l => pNode d n l) K (n + 1) l

def wrapA (kb p : Int) : Except Int (List Tr × Nat × List UInt8) → Except Int (Tr × Nat × List UInt8)
  | .error e => .error e
  | .ok (ts, n', l') => .ok (.nd kb 0 p (bs []) ts, n', l')

/-- where readNode's loop stands -/
def DRel (w : World) (d n K : Nat) (l3 : List UInt8) (kb p : Int) (sv mv iv : Value) (wr : World) : Prop :=
  ∃ (j m2 : Nat) (lv : Value) (ts : List Tr) (vs : List Value) (l4 : List UInt8), iv = .int .i64 j ∧ mv = .int .i64 m2 ∧ sv = .string (bs l4) ∧ j ≤ K ∧ 1 ≤ m2 ∧ ts.length ≤ m2 ∧ n + m2 ≤ 300 ∧ l4.length ≤ maxLen ∧
    DInv w wr (w.heap.size + 1) w.heap.size (w.heap.size + 1 + 1) kb p lv ts vs ∧ ArgsAns d n K l3 = prep ts (pSeq (fun n l => pNode d n l) (K - j) (n + m2) l4)

set_option maxRecDepth 100000 in
set_option maxHeartbeats 4000000 in
theorem rr_seq (dI LI : Int) (d n : Nat) (b : UInt8) (l1 : List UInt8) (hl : (b :: l1).length ≤ maxLen) (w : World) (hd : ¬ dI = 0) (hL : ¬ LI = 0) (hb : b.toNat = 3) (K : Nat) (l3 : List UInt8) (hn : pNum l1 = some ((K : Int), l3)) (hd0 : dI = ((d + 1 : Nat) : Int)) (hLI : LI = 300 - n) (hn3 : n < 300) (hIH : RROk d) (hd24 : d ≤ 23) (hpn : pNode (d + 1) n (b :: l1) = wrapA 3 0 (ArgsAns d n K l3)) :
    Calls Try.prog 40 #[.string (bs (b :: l1)), .int .i64 dI, .int .i64 LI] w (RRPost w (d + 1) n (b :: l1)) := by
  have HPN := Lf.hide hpn
  clear hpn
  have IH := Lf.hide hIH
  have HDI := Lf.hide hd0
  have HLI := Lf.hide hLI
  have hdb : 1 ≤ dI ∧ dI ≤ 24 := by omega
  have hLb : 1 ≤ LI ∧ LI ≤ 300 := by omega
  obtain ⟨hdb1, hdb2⟩ := hdb
  obtain ⟨hLb1, hLb2⟩ := hLb
  clear hIH hd0 hLI
  obtain ⟨sz, hrn, hsz0, hszl, hdr⟩ := num_yes hn
  have hx3 : (bs l1).extract sz l1.length = bs l3 := by rw [bs_drop, hdr]
  have hl3 : l3.length + sz = l1.length := by rw [← hdr, List.length_drop]; omega
  have hmb := (pNum_sound hn).1
  have hszs := bs_size l1
  have HR := Lf.hide (heap_keep (o := .cells #[.int .i64 3, .int .i64 0, .int .i64 0, .string ⟨#[]⟩, .slice none 0 0] 34) (heap_alloc_new w (.cells #[.int .i64 0, .int .i64 0, .int .i64 0, .string ⟨#[]⟩, .slice none 0 0] 34)))
  have HN0 := Lf.hide (heap_alloc_new (w.alloc (.cells #[.int .i64 0, .int .i64 0, .int .i64 0, .string ⟨#[]⟩, .slice none 0 0] 34)) (.cells #[.int .i64 3, .int .i64 0, .int .i64 0, .string ⟨#[]⟩, .slice none 0 0] 34))
  have HG := Lf.hide (Lf.gbt (Lf.gb (w := w) (.cells #[.int .i64 0, .int .i64 0, .int .i64 0, .string ⟨#[]⟩, .slice none 0 0] 34)) (Lf.gb (.cells #[.int .i64 3, .int .i64 0, .int .i64 0, .string ⟨#[]⟩, .slice none 0 0] 34)))
  have hd' : (dI == 0) = false := by simpa using hd
  have hL' : (LI == 0) = false := by simpa using hL
  have hs := bs_ne b l1
  have h0 : ∀ h, (bs (b :: l1))[0]'h = b := fun _ => rfl
  have hsz := bs_size (b :: l1)
  have hx1 : (bs (b :: l1)).extract 1 (b :: l1).length = bs l1 := bs_drop (b :: l1) 1
  have e50' := e50
  have hl1 : l1.length ≤ maxLen := by simp at hl; omega
  unfold maxLen at hl hl1
  obtain ⟨L, hLN⟩ : ∃ L, L = (b :: l1).length := ⟨_, rfl⟩
  have hLpos : 0 < L := by rw [hLN]; simp
  have hL1 : l1.length + 1 = L := by rw [hLN]; simp
  rw [← hLN] at hsz hl hx1
  clear hLN
  generalize bs (b :: l1) = s at *
  rw [World.size_alloc] at HN0
  have HNM : Hid (∀ W, Calls Try.prog 51 #[.string (bs l1)] W fun e w' => e = .returned (.tuple #[.int .i64 (K : Int), .int .i64 (sz : Int)]) ∧ W.grownBy w' none) := by
    intro W
    have h := rnum_any l1 (by unfold maxLen; omega) W
    rw [hrn] at h
    exact h
  have hbI : (b.toNat : Int) = 3 := by omega
  have hszI : ((sz : Int) == 0) = false := by simp; omega
  have hszJ : ¬ (sz : Int) = 0 := by omega
  have hszL : (sz : Int) ≤ (l1.length : Int) := by omega
  have hsz3 := bs_size l3
  have HL3 : Hid (l3.length ≤ maxLen) := by show _ ≤ _; unfold maxLen; omega
  obtain ⟨s3, hs3⟩ : ∃ s3, s3 = bs l3 := ⟨_, rfl⟩
  have HS3 : Hid (Value.string s3 = .string (bs l3)) := by show _ = _; rw [hs3]
  rw [← hs3] at hx3 hsz3
  clear hs3 hrn hn hdr
  generalize bs l1 = s1 at *
  generalize l1.length = L1 at *
  go_enter Try.func40, Try.ntmps40
  go_wp2_with fail
  refine (HNM.out _).mono ?_; rintro e y2 ⟨rfl, hg2⟩
  have HR2 := Lf.hide ((hg2.block _ (lt_of_block HR.out) (by simp)).trans HR.out)
  have HN2 := Lf.hide ((hg2.block _ (lt_of_block HN0.out) (by simp)).trans HN0.out)
  have HG2 := Lf.hide (Lf.gbt HG.out hg2)
  obtain ⟨n0, n1, n2, n3, n4⟩ := box5 HN2.out
  obtain ⟨nf0, nf1, nf2, nf3, nf4⟩ := box5f HN2.out
  have hz2 := lt_of_block HN2.out
  clear hg2
  go_wp2_with fail
  have hI0 : DInv w y2 (w.heap.size + 1) w.heap.size (w.heap.size + 1 + 1) 3 0 (.slice none 0 0) [] [] := ⟨HG2.out, HN2.out, HR2.out, ListOk.nil _ _, hz2⟩
  have HI0 := Lf.hide hI0
  clear hI0 n0 n1 n2 n3 n4 nf0 nf1 nf2 nf3 nf4 hz2 HR2 HN2 HG2
  go_loopw [0, 14, 15] (fun sv mv iv wr => DRel w d n K l3 3 0 sv mv iv wr) (fun _ _ iv _ => K - (intOf iv).toNat)
  case atStart => exact ⟨0, 1, _, [], [], l3, rfl, rfl, HS3.out, Nat.zero_le _, Nat.le_refl _, by simp, by omega, HL3.out, HI0.out, by unfold ArgsAns; cases pSeq (fun n l => pNode d n l) (K - 0) (n + 1) l3 <;> simp [prep, *]⟩
  case round =>
    obtain ⟨j, m2, lv, ts, vs, l4, rfl, rfl, rfl, hj, hm1, htm, hnm, hl4, hI, hans⟩ := hrel
    have hlv : ∃ la lc, lv = .slice la vs.length lc := by
      obtain ⟨la, lc, _, h, _, _⟩ := hI.list.done
      exact ⟨la, lc, by rw [h, hI.list.len]⟩
    obtain ⟨la, lc, rfl⟩ := hlv
    have hvl : vs.length ≤ 1000000000000 := by have := hI.list.len; omega
    obtain ⟨b0, b1, b2, b3, b4⟩ := box5 hI.blk
    obtain ⟨r0, r1, r2, r3, r4⟩ := box5 hI.res
    obtain ⟨rf0, rf1, rf2, rf3, rf4⟩ := box5f hI.res
    have lb : w.heap.size + 1 < wr.heap.size := lt_of_block hI.blk
    by_cases hlt : j < K
    · have hltI : (j : Int) < (K : Int) := by omega
      have hih := IH.out (dI - 1) (LI - m2) (n + m2) l4 wr (by have := HDI.out; push_cast at this; omega) (by have := HLI.out; push_cast; omega) hnm hl4
      have HIH := Lf.hide hih
      have HI := Lf.hide hI
      have HANS := Lf.hide hans
      have HOB : Hid (∀ k, (Value.slice la vs.length lc).ownBlock = some k → k < wr.heap.size) := fun k hk => (World.ownsRow.lt hI.list.own k hk).2
      have hm2I : (m2 : Int) ≤ 300 := by omega
      have hL4 := Lf.hide hl4
      clear hih hI hans hl4
      generalize hs4 : bs l4 = s4 at *
      clear hs4
      go_wp2_with fail
      refine HIH.out.mono ?_; rintro e y3 ⟨hg3, hp3⟩
      have hkj : K - j = (K - j - 1) + 1 := by omega
      cases hq : pNode d (n + m2) l4 with
      | error x =>
        rw [hq] at hp3
        obtain ⟨hx, rfl⟩ := hp3
        have ha : ArgsAns d n K l3 = .error x := by rw [HANS.out, hkj, pSeq]; simp only [hq, prep]
        have HP := Lf.hide (fun w' hg => rr_no (w := w) (w' := w') (show pNode (d + 1) n (b :: l1) = .error x by rw [HPN.out, ha]; rfl) hx hg)
        have hx1 : (x == 0) = false := by simpa using hx
        have HI3 := Lf.hide ((HI.out.call hg3 (by omega)).call (Lf.gb (.cells #[.int .i64 0, .int .i64 0, .int .i64 0, .string ⟨#[]⟩, .slice none 0 0] 34)) (by omega))
        have HRX := Lf.hide HI3.out.res
        have HGX := Lf.hide HI3.out.grown
        clear ha hq hg3 HIH HI
        unfold nodeV
        go_wp2_with fail
        refine (no_any _ _).mono ?_; rintro e y1 ⟨rfl, hg⟩
        have hr1 := (hg.block _ (lt_of_block HRX.out) (by simp)).trans HRX.out
        obtain ⟨r0, r1, r2, r3, r4⟩ := box5 hr1
        obtain ⟨f0, f1, f2, f3, f4⟩ := box5f hr1
        have HR1 := Lf.hide hr1
        have HG1 := Lf.hide (Lf.gbt HGX.out hg)
        clear hg hr1
        go_wp2_with fail
        change bodyPost _ _ _ _ _ (set5 y1 w.heap.size (.int .i64 0) (.int .i64 0) (.int .i64 0) (.string ⟨#[]⟩) (.slice none 0 0))
        have hb' := set5_block HR1.out (.int .i64 0) (.int .i64 0) (.int .i64 0) (.string ⟨#[]⟩) (.slice none 0 0)
        have hg' := grow_new HG1.out (set5_grow y1 w.heap.size (.int .i64 0) (.int .i64 0) (.int .i64 0) (.string ⟨#[]⟩) (.slice none 0 0)) (Nat.le_refl _)
        generalize set5 y1 w.heap.size (.int .i64 0) (.int .i64 0) (.int .i64 0) (.string ⟨#[]⟩) (.slice none 0 0) = wf at *
        obtain ⟨z0, z1, z2, z3, z4⟩ := box5 hb'
        exact bodyPost_ret (v := .tuple #[nodeV 0 0 0 ⟨#[]⟩ none 0 0, .string ⟨#[]⟩, .int .i64 0, .int .i64 x]) (by simp [results, Try.results40, go_sem, z0, z1, z2, z3, z4, nodeV]) rfl (HP.out _ hg')
      | ok y =>
        obtain ⟨t, n', l'⟩ := y
        rw [hq] at hp3
        obtain ⟨v, rfl, hLv⟩ := hp3
        obtain ⟨a1, a2, a3, a4⟩ := pNode_sound d (by omega) (n + m2) l4 t n' l' hnm hq
        obtain ⟨kv, nv, pv, sv, av, lv', cv, rfl⟩ := hLv.nodeV
        have hl' : l'.length ≤ maxLen := by
          have h := hL4.out
          rw [a1, List.length_append] at h; omega
        have htz := size_pos t
        have ha : ArgsAns d n K l3 = prep (ts ++ [t]) (pSeq (fun n l => pNode d n l) (K - (j + 1)) (n + (n' - n)) l') := by
          rw [HANS.out, hkj, pSeq]
          simp only [hq]
          rw [show K - j - 1 = K - (j + 1) from by omega, show n + (n' - n) = n' from by omega]
          cases pSeq (fun n l => pNode d n l) (K - (j + 1)) n' l' <;> simp [prep]
        have HA := Lf.hide ha
        have HI3 := Lf.hide (HI.out.call hg3 (by omega))
        have HI4 := Lf.hide (HI3.out.call (Lf.gb (.cells #[.int .i64 kv, .int .i64 nv, .int .i64 pv, .string sv, .slice av lv' cv] 34)) (by omega))
        have HLU := Lf.hide (hLv.same (w' := y3.alloc (.cells #[.int .i64 kv, .int .i64 nv, .int .i64 pv, .string sv, .slice av lv' cv] 34)) (fun b o _ hb => World.cell?_alloc_lt _ _ _ hb))
        have HL' := Lf.hide hl'
        obtain ⟨c0, c1, c2, c3, c4⟩ := box5 HI3.out.blk
        have lc3 : w.heap.size + 1 < y3.heap.size := lt_of_block HI3.out.blk
        have lc4 : w.heap.size + 1 < y3.heap.size + 1 := by omega
        have hz3 := hg3.size
        have hn' : (n' : Int) - ((n + m2 : Nat) : Int) = (t.size : Int) := by rw [a2]; push_cast; omega
        rw [hn']
        have htI : (t.size : Int) ≤ 300 := by omega
        have ha2 : n' - n = m2 + t.size := by omega
        have HA2 := Lf.hide ha2
        have hlim : n + (m2 + t.size) ≤ 300 := by omega
        obtain ⟨s5, hs5⟩ : ∃ s5, s5 = bs l' := ⟨_, rfl⟩
        have HS5 : Hid (Value.string s5 = .string (bs l')) := by show _ = _; rw [hs5]
        rw [← hs5]
        generalize t.size = tz at *
        clear ha hq hg3 HIH HI hLv a1 a2 a3 a4 hl' hs5 hn' ha2 b0 b1 b2 b3 b4
        unfold nodeV
        go_wp2_with (at_builtin; refine appN (w.heap.size + 1 + 1) vs kv nv pv sv av lv' cv (y3.alloc (.cells #[.int .i64 kv, .int .i64 nv, .int .i64 pv, .string sv, .slice av lv' cv] 34)) (.slice la vs.length lc) rfl (.tmp 159) (.tmp 161) rfl rfl rfl (World.size_alloc _ _) HI4.out.list.own HI4.out.hz hvl ?_; intro g cap y5 ho5 hg5; have HO5 := Lf.hide ho5; have HG5 := Lf.hide hg5; clear ho5 hg5; have HI5 := Lf.hide (HI4.out.push (S := wr.heap.size) (by omega) (by omega) (by omega) (by omega) (by omega) (fun k hk => HOB.out k hk) HLU.out HG5.out HO5.out); have k5 := (HG5.out.block (lt_of_block HI4.out.blk) (own_lt_neD HI4.out.list.own (by omega))).trans HI4.out.blk; obtain ⟨d0, d1, d2, d3, d4⟩ := box5 k5; obtain ⟨e0, e1, e2, e3, e4⟩ := box5f k5; clear k5)
        go_roundw
        case rel => exact ⟨j + 1, m2 + tz, _, ts ++ [t], _, l', by go_num, by go_num, HS5.out, by omega, by omega, by simp; omega, hlim, HL'.out, HI5.out, by have h := HA.out; rw [HA2.out] at h; exact h⟩
        case measure => simp [intOf]; omega
    · have hje : j = K := by omega
      have hltI : ¬ (j : Int) < (K : Int) := by omega
      have ha : ArgsAns d n K l3 = .ok (ts, n + m2, l4) := by rw [hans, hje, Nat.sub_self, pSeq]; simp [prep]
      have HP := Lf.hide (fun w' v hg hL => rr_yes (w := w) (w' := w') (v := v) (show pNode (d + 1) n (b :: l1) = .ok (.nd 3 0 0 (bs []) ts, n + m2, l4) by rw [HPN.out, ha]; rfl) hg hL)
      rw [show (((n + m2 : Nat) : Int) - n) = m2 from by omega] at HP
      have HI := Lf.hide hI
      clear ha hans hI hje
      generalize bs l4 = s4 at *
      go_wp2_with fail
      change bodyPost _ _ _ _ _ (set5 wr w.heap.size (.int .i64 3) (.int .i64 0) (.int .i64 0) (.string ⟨#[]⟩) (.slice la vs.length lc))
      have hb' := set5_block HI.out.res (.int .i64 3) (.int .i64 0) (.int .i64 0) (.string ⟨#[]⟩) (.slice la vs.length lc)
      have hgs := set5_grow wr w.heap.size (.int .i64 3) (.int .i64 0) (.int .i64 0) (.string ⟨#[]⟩) (.slice la vs.length lc)
      have hg' := grow_new HI.out.grown hgs (Nat.le_refl _)
      generalize set5 wr w.heap.size (.int .i64 3) (.int .i64 0) (.int .i64 0) (.string ⟨#[]⟩) (.slice la vs.length lc) = wf at *
      obtain ⟨z0, z1, z2, z3, z4⟩ := box5 hb'
      refine bodyPost_ret (v := .tuple #[nodeV 3 0 0 ⟨#[]⟩ la vs.length lc, .string s4, .int .i64 m2, .int .i64 0]) (by simp [results, Try.results40, go_sem, z0, z1, z2, z3, z4, nodeV]) rfl (HP.out _ _ hg' ?_)
      obtain ⟨x1, x2, V1, hv1, hd1, hd2⟩ := HI.out.list.done
      have hsm : Same (w.heap.size + 1 + 1 ≤ ·) wr wf := fun b o hb hlt => World.cell?_of_block (hgs.block b hlt (by have : w.heap.size + 1 + 1 ≤ b := hb; simp; omega))
      have hm : ∀ b, b < wf.heap.size → w.heap.size + 1 + 1 ≤ b → w.heap.size ≤ b := fun b _ hb => by omega
      have hv2 : nodeV 3 0 0 ⟨#[]⟩ la vs.length lc = nodeV 3 0 0 (bs []) x1 ts.length x2 := by
        simp only [Value.slice.injEq] at hv1
        unfold nodeV
        rw [hv1.1, hv1.2.1, hv1.2.2]; rfl
      rw [hv2]
      exact (Lies.mk (ok := (w.heap.size + 1 + 1 ≤ ·)) V1 (by unfold maxLen; omega) (Nat.zero_le _) ⟨by omega, by omega⟩ ⟨by omega, by omega⟩ ⟨by omega, by omega⟩ (fun i hi => (hd1 i hi).same hsm) (fun i hi => (hd2 i hi).same hsm)).okMono hm

end Go.Proofs.Ytjhhcdiipbjiaaa
