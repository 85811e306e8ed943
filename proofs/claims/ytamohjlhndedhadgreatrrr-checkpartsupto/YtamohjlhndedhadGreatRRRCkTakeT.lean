import Derived.Test.YtamohjlhndedhadGreatRRRZg
namespace Go.Proofs.YtamohjlhndedhadGreatRRR
set_option maxRecDepth 100000
set_option maxHeartbeats 4000000
open Go.ChangeShapes Go.WideShapes Go.ChangeAt Go.RowKit
set_option linter.unusedVariables false
set_option linter.unusedSimpArgs false
theorem KParsePost.form {t : Tr} {W : World} {e : Ending} {w' : World} (h : KParsePost t W e w') : ∃ T tt aa ll cc er, e = .returned (.tuple #[.agg #[.int .i64 tt, .slice aa ll cc], .int .i64 er]) /\ W.grownBy w' none /\ LiesT (W.heap.size <= ·) w' T (tyV tt aa ll cc) /\ ((er = 0 /\ parseB t = true /\ T = kreadT t) \/ (er = 1 /\ parseB t = false)) := by
 rcases h.2 with ⟨h1, u, rfl, h2⟩ | ⟨h1, rfl⟩
 ·obtain ⟨a, c, V, e, _⟩ := h2.inv
  subst e
  exact ⟨_, _, _, _, _, _, rfl, h.1, h2, .inl ⟨rfl, h1, rfl⟩⟩
 ·exact ⟨.nd 0 [], 0, none, 0, 0, 1, rfl, h.1, LiesT.ofRow ⟨by decide, by decide⟩ (Nat.le_refl _) (RowT.nil _ _ _ (fun _ => .int .i64 0)), .inr ⟨rfl, h1⟩⟩
theorem take_endT {WB w0 w3 : World} {ib : Nat} {i : Ins} {t : Tr} {f : UInt8} {rv : Value} {ta da : Option Addr} {tc dc g cap : Nat} {vs rvs : List Value} {T : Ty} {tt : Int} {aa : Option Addr} {ll cc S : Nat} {er : Int} (hf : f = 116 \/ f = 117)
 (hM : InsMem WB w0 ib i.types i.rows (.slice ta vs.length tc) rv vs rvs) (hB : w0.heap[ib]? = some (.cells #[.int .i64 i.p, .int .i64 i.n, .slice ta vs.length tc, rv, .int .i64 i.data.k0, .int .i64 i.data.n0, .int .i64 i.data.p0, .string i.data.s0, .slice da i.data.args0.length dc] 59 (0, 0)))
 (hD : Lies (· + 1 < ib) WB i.data (nodeV i.data.k0 i.data.n0 i.data.p0 i.data.s0 da i.data.args0.length dc))
 (hS : WB.heap.size <= S) (h1 : ∀ k, (Value.slice ta vs.length tc).ownBlock = some k -> k < S) (h2 : ∀ k, rv.ownBlock = some k -> k < S) (hT : LiesT (S <= ·) w0 T (tyV tt aa ll cc))
 (ho : OwnsT WB.heap.size w3 (.slice (some ⟨g, 0, none⟩) (vs.length + 1) cap) (vs ++ [tyV 0 none 0 0])) (hg : Gr w0 (.slice ta vs.length tc) w3 (.slice (some ⟨g, 0, none⟩) (vs.length + 1) cap))
 (hc : (er = 0 /\ parseB t = true /\ T = kreadT t) \/ (er = 1 /\ parseB t = false)) :
 TakePost WB ib i f t (.returned (.bool (er == 0))) (((w3.setCell ⟨g, vs.length * 2, none⟩ (.int .i64 tt)).setCell ⟨g, vs.length * 2 + 1, none⟩ (.slice aa ll cc)).setCell ⟨ib, 2, none⟩ (.slice (some ⟨g, 0, none⟩) (vs.length + 1) cap)) := by
 have hg2 := gr_set (gr_set hg (vs.length * 2) (.int .i64 tt)) (vs.length * 2 + 1) (.slice aa ll cc)
 have ho2 := own_lastT (k := tt) (sa := aa) (sl := ll) (sc := cc) ho
 have hM2 := hM.pushT hS h1 h2 hT hg2 ho2
 have hlt := hM.lt
 have hB2 := (hg2.block (Array.getElem?_eq_some_iff.1 hB).1 (own_ne_type hM.ownT hB (by decide))).trans hB
 have hgw := grow_set (gRf ((w3.setCell ⟨g, vs.length * 2, none⟩ (.int .i64 tt)).setCell ⟨g, vs.length * 2 + 1, none⟩ (.slice aa ll cc)) (some ib)) 2 none (.slice (some ⟨g, 0, none⟩) (vs.length + 1) cap)
 have hM3 := hM2.step hgw
 have hB3 := set9_2 hB2 (.slice (some ⟨g, 0, none⟩) (vs.length + 1) cap)
 have hf' : ¬ f = 110 := by rcases hf with rfl | rfl <;> decide
 rcases hc with ⟨rfl, hp, rfl⟩ | ⟨rfl, hp⟩
 ·refine take_yes (j := { i with types := i.types ++ [kreadT t] }) ?_ hM3.grow ⟨_, _, _, _, da, dc, hB3, hM3, hD⟩
  unfold takeF
  rw [if_neg hf', if_pos hf, if_pos hp]
 ·refine take_no ?_ hM3.grow
  unfold takeF
  rw [if_neg hf', if_pos hf, if_neg (by simp [hp])]
theorem take_endR {WB w0 w3 : World} {ib : Nat} {i : Ins} {t : Tr} {f : UInt8} {tv : Value} {ra da na : Option Addr} {rc dc nc g cap : Nat} {vs rvs : List Value} {VN : Nat -> Value} (hf : f = 99 \/ f = 100)
 (hM : InsMem WB w0 ib i.types i.rows tv (.slice ra rvs.length rc) vs rvs) (hB : w0.heap[ib]? = some (.cells #[.int .i64 i.p, .int .i64 i.n, tv, .slice ra rvs.length rc, .int .i64 i.data.k0, .int .i64 i.data.n0, .int .i64 i.data.p0, .string i.data.s0, .slice da i.data.args0.length dc] 59 (0, 0)))
 (hD : Lies (· + 1 < ib) WB i.data (nodeV i.data.k0 i.data.n0 i.data.p0 i.data.s0 da i.data.args0.length dc))
 (hN : RowN (· + 1 < ib) WB t.args0 na VN)
 (ho : OwnsR WB.heap.size w3 (.slice (some ⟨g, 0, none⟩) (rvs.length + 1) cap) (rvs ++ [.slice na t.args0.length nc])) (hg : Gr w0 (.slice ra rvs.length rc) w3 (.slice (some ⟨g, 0, none⟩) (rvs.length + 1) cap)) :
 TakePost WB ib i f t (.returned (.bool (t.k0 == 3))) (w3.setCell ⟨ib, 3, none⟩ (.slice (some ⟨g, 0, none⟩) (rvs.length + 1) cap)) := by
 have hM2 := hM.pushR hN hg ho
 have hB2 := (hg.block (Array.getElem?_eq_some_iff.1 hB).1 (own_ne_type hM.ownR hB (by decide))).trans hB
 have hgw := grow_set (gRf w3 (some ib)) 3 none (.slice (some ⟨g, 0, none⟩) (rvs.length + 1) cap)
 have hM3 := hM2.step hgw
 have hB3 := set9_3 hB2 (.slice (some ⟨g, 0, none⟩) (rvs.length + 1) cap)
 have hf1 : ¬ f = 110 := by rcases hf with rfl | rfl <;> decide
 have hf2 : ¬ (f = 116 \/ f = 117) := by rcases hf with rfl | rfl <;> decide
 by_cases hk : t.k0 = 3
 ·rw [show (t.k0 == 3) = true by simpa using hk]
  refine take_yes (j := { i with rows := i.rows ++ [t.args0] }) ?_ hM3.grow ⟨_, _, _, _, da, dc, hB3, hM3, hD⟩
  unfold takeF
  rw [if_neg hf1, if_neg hf2, if_pos hf, if_pos hk]
 ·rw [show (t.k0 == 3) = false by simpa using hk]
  refine take_no ?_ hM3.grow
  unfold takeF
  rw [if_neg hf1, if_neg hf2, if_pos hf, if_neg hk]
theorem step_appR {ops : Array Oper} {o : Oper} {a : Act} {K : Act -> World -> Prop} {Q : Exit -> Act -> World -> Prop} {E : Prop} (B : Nat) (vs : List Value) (sa : Option Addr) (sl sc : Nat) (w0 : World) (v : Value) (hgd : o.guard = none) (s x : Operand)
 (ho : o.op = .call { callee := .builtin .append, args := #[s, x], argTypes := #[57, 57] }) (hs : a.eval s = v) {H : Nat} (hx : a.eval x = .slice (some ⟨H, 0, none⟩) 1 1) (hH : w0.heap.size = H)
 (hown : OwnsR B w0 v vs) (hB : B <= w0.heap.size) (hlen : vs.length <= 1000000000)
 (h : ∀ g cap w', OwnsR B w' (.slice (some ⟨g, 0, none⟩) (vs.length + 1) cap) (vs ++ [.slice sa sl sc]) -> Gr w0 v w' (.slice (some ⟨g, 0, none⟩) (vs.length + 1) cap) -> K (a.put o.dst (.slice (some ⟨g, 0, none⟩) (vs.length + 1) cap)) w') :
 if Region.wanted o (yielded ops a.tmps) = true then Oper.wp Tryz.prog o a (w0.alloc (.cells #[.slice sa sl sc] 22)) K Q else E := by
 have hw : Region.wanted o (yielded ops a.tmps) = true := by simp [Region.wanted, hgd]
 rw [if_pos hw]
 obtain ⟨i0, hi, hz0, hz1, hz2⟩ := info_parts info_ns
 subst hH
 refine wp_append_lies _ s x 57 ho B 22 i0 _ 1 24 Tryz.underlying57 hi hz0 hz1 hz2 rfl (by decide) v vs.length vs hs (World.ownsRow.alloc hown _) ⟨w0.heap.size, 0, none⟩ 1 1 [.slice sa sl sc] hx rfl ?_ ?_ (by decide) ?_ ?_ ?_ _ rfl ?_
 ·exact World.news_of_block (w := w0.alloc _) (B := w0.heap.size) (cs := #[.slice sa sl sc]) (heap_alloc_new _ _)
 ·intro u hu; simp at hu; subst hu; rfl
 ·unfold maxLen; omega
 ·omega
 ·simp; omega
 ·intro g cap w' h1 h2 h3 _
  refine h g cap w' ?_ ?_
  ·unfold OwnsR; rw [List.length_append]; exact h1
  ·refine Gr.trans (Gr.alloc (Gr.refl w0 v) _) ⟨h2, ?_⟩
   rcases h3 with h3 | h3
   ·exact .inl h3.symm
   ·exact .inr ⟨g, rfl, by omega⟩
theorem take_t {WB W : World} {ib : Nat} {i : Ins} {t : Tr} {nv : Value} {f : UInt8} {c : Int} (hf : f = 116 /\ c = 116 \/ f = 117 /\ c = 117) (hI : InsIs WB W ib i) (hL : Lies (· + 1 < ib) WB t nv) (htl : i.types.length <= 1000) (hrl : i.rows.length <= 1000) :
 Calls Tryz.prog 51 #[.pointer (some ⟨ib, 0, none⟩), .int .u8 c, nv] W (TakePost WB ib i f t) := by
 obtain ⟨tv, rv, vs, rvs, da, dc, hb, hM, hD⟩ := hI
 obtain ⟨na, nc, VN, e1, ⟨ik, iN, ip, hss⟩, hRN⟩ := hL.invN
 rw [e1]
 unfold nodeV
 have hgN := Lf.gb (w := W) (.cells #[.int .i64 t.k0, .int .i64 t.n0, .int .i64 t.p0, .string t.s0, .slice na t.args0.length nc] 24)
 have hbN := heap_alloc_new W (.cells #[.int .i64 t.k0, .int .i64 t.n0, .int .i64 t.p0, .string t.s0, .slice na t.args0.length nc] 24)
 have hb2 := kBq hb hgN
 have hM2 := hM.call hgN
 obtain ⟨m0, m1, m2, m3, m4⟩ := box5 hbN
 have hsame : Same (· + 1 < ib) WB (W.alloc (.cells #[.int .i64 t.k0, .int .i64 t.n0, .int .i64 t.p0, .string t.s0, .slice na t.args0.length nc] 24)) := fun b o hb hl => World.cell?_of_block (hM2.grow.block b hl (by have : b + 1 < ib := hb; simp; omega))
 have HP := jh (kparse_any ((hL.same hsame).okMono (ok' := (· < (W.alloc (.cells #[.int .i64 t.k0, .int .i64 t.n0, .int .i64 t.p0, .string t.s0, .slice na t.args0.length nc] 24)).heap.size)) (fun b hb _ => hb)))
 rw [e1] at HP
 unfold nodeV at HP
 obtain ⟨ta, tc, rfl, _⟩ := owns_form hM2.ownT
 have hvl : vs.length <= 1000 := by have := hM2.lenT; omega
 have HD := jh hD
 have HM2 := jh hM2
 have HB2 := jh hb2
 clear hgN hbN hM2 hb2 hM hD hb hL hRN e1 hsame
 have b1 : (vs.length : Int) < (vs.length : Int) + 1 := by omega
 have b2 : (0 : Int) <= (vs.length : Int) := by omega
 have b3 : vs.length < vs.length + 1 := by omega
 rcases hf with ⟨rfl, rfl⟩ | ⟨rfl, rfl⟩
 all_goals
  go_enter Tryz.func51, Tryz.ntmps51
  go_wp2_with fail
  generalize W.alloc _ = W2 at *
  refine HP.out.mono ?_; rintro e w1 hp1
  obtain ⟨T, tt, aa, ll, cc, er, rfl, hg, hT1, hcase⟩ := hp1.form
  have hgt := Lf.gb (w := w1) (.cells #[.int .i64 tt, .slice aa ll cc] 44)
  have hbt := heap_alloc_new w1 (.cells #[.int .i64 tt, .slice aa ll cc] 44)
  have hgd : (w1.alloc (.cells #[.int .i64 tt, .slice aa ll cc] 44)).grownBy (w1.alloc (.cells #[.int .i64 tt, .slice aa ll cc] 44)).drew none := gDr (gRf _ _)
  have hga := Lf.gbt hg (Lf.gbt hgt hgd)
  have HB0 := jh (kBq HB2.out hga)
  have HM0 := jh (HM2.out.call hga)
  have hsm : Same (W2.heap.size <= ·) w1 (w1.alloc (.cells #[.int .i64 tt, .slice aa ll cc] 44)).drew := fun b o _ hl => World.cell?_of_block ((Lf.gbt hgt hgd).block b hl (by simp))
  have HT0 := jh (hT1.same hsm)
  have HSZ : Hid (WB.heap.size <= W2.heap.size) := HM2.out.grow.size
  have HO1 : Hid (∀ k, (Value.slice ta vs.length tc).ownBlock = some k -> k < W2.heap.size) := fun k hk => (World.ownsRow.lt HM2.out.ownT k hk).2
  have HO2 : Hid (∀ k, rv.ownBlock = some k -> k < W2.heap.size) := fun k hk => (World.ownsRow.lt HM2.out.ownR k hk).2
  have hbd := kBq hbt hgd
  have x0 := cell0_of hbd
  have x1 := cell1_of hbd
  obtain ⟨c0, c1, c2, c3, _⟩ := box9 HB0.out
  have hTr : True := trivial
  have HCASE := jh hcase
  have HT1 := jh hT1
  clear hg hgt hgd hbt hga hT1 m0 m1 m2 m3 m4 HP hp1 hbd hcase
  go_wp2_with fail
  refine wp_region_held_drew (S := fun _ => True) (by kernel_rfl) ?_ (fun hHeld => ?_)
  ·trivial
  generalize (w1.alloc _).drew = w0 at *
  have c2a := kNq (Lf.gb (w := w0) (.cells #[.int .i64 0, .slice none 0 0] 44)) c2
  have x0a := kNq (Lf.gb (w := w0) (.cells #[.int .i64 0, .slice none 0 0] 44)) x0
  have x1a := kNq (Lf.gb (w := w0) (.cells #[.int .i64 0, .slice none 0 0] 44)) x1
  refine rGq 0 38 ?_
  simp only [Act.put, pS]
  refine rGq 1 39 ?_
  simp only [Act.put, pS]
  refine rGq 2 40 ?_
  simp only [Act.put, pS]
  refine wpAnyH_ready (rs := [3, 4, 6]) (by kernel_rfl) (by simp) ?_
  refine AllReadyH.cons rfl (fun K hK => ?_) (AllReadyH.cons rfl (fun K hK => ?_) (AllReadyH.cons rfl (fun K hK => ?_) AllReadyH.nil))
  ·go_simp
   refine hK.out _ _ trivial (fun _ => ?_)
   clear hK K
   refine rGq 5 43 ?_
   simp only [Act.put, pS]
   refine wpAnyH_ready (rs := [4, 6]) (by kernel_rfl) (by simp) ?_
   refine AllReadyH.cons rfl (fun K hK => ?_) (AllReadyH.cons rfl (fun K hK => ?_) AllReadyH.nil)
   ·go_simp
    refine hK.out _ _ trivial (fun _ => ?_)
    clear hK K
    refine wpAnyH_ready (rs := [6]) (by kernel_rfl) (by simp) ?_
    refine AllReadyH.cons rfl (fun K hK => ?_) AllReadyH.nil
    ·go_simp
     refine hK.out _ _ trivial (fun _ => ?_)
     clear hK K
     refine wpAnyH_ready (rs := [7]) (by kernel_rfl) (by simp) ?_
     refine AllReadyH.cons rfl (fun K hK => ?_) AllReadyH.nil
     refine step_appT WB.heap.size vs 0 none 0 0 w0 (.slice ta vs.length tc) rfl (.tmp 41) (.tmp 44) rfl rfl rfl rfl HM0.out.ownT HM0.out.grow.size (by omega) ?_
     intro g cap w3 ho3 hg3
     have HO3 := jh ho3
     have HG3 := jh hg3
     obtain ⟨g0, g1, g2, g3⟩ := own_atT ho3
     have hneg : g ≠ ib := by have := HM0.out.lt; omega
     have hb3 := (hg3.block (Array.getElem?_eq_some_iff.1 HB0.out).1 (own_ne_type HM0.out.ownT HB0.out (by decide))).trans HB0.out
     have d2 := (box9 hb3).2.2.1
     have dfr := free9 hb3
     clear ho3 hg3 hb3
     refine hK.out _ _ trivial (fun _ => ?_)
     clear hK K
     refine rGq 8 46 ?_
     simp only [Act.put, pS]
     refine rGq 10 47 ?_
     simp only [Act.put, pS]
     refine rGq 11 48 ?_
     simp only [Act.put, pS]
     refine wpAnyH_ready (rs := [9, 12]) (by kernel_rfl) (by simp) ?_
     refine AllReadyH.cons rfl (fun K hK => ?_) (AllReadyH.cons rfl (fun K hK => ?_) AllReadyH.nil)
     ·go_simp
      refine hK.out _ _ trivial (fun _ => ?_)
      clear hK K
      refine wpAnyH_ready (rs := [12]) (by kernel_rfl) (by simp) ?_
      refine AllReadyH.cons rfl (fun K hK => ?_) AllReadyH.nil
      go_simp
      refine hK.out _ _ trivial (fun _ => ?_)
      clear hK K
      refine wpAnyH_done (by kernel_rfl) ?_ _
      go_wp2_with fail
      go_ret
      first | exact take_endT (.inl rfl) HM0.out HB0.out HD.out HSZ.out HO1.out HO2.out HT0.out HO3.out HG3.out HCASE.out | exact take_endT (.inr rfl) HM0.out HB0.out HD.out HSZ.out HO1.out HO2.out HT0.out HO3.out HG3.out HCASE.out
     ·go_simp
      refine hK.out _ _ trivial (fun _ => ?_)
      clear hK K
      refine wpAnyH_ready (rs := [9]) (by kernel_rfl) (by simp) ?_
      refine AllReadyH.cons rfl (fun K hK => ?_) AllReadyH.nil
      go_simp
      refine hK.out _ _ trivial (fun _ => ?_)
      clear hK K
      refine wpAnyH_done (by kernel_rfl) ?_ _
      go_wp2_with fail
      go_ret
      first
      | (have h := take_endT (.inl rfl) HM0.out HB0.out HD.out HSZ.out HO1.out HO2.out HT0.out HO3.out HG3.out HCASE.out; rw [setCell_comm _ _ hneg, setCell_comm _ _ hneg] at h; exact h)
      | (have h := take_endT (.inr rfl) HM0.out HB0.out HD.out HSZ.out HO1.out HO2.out HT0.out HO3.out HG3.out HCASE.out; rw [setCell_comm _ _ hneg, setCell_comm _ _ hneg] at h; exact h)
   ·go_simp
    refine hK.out _ _ trivial (fun _ => ?_)
    clear hK K
    refine wpAnyH_ready (rs := [4]) (by kernel_rfl) (by simp) ?_
    refine AllReadyH.cons rfl (fun K hK => ?_) AllReadyH.nil
    ·go_simp
     refine hK.out _ _ trivial (fun _ => ?_)
     clear hK K
     refine wpAnyH_ready (rs := [7]) (by kernel_rfl) (by simp) ?_
     refine AllReadyH.cons rfl (fun K hK => ?_) AllReadyH.nil
     refine step_appT WB.heap.size vs 0 none 0 0 w0 (.slice ta vs.length tc) rfl (.tmp 41) (.tmp 44) rfl rfl rfl rfl HM0.out.ownT HM0.out.grow.size (by omega) ?_
     intro g cap w3 ho3 hg3
     have HO3 := jh ho3
     have HG3 := jh hg3
     obtain ⟨g0, g1, g2, g3⟩ := own_atT ho3
     have hneg : g ≠ ib := by have := HM0.out.lt; omega
     have hb3 := (hg3.block (Array.getElem?_eq_some_iff.1 HB0.out).1 (own_ne_type HM0.out.ownT HB0.out (by decide))).trans HB0.out
     have d2 := (box9 hb3).2.2.1
     have dfr := free9 hb3
     clear ho3 hg3 hb3
     refine hK.out _ _ trivial (fun _ => ?_)
     clear hK K
     refine rGq 8 46 ?_
     simp only [Act.put, pS]
     refine rGq 10 47 ?_
     simp only [Act.put, pS]
     refine rGq 11 48 ?_
     simp only [Act.put, pS]
     refine wpAnyH_ready (rs := [9, 12]) (by kernel_rfl) (by simp) ?_
     refine AllReadyH.cons rfl (fun K hK => ?_) (AllReadyH.cons rfl (fun K hK => ?_) AllReadyH.nil)
     ·go_simp
      refine hK.out _ _ trivial (fun _ => ?_)
      clear hK K
      refine wpAnyH_ready (rs := [12]) (by kernel_rfl) (by simp) ?_
      refine AllReadyH.cons rfl (fun K hK => ?_) AllReadyH.nil
      go_simp
      refine hK.out _ _ trivial (fun _ => ?_)
      clear hK K
      refine wpAnyH_done (by kernel_rfl) ?_ _
      go_wp2_with fail
      go_ret
      first | exact take_endT (.inl rfl) HM0.out HB0.out HD.out HSZ.out HO1.out HO2.out HT0.out HO3.out HG3.out HCASE.out | exact take_endT (.inr rfl) HM0.out HB0.out HD.out HSZ.out HO1.out HO2.out HT0.out HO3.out HG3.out HCASE.out
     ·go_simp
      refine hK.out _ _ trivial (fun _ => ?_)
      clear hK K
      refine wpAnyH_ready (rs := [9]) (by kernel_rfl) (by simp) ?_
      refine AllReadyH.cons rfl (fun K hK => ?_) AllReadyH.nil
      go_simp
      refine hK.out _ _ trivial (fun _ => ?_)
      clear hK K
      refine wpAnyH_done (by kernel_rfl) ?_ _
      go_wp2_with fail
      go_ret
      first
      | (have h := take_endT (.inl rfl) HM0.out HB0.out HD.out HSZ.out HO1.out HO2.out HT0.out HO3.out HG3.out HCASE.out; rw [setCell_comm _ _ hneg, setCell_comm _ _ hneg] at h; exact h)
      | (have h := take_endT (.inr rfl) HM0.out HB0.out HD.out HSZ.out HO1.out HO2.out HT0.out HO3.out HG3.out HCASE.out; rw [setCell_comm _ _ hneg, setCell_comm _ _ hneg] at h; exact h)
  ·go_simp
   refine hK.out _ _ trivial (fun _ => ?_)
   clear hK K
   refine wpAnyH_ready (rs := [3, 6]) (by kernel_rfl) (by simp) ?_
   refine AllReadyH.cons rfl (fun K hK => ?_) (AllReadyH.cons rfl (fun K hK => ?_) AllReadyH.nil)
   ·go_simp
    refine hK.out _ _ trivial (fun _ => ?_)
    clear hK K
    refine rGq 5 43 ?_
    simp only [Act.put, pS]
    refine wpAnyH_ready (rs := [6]) (by kernel_rfl) (by simp) ?_
    refine AllReadyH.cons rfl (fun K hK => ?_) AllReadyH.nil
    ·go_simp
     refine hK.out _ _ trivial (fun _ => ?_)
     clear hK K
     refine wpAnyH_ready (rs := [7]) (by kernel_rfl) (by simp) ?_
     refine AllReadyH.cons rfl (fun K hK => ?_) AllReadyH.nil
     refine step_appT WB.heap.size vs 0 none 0 0 w0 (.slice ta vs.length tc) rfl (.tmp 41) (.tmp 44) rfl rfl rfl rfl HM0.out.ownT HM0.out.grow.size (by omega) ?_
     intro g cap w3 ho3 hg3
     have HO3 := jh ho3
     have HG3 := jh hg3
     obtain ⟨g0, g1, g2, g3⟩ := own_atT ho3
     have hneg : g ≠ ib := by have := HM0.out.lt; omega
     have hb3 := (hg3.block (Array.getElem?_eq_some_iff.1 HB0.out).1 (own_ne_type HM0.out.ownT HB0.out (by decide))).trans HB0.out
     have d2 := (box9 hb3).2.2.1
     have dfr := free9 hb3
     clear ho3 hg3 hb3
     refine hK.out _ _ trivial (fun _ => ?_)
     clear hK K
     refine rGq 8 46 ?_
     simp only [Act.put, pS]
     refine rGq 10 47 ?_
     simp only [Act.put, pS]
     refine rGq 11 48 ?_
     simp only [Act.put, pS]
     refine wpAnyH_ready (rs := [9, 12]) (by kernel_rfl) (by simp) ?_
     refine AllReadyH.cons rfl (fun K hK => ?_) (AllReadyH.cons rfl (fun K hK => ?_) AllReadyH.nil)
     ·go_simp
      refine hK.out _ _ trivial (fun _ => ?_)
      clear hK K
      refine wpAnyH_ready (rs := [12]) (by kernel_rfl) (by simp) ?_
      refine AllReadyH.cons rfl (fun K hK => ?_) AllReadyH.nil
      go_simp
      refine hK.out _ _ trivial (fun _ => ?_)
      clear hK K
      refine wpAnyH_done (by kernel_rfl) ?_ _
      go_wp2_with fail
      go_ret
      first | exact take_endT (.inl rfl) HM0.out HB0.out HD.out HSZ.out HO1.out HO2.out HT0.out HO3.out HG3.out HCASE.out | exact take_endT (.inr rfl) HM0.out HB0.out HD.out HSZ.out HO1.out HO2.out HT0.out HO3.out HG3.out HCASE.out
     ·go_simp
      refine hK.out _ _ trivial (fun _ => ?_)
      clear hK K
      refine wpAnyH_ready (rs := [9]) (by kernel_rfl) (by simp) ?_
      refine AllReadyH.cons rfl (fun K hK => ?_) AllReadyH.nil
      go_simp
      refine hK.out _ _ trivial (fun _ => ?_)
      clear hK K
      refine wpAnyH_done (by kernel_rfl) ?_ _
      go_wp2_with fail
      go_ret
      first
      | (have h := take_endT (.inl rfl) HM0.out HB0.out HD.out HSZ.out HO1.out HO2.out HT0.out HO3.out HG3.out HCASE.out; rw [setCell_comm _ _ hneg, setCell_comm _ _ hneg] at h; exact h)
      | (have h := take_endT (.inr rfl) HM0.out HB0.out HD.out HSZ.out HO1.out HO2.out HT0.out HO3.out HG3.out HCASE.out; rw [setCell_comm _ _ hneg, setCell_comm _ _ hneg] at h; exact h)
   ·go_simp
    refine hK.out _ _ trivial (fun _ => ?_)
    clear hK K
    refine wpAnyH_ready (rs := [3]) (by kernel_rfl) (by simp) ?_
    refine AllReadyH.cons rfl (fun K hK => ?_) AllReadyH.nil
    ·go_simp
     refine hK.out _ _ trivial (fun _ => ?_)
     clear hK K
     refine rGq 5 43 ?_
     simp only [Act.put, pS]
     refine wpAnyH_ready (rs := [7]) (by kernel_rfl) (by simp) ?_
     refine AllReadyH.cons rfl (fun K hK => ?_) AllReadyH.nil
     refine step_appT WB.heap.size vs 0 none 0 0 w0 (.slice ta vs.length tc) rfl (.tmp 41) (.tmp 44) rfl rfl rfl rfl HM0.out.ownT HM0.out.grow.size (by omega) ?_
     intro g cap w3 ho3 hg3
     have HO3 := jh ho3
     have HG3 := jh hg3
     obtain ⟨g0, g1, g2, g3⟩ := own_atT ho3
     have hneg : g ≠ ib := by have := HM0.out.lt; omega
     have hb3 := (hg3.block (Array.getElem?_eq_some_iff.1 HB0.out).1 (own_ne_type HM0.out.ownT HB0.out (by decide))).trans HB0.out
     have d2 := (box9 hb3).2.2.1
     have dfr := free9 hb3
     clear ho3 hg3 hb3
     refine hK.out _ _ trivial (fun _ => ?_)
     clear hK K
     refine rGq 8 46 ?_
     simp only [Act.put, pS]
     refine rGq 10 47 ?_
     simp only [Act.put, pS]
     refine rGq 11 48 ?_
     simp only [Act.put, pS]
     refine wpAnyH_ready (rs := [9, 12]) (by kernel_rfl) (by simp) ?_
     refine AllReadyH.cons rfl (fun K hK => ?_) (AllReadyH.cons rfl (fun K hK => ?_) AllReadyH.nil)
     ·go_simp
      refine hK.out _ _ trivial (fun _ => ?_)
      clear hK K
      refine wpAnyH_ready (rs := [12]) (by kernel_rfl) (by simp) ?_
      refine AllReadyH.cons rfl (fun K hK => ?_) AllReadyH.nil
      go_simp
      refine hK.out _ _ trivial (fun _ => ?_)
      clear hK K
      refine wpAnyH_done (by kernel_rfl) ?_ _
      go_wp2_with fail
      go_ret
      first | exact take_endT (.inl rfl) HM0.out HB0.out HD.out HSZ.out HO1.out HO2.out HT0.out HO3.out HG3.out HCASE.out | exact take_endT (.inr rfl) HM0.out HB0.out HD.out HSZ.out HO1.out HO2.out HT0.out HO3.out HG3.out HCASE.out
     ·go_simp
      refine hK.out _ _ trivial (fun _ => ?_)
      clear hK K
      refine wpAnyH_ready (rs := [9]) (by kernel_rfl) (by simp) ?_
      refine AllReadyH.cons rfl (fun K hK => ?_) AllReadyH.nil
      go_simp
      refine hK.out _ _ trivial (fun _ => ?_)
      clear hK K
      refine wpAnyH_done (by kernel_rfl) ?_ _
      go_wp2_with fail
      go_ret
      first
      | (have h := take_endT (.inl rfl) HM0.out HB0.out HD.out HSZ.out HO1.out HO2.out HT0.out HO3.out HG3.out HCASE.out; rw [setCell_comm _ _ hneg, setCell_comm _ _ hneg] at h; exact h)
      | (have h := take_endT (.inr rfl) HM0.out HB0.out HD.out HSZ.out HO1.out HO2.out HT0.out HO3.out HG3.out HCASE.out; rw [setCell_comm _ _ hneg, setCell_comm _ _ hneg] at h; exact h)
  ·go_simp
   refine hK.out _ _ trivial (fun _ => ?_)
   clear hK K
   refine wpAnyH_ready (rs := [3, 4]) (by kernel_rfl) (by simp) ?_
   refine AllReadyH.cons rfl (fun K hK => ?_) (AllReadyH.cons rfl (fun K hK => ?_) AllReadyH.nil)
   ·go_simp
    refine hK.out _ _ trivial (fun _ => ?_)
    clear hK K
    refine rGq 5 43 ?_
    simp only [Act.put, pS]
    refine wpAnyH_ready (rs := [4]) (by kernel_rfl) (by simp) ?_
    refine AllReadyH.cons rfl (fun K hK => ?_) AllReadyH.nil
    ·go_simp
     refine hK.out _ _ trivial (fun _ => ?_)
     clear hK K
     refine wpAnyH_ready (rs := [7]) (by kernel_rfl) (by simp) ?_
     refine AllReadyH.cons rfl (fun K hK => ?_) AllReadyH.nil
     refine step_appT WB.heap.size vs 0 none 0 0 w0 (.slice ta vs.length tc) rfl (.tmp 41) (.tmp 44) rfl rfl rfl rfl HM0.out.ownT HM0.out.grow.size (by omega) ?_
     intro g cap w3 ho3 hg3
     have HO3 := jh ho3
     have HG3 := jh hg3
     obtain ⟨g0, g1, g2, g3⟩ := own_atT ho3
     have hneg : g ≠ ib := by have := HM0.out.lt; omega
     have hb3 := (hg3.block (Array.getElem?_eq_some_iff.1 HB0.out).1 (own_ne_type HM0.out.ownT HB0.out (by decide))).trans HB0.out
     have d2 := (box9 hb3).2.2.1
     have dfr := free9 hb3
     clear ho3 hg3 hb3
     refine hK.out _ _ trivial (fun _ => ?_)
     clear hK K
     refine rGq 8 46 ?_
     simp only [Act.put, pS]
     refine rGq 10 47 ?_
     simp only [Act.put, pS]
     refine rGq 11 48 ?_
     simp only [Act.put, pS]
     refine wpAnyH_ready (rs := [9, 12]) (by kernel_rfl) (by simp) ?_
     refine AllReadyH.cons rfl (fun K hK => ?_) (AllReadyH.cons rfl (fun K hK => ?_) AllReadyH.nil)
     ·go_simp
      refine hK.out _ _ trivial (fun _ => ?_)
      clear hK K
      refine wpAnyH_ready (rs := [12]) (by kernel_rfl) (by simp) ?_
      refine AllReadyH.cons rfl (fun K hK => ?_) AllReadyH.nil
      go_simp
      refine hK.out _ _ trivial (fun _ => ?_)
      clear hK K
      refine wpAnyH_done (by kernel_rfl) ?_ _
      go_wp2_with fail
      go_ret
      first | exact take_endT (.inl rfl) HM0.out HB0.out HD.out HSZ.out HO1.out HO2.out HT0.out HO3.out HG3.out HCASE.out | exact take_endT (.inr rfl) HM0.out HB0.out HD.out HSZ.out HO1.out HO2.out HT0.out HO3.out HG3.out HCASE.out
     ·go_simp
      refine hK.out _ _ trivial (fun _ => ?_)
      clear hK K
      refine wpAnyH_ready (rs := [9]) (by kernel_rfl) (by simp) ?_
      refine AllReadyH.cons rfl (fun K hK => ?_) AllReadyH.nil
      go_simp
      refine hK.out _ _ trivial (fun _ => ?_)
      clear hK K
      refine wpAnyH_done (by kernel_rfl) ?_ _
      go_wp2_with fail
      go_ret
      first
      | (have h := take_endT (.inl rfl) HM0.out HB0.out HD.out HSZ.out HO1.out HO2.out HT0.out HO3.out HG3.out HCASE.out; rw [setCell_comm _ _ hneg, setCell_comm _ _ hneg] at h; exact h)
      | (have h := take_endT (.inr rfl) HM0.out HB0.out HD.out HSZ.out HO1.out HO2.out HT0.out HO3.out HG3.out HCASE.out; rw [setCell_comm _ _ hneg, setCell_comm _ _ hneg] at h; exact h)
   ·go_simp
    refine hK.out _ _ trivial (fun _ => ?_)
    clear hK K
    refine wpAnyH_ready (rs := [3]) (by kernel_rfl) (by simp) ?_
    refine AllReadyH.cons rfl (fun K hK => ?_) AllReadyH.nil
    ·go_simp
     refine hK.out _ _ trivial (fun _ => ?_)
     clear hK K
     refine rGq 5 43 ?_
     simp only [Act.put, pS]
     refine wpAnyH_ready (rs := [7]) (by kernel_rfl) (by simp) ?_
     refine AllReadyH.cons rfl (fun K hK => ?_) AllReadyH.nil
     refine step_appT WB.heap.size vs 0 none 0 0 w0 (.slice ta vs.length tc) rfl (.tmp 41) (.tmp 44) rfl rfl rfl rfl HM0.out.ownT HM0.out.grow.size (by omega) ?_
     intro g cap w3 ho3 hg3
     have HO3 := jh ho3
     have HG3 := jh hg3
     obtain ⟨g0, g1, g2, g3⟩ := own_atT ho3
     have hneg : g ≠ ib := by have := HM0.out.lt; omega
     have hb3 := (hg3.block (Array.getElem?_eq_some_iff.1 HB0.out).1 (own_ne_type HM0.out.ownT HB0.out (by decide))).trans HB0.out
     have d2 := (box9 hb3).2.2.1
     have dfr := free9 hb3
     clear ho3 hg3 hb3
     refine hK.out _ _ trivial (fun _ => ?_)
     clear hK K
     refine rGq 8 46 ?_
     simp only [Act.put, pS]
     refine rGq 10 47 ?_
     simp only [Act.put, pS]
     refine rGq 11 48 ?_
     simp only [Act.put, pS]
     refine wpAnyH_ready (rs := [9, 12]) (by kernel_rfl) (by simp) ?_
     refine AllReadyH.cons rfl (fun K hK => ?_) (AllReadyH.cons rfl (fun K hK => ?_) AllReadyH.nil)
     ·go_simp
      refine hK.out _ _ trivial (fun _ => ?_)
      clear hK K
      refine wpAnyH_ready (rs := [12]) (by kernel_rfl) (by simp) ?_
      refine AllReadyH.cons rfl (fun K hK => ?_) AllReadyH.nil
      go_simp
      refine hK.out _ _ trivial (fun _ => ?_)
      clear hK K
      refine wpAnyH_done (by kernel_rfl) ?_ _
      go_wp2_with fail
      go_ret
      first | exact take_endT (.inl rfl) HM0.out HB0.out HD.out HSZ.out HO1.out HO2.out HT0.out HO3.out HG3.out HCASE.out | exact take_endT (.inr rfl) HM0.out HB0.out HD.out HSZ.out HO1.out HO2.out HT0.out HO3.out HG3.out HCASE.out
     ·go_simp
      refine hK.out _ _ trivial (fun _ => ?_)
      clear hK K
      refine wpAnyH_ready (rs := [9]) (by kernel_rfl) (by simp) ?_
      refine AllReadyH.cons rfl (fun K hK => ?_) AllReadyH.nil
      go_simp
      refine hK.out _ _ trivial (fun _ => ?_)
      clear hK K
      refine wpAnyH_done (by kernel_rfl) ?_ _
      go_wp2_with fail
      go_ret
      first
      | (have h := take_endT (.inl rfl) HM0.out HB0.out HD.out HSZ.out HO1.out HO2.out HT0.out HO3.out HG3.out HCASE.out; rw [setCell_comm _ _ hneg, setCell_comm _ _ hneg] at h; exact h)
      | (have h := take_endT (.inr rfl) HM0.out HB0.out HD.out HSZ.out HO1.out HO2.out HT0.out HO3.out HG3.out HCASE.out; rw [setCell_comm _ _ hneg, setCell_comm _ _ hneg] at h; exact h)
theorem take_c {WB W : World} {ib : Nat} {i : Ins} {t : Tr} {nv : Value} {f : UInt8} {c : Int} (hf : f = 99 /\ c = 99 \/ f = 100 /\ c = 100) (hI : InsIs WB W ib i) (hL : Lies (· + 1 < ib) WB t nv) (htl : i.types.length <= 1000) (hrl : i.rows.length <= 1000) :
 Calls Tryz.prog 51 #[.pointer (some ⟨ib, 0, none⟩), .int .u8 c, nv] W (TakePost WB ib i f t) := by
 obtain ⟨tv, rv, vs, rvs, da, dc, hb, hM, hD⟩ := hI
 obtain ⟨na, nc, VN, e1, ⟨ik, iN, ip, hss⟩, hRN⟩ := hL.invN
 rw [e1]
 unfold nodeV
 have hgN := Lf.gb (w := W) (.cells #[.int .i64 t.k0, .int .i64 t.n0, .int .i64 t.p0, .string t.s0, .slice na t.args0.length nc] 24)
 have hbN := heap_alloc_new W (.cells #[.int .i64 t.k0, .int .i64 t.n0, .int .i64 t.p0, .string t.s0, .slice na t.args0.length nc] 24)
 have hb2 := kBq hb hgN
 have hM2 := hM.call hgN
 obtain ⟨m0, m1, m2, m3, m4⟩ := box5 hbN
 have hgd : (W.alloc (.cells #[.int .i64 t.k0, .int .i64 t.n0, .int .i64 t.p0, .string t.s0, .slice na t.args0.length nc] 24)).grownBy (W.alloc (.cells #[.int .i64 t.k0, .int .i64 t.n0, .int .i64 t.p0, .string t.s0, .slice na t.args0.length nc] 24)).drew none := gDr (gRf _ _)
 have hbn := kBq hbN hgd
 obtain ⟨y0, y1, y2, y3, y4⟩ := box5 hbn
 have HBN := jh hbn
 obtain ⟨ra, rc, rfl, _⟩ := owns_form hM2.ownR
 have hvl : rvs.length <= 1000 := by have := hM2.lenR; omega
 have HD := jh hD
 have HM0 := jh (hM2.call hgd)
 have HB0 := jh (kBq hb2 hgd)
 have HRN := jh hRN
 have hnw : some W.heap.size ≠ (Value.slice ra rvs.length rc).ownBlock := fun e => by have := (World.ownsRow.lt hM.ownR W.heap.size e.symm).2; omega
 have hni : W.heap.size ≠ ib := by have := (Array.getElem?_eq_some_iff.1 hb).1; omega
 obtain ⟨c0, c1, c2, c3, _⟩ := box9 HB0.out
 have hTr : True := trivial
 clear hgN hbN hM2 hb2 hM hD hb hL hRN e1 hgd hbn
 rcases hf with ⟨rfl, rfl⟩ | ⟨rfl, rfl⟩
 all_goals
  go_enter Tryz.func51, Tryz.ntmps51
  go_wp2_with fail
  refine wp_region_held_drew (S := fun _ => True) (by kernel_rfl) ?_ (fun hHeld => ?_)
  ·trivial
  generalize (W.alloc _).drew = w0 at *
  have c3a := kNq (Lf.gb (w := w0) (.cells #[.slice na t.args0.length nc] 22)) c3
  refine rGq 0 54 ?_
  simp only [Act.put, pS]
  refine rGq 1 55 ?_
  simp only [Act.put, pS]
  refine rGq 2 56 ?_
  simp only [Act.put, pS]
  refine rGq 3 57 ?_
  simp only [Act.put, pS]
  refine rGq 5 59 ?_
  simp only [Act.put, pS]
  refine wpAnyH_ready (rs := [4, 6]) (by kernel_rfl) (by simp) ?_
  refine AllReadyH.cons rfl (fun K hK => ?_) (AllReadyH.cons rfl (fun K hK => ?_) AllReadyH.nil)
  ·go_simp
   refine hK.out _ _ trivial (fun _ => ?_)
   clear hK K
   refine wpAnyH_ready (rs := [6]) (by kernel_rfl) (by simp) ?_
   refine AllReadyH.cons rfl (fun K hK => ?_) AllReadyH.nil
   go_simp
   refine hK.out _ _ trivial (fun _ => ?_)
   clear hK K
   refine wpAnyH_ready (rs := [7]) (by kernel_rfl) (by simp) ?_
   refine AllReadyH.cons rfl (fun K hK => ?_) AllReadyH.nil
   go_simp
   refine hK.out _ _ trivial (fun _ => ?_)
   clear hK K
   refine wpAnyH_ready (rs := [8]) (by kernel_rfl) (by simp) ?_
   refine AllReadyH.cons rfl (fun K hK => ?_) AllReadyH.nil
   refine step_appR WB.heap.size rvs na t.args0.length nc w0 (.slice ra rvs.length rc) rfl (.tmp 58) (.tmp 61) rfl rfl rfl rfl HM0.out.ownR HM0.out.grow.size (by omega) ?_
   intro g cap w3 ho3 hg3
   have HO3 := jh ho3
   have HG3 := jh hg3
   have hb3 := (hg3.block (Array.getElem?_eq_some_iff.1 HB0.out).1 (own_ne_type HM0.out.ownR HB0.out (by decide))).trans HB0.out
   have d2 := (box9 hb3).2.2.2.1
   have dfr := free9 hb3
   have hn3 := (hg3.block (Array.getElem?_eq_some_iff.1 HBN.out).1 hnw).trans HBN.out
   have hn4 := ((grow_set (gRf w3 (some ib)) 3 none (.slice (some ⟨g, 0, none⟩) (rvs.length + 1) cap)).block _ (Array.getElem?_eq_some_iff.1 hn3).1 (by simpa using hni)).trans hn3
   obtain ⟨q0, _⟩ := box5 hn3
   obtain ⟨r0, _⟩ := box5 hn4
   clear ho3 hg3 hb3 hn3 hn4
   refine hK.out _ _ trivial (fun _ => ?_)
   clear hK K
   refine rGq 9 63 ?_
   simp only [Act.put, pS]
   refine rGq 10 64 ?_
   simp only [Act.put, pS]
   refine wpAnyH_ready (rs := [11]) (by kernel_rfl) (by simp) ?_
   refine AllReadyH.cons rfl (fun K hK => ?_) AllReadyH.nil
   go_simp
   refine hK.out _ _ trivial (fun _ => ?_)
   clear hK K
   refine wpAnyH_done (by kernel_rfl) ?_ _
   go_wp2_with fail
   go_ret
   first | exact take_endR (.inl rfl) HM0.out HB0.out HD.out HRN.out HO3.out HG3.out | exact take_endR (.inr rfl) HM0.out HB0.out HD.out HRN.out HO3.out HG3.out
  ·go_simp
   refine hK.out _ _ trivial (fun _ => ?_)
   clear hK K
   refine wpAnyH_ready (rs := [4, 7]) (by kernel_rfl) (by simp) ?_
   refine AllReadyH.cons rfl (fun K hK => ?_) (AllReadyH.cons rfl (fun K hK => ?_) AllReadyH.nil)
   ·go_simp
    refine hK.out _ _ trivial (fun _ => ?_)
    clear hK K
    refine wpAnyH_ready (rs := [7]) (by kernel_rfl) (by simp) ?_
    refine AllReadyH.cons rfl (fun K hK => ?_) AllReadyH.nil
    go_simp
    refine hK.out _ _ trivial (fun _ => ?_)
    clear hK K
    refine wpAnyH_ready (rs := [8]) (by kernel_rfl) (by simp) ?_
    refine AllReadyH.cons rfl (fun K hK => ?_) AllReadyH.nil
    refine step_appR WB.heap.size rvs na t.args0.length nc w0 (.slice ra rvs.length rc) rfl (.tmp 58) (.tmp 61) rfl rfl rfl rfl HM0.out.ownR HM0.out.grow.size (by omega) ?_
    intro g cap w3 ho3 hg3
    have HO3 := jh ho3
    have HG3 := jh hg3
    have hb3 := (hg3.block (Array.getElem?_eq_some_iff.1 HB0.out).1 (own_ne_type HM0.out.ownR HB0.out (by decide))).trans HB0.out
    have d2 := (box9 hb3).2.2.2.1
    have dfr := free9 hb3
    have hn3 := (hg3.block (Array.getElem?_eq_some_iff.1 HBN.out).1 hnw).trans HBN.out
    have hn4 := ((grow_set (gRf w3 (some ib)) 3 none (.slice (some ⟨g, 0, none⟩) (rvs.length + 1) cap)).block _ (Array.getElem?_eq_some_iff.1 hn3).1 (by simpa using hni)).trans hn3
    obtain ⟨q0, _⟩ := box5 hn3
    obtain ⟨r0, _⟩ := box5 hn4
    clear ho3 hg3 hb3 hn3 hn4
    refine hK.out _ _ trivial (fun _ => ?_)
    clear hK K
    refine rGq 9 63 ?_
    simp only [Act.put, pS]
    refine rGq 10 64 ?_
    simp only [Act.put, pS]
    refine wpAnyH_ready (rs := [11]) (by kernel_rfl) (by simp) ?_
    refine AllReadyH.cons rfl (fun K hK => ?_) AllReadyH.nil
    go_simp
    refine hK.out _ _ trivial (fun _ => ?_)
    clear hK K
    refine wpAnyH_done (by kernel_rfl) ?_ _
    go_wp2_with fail
    go_ret
    first | exact take_endR (.inl rfl) HM0.out HB0.out HD.out HRN.out HO3.out HG3.out | exact take_endR (.inr rfl) HM0.out HB0.out HD.out HRN.out HO3.out HG3.out
   ·go_simp
    refine hK.out _ _ trivial (fun _ => ?_)
    clear hK K
    refine wpAnyH_ready (rs := [4]) (by kernel_rfl) (by simp) ?_
    refine AllReadyH.cons rfl (fun K hK => ?_) AllReadyH.nil
    go_simp
    refine hK.out _ _ trivial (fun _ => ?_)
    clear hK K
    refine wpAnyH_ready (rs := [8]) (by kernel_rfl) (by simp) ?_
    refine AllReadyH.cons rfl (fun K hK => ?_) AllReadyH.nil
    refine step_appR WB.heap.size rvs na t.args0.length nc w0 (.slice ra rvs.length rc) rfl (.tmp 58) (.tmp 61) rfl rfl rfl rfl HM0.out.ownR HM0.out.grow.size (by omega) ?_
    intro g cap w3 ho3 hg3
    have HO3 := jh ho3
    have HG3 := jh hg3
    have hb3 := (hg3.block (Array.getElem?_eq_some_iff.1 HB0.out).1 (own_ne_type HM0.out.ownR HB0.out (by decide))).trans HB0.out
    have d2 := (box9 hb3).2.2.2.1
    have dfr := free9 hb3
    have hn3 := (hg3.block (Array.getElem?_eq_some_iff.1 HBN.out).1 hnw).trans HBN.out
    have hn4 := ((grow_set (gRf w3 (some ib)) 3 none (.slice (some ⟨g, 0, none⟩) (rvs.length + 1) cap)).block _ (Array.getElem?_eq_some_iff.1 hn3).1 (by simpa using hni)).trans hn3
    obtain ⟨q0, _⟩ := box5 hn3
    obtain ⟨r0, _⟩ := box5 hn4
    clear ho3 hg3 hb3 hn3 hn4
    refine hK.out _ _ trivial (fun _ => ?_)
    clear hK K
    refine rGq 9 63 ?_
    simp only [Act.put, pS]
    refine rGq 10 64 ?_
    simp only [Act.put, pS]
    refine wpAnyH_ready (rs := [11]) (by kernel_rfl) (by simp) ?_
    refine AllReadyH.cons rfl (fun K hK => ?_) AllReadyH.nil
    go_simp
    refine hK.out _ _ trivial (fun _ => ?_)
    clear hK K
    refine wpAnyH_done (by kernel_rfl) ?_ _
    go_wp2_with fail
    go_ret
    first | exact take_endR (.inl rfl) HM0.out HB0.out HD.out HRN.out HO3.out HG3.out | exact take_endR (.inr rfl) HM0.out HB0.out HD.out HRN.out HO3.out HG3.out
theorem take_v {WB W : World} {ib : Nat} {i : Ins} {t : Tr} {nv : Value} {f : UInt8} {c : Int} (hf : f ≠ 110 /\ ¬ (f = 116 \/ f = 117) /\ ¬ (f = 99 \/ f = 100)) (hI : InsIs WB W ib i) (hL : Lies (· + 1 < ib) WB t nv) (hc : c ≠ 110 /\ c ≠ 116 /\ c ≠ 117 /\ c ≠ 99 /\ c ≠ 100) (htl : i.types.length <= 1000) (hrl : i.rows.length <= 1000) :
 Calls Tryz.prog 51 #[.pointer (some ⟨ib, 0, none⟩), .int .u8 c, nv] W (TakePost WB ib i f t) := by
 obtain ⟨tv, rv, vs, rvs, da, dc, hb, hM, hD⟩ := hI
 obtain ⟨na, nc, VN, e1, ⟨ik, iN, ip, hss⟩, hRN⟩ := hL.invN
 rw [e1]
 unfold nodeV
 have hgN := Lf.gb (w := W) (.cells #[.int .i64 t.k0, .int .i64 t.n0, .int .i64 t.p0, .string t.s0, .slice na t.args0.length nc] 24)
 have hbN := heap_alloc_new W (.cells #[.int .i64 t.k0, .int .i64 t.n0, .int .i64 t.p0, .string t.s0, .slice na t.args0.length nc] 24)
 have hb2 := kBq hb hgN
 have hM2 := hM.call hgN
 obtain ⟨m0, m1, m2, m3, m4⟩ := box5 hbN
 have hw := set9_d hb2 (.int .i64 t.k0) (.int .i64 t.n0) (.int .i64 t.p0) (.string t.s0) (.slice na t.args0.length nc)
 have hgw := grow_set (grow_set (grow_set (grow_set (grow_set (gRf (W.alloc (.cells #[.int .i64 t.k0, .int .i64 t.n0, .int .i64 t.p0, .string t.s0, .slice na t.args0.length nc] 24)) (some ib)) 4 none (.int .i64 t.k0)) 5 none (.int .i64 t.n0)) 6 none (.int .i64 t.p0)) 7 none (.string t.s0)) 8 none (.slice na t.args0.length nc)
 have hM3 := hM2.step hgw
 rw [e1] at hL
 have HJ : Hid (InsIs WB _ ib { i with data := t }) := ⟨tv, rv, vs, rvs, na, nc, hw, hM3, hL⟩
 have HGB := jh hM3.grow
 have fr := free9 hb2
 obtain ⟨c0, c1, c2, c3, c4, c5, c6, c7, c8⟩ := box9 hb2
 have HT : Hid (takeF i f t = some { i with data := t }) := by
  show _ = _
  unfold takeF
  rw [if_neg hf.1, if_neg hf.2.1, if_neg hf.2.2]
 have p1 : (c == 110) = false := by rw [beq_eq_false_iff_ne]; omega
 have p2 : (c == 116) = false := by rw [beq_eq_false_iff_ne]; omega
 have p3 : (c == 117) = false := by rw [beq_eq_false_iff_ne]; omega
 have p4 : (c == 99) = false := by rw [beq_eq_false_iff_ne]; omega
 have p5 : (c == 100) = false := by rw [beq_eq_false_iff_ne]; omega
 clear hM3 hgw hw hM2 hb2 hgN hbN hM hD hb hL hRN e1 hf hc
 go_enter Tryz.func51, Tryz.ntmps51
 go_wp2_with fail
 go_ret
 exact take_yes HT.out HGB.out HJ.out
end Go.Proofs.YtamohjlhndedhadGreatRRR
