/- The document's own dataNode, by its contract. -/
import Derived.Test.YthjpngaapflclacGreatRDatA
import Derived.Test.YthjpngaapflclacGreatROrd
namespace Go.Proofs.YthjpngaapflclacGreat
set_option maxRecDepth 20000
open Go.ChangeShapes Go.WideShapes Go.ChangeAt Go.RowKit
set_option linter.unusedVariables false

theorem grow_ofDrewD {w w' : World} {r : Option Nat} (h : w.drew.grownBy w' r) : w.grownBy w' r := ⟨h.os, h.tape, h.output, h.size, h.block⟩

theorem DOk.parts {x : Va} (h : DOk x) : (x.k = 1 ∨ x.k = 2 → x.args = []) ∧ (x.k = 2 ∨ x.k = 12 → x.n = 0 ∨ x.n = 1) ∧ (x.k = 9 → x.args.length ≤ 1) ∧ (1 ≤ x.k ∧ x.k ≤ 15 ∧ x.k ≠ 8 ∧ x.k ≠ 14 ∧ x.k ≠ 15) ∧ ∀ y ∈ x.args, DOk y := by
  cases h with
  | mk h1 h2 h9 hk hr => exact ⟨h1, h2, h9, hk, hr⟩

theorem elts_take (ts : List Tr) (j : Nat) (h : j < ts.length) : ((ts.take j).map eltT ++ ts.drop j).set j (eltT (((ts.take j).map eltT ++ ts.drop j)[j]'(by simp; omega))) = (ts.take (j + 1)).map eltT ++ ts.drop (j + 1) := by
  have hl : ((ts.take j).map eltT).length = j := by simp; omega
  have e1 : ((ts.take j).map eltT ++ ts.drop j)[j]'(by simp; omega) = ts[j] := by
    rw [List.getElem_append_right (by omega)]
    simp only [List.getElem_drop]
    congr 1
    omega
  rw [e1, List.set_append_right _ _ (by omega), hl, Nat.sub_self, List.take_succ_eq_append_getElem h, List.map_append, List.append_assoc]
  congr 1
  rw [List.drop_eq_getElem_cons h]
  rfl

set_option maxRecDepth 100000 in
set_option maxHeartbeats 8000000 in
theorem rdata_any {w : World} {x : Va} {v : Value} (hV : LiesV (· < w.heap.size) w x v) : ∀ (w2 : World), w.grownBy w2 none → DOk x → x.size ≤ 20000000 → Calls Tryz.prog 21 #[v] w2 (DataPost x w2) := by
  induction hV with
  | @mk k n a s args types code aa ta na ac tc nc V VT VN hl hlc hs ik iN ia hTy hN hc hr ih =>
    intro w2 hg0 hD hz
    obtain ⟨d1, d2, d9, dk, dr⟩ := hD.parts
    simp only [Va.k, Va.n, Va.args] at d1 d2 d9 dk dr
    have hI0 := dw0_inv w2 (.cells #[.int .i64 k, .int .i64 n, .int .i64 a, .string s, .slice aa args.length ac, .slice ta types.length tc, .slice na code.length nc] 28)
    have hdt : dataT (.mk k n a s args types code) = wrF k n s (dataTs args) := by rw [dataT_eq, written_wr]; rfl
    have hlz : args.length ≤ 20000000 := by
      have := vlength_le args
      rw [Va.size] at hz; omega
    have hzs : ∀ i (h : i < args.length), (args[i]).size ≤ 20000000 := fun i h => by
      have := vsize_mem (List.getElem_mem h)
      rw [Va.size] at hz; omega
    have IH := Lf.hide ih
    have HC := Lf.hide hc
    have HG0 := Lf.hide hg0
    have HI0 := Lf.hide hI0
    have HDT := Lf.hide hdt
    have HZS := Lf.hide hzs
    have HLZ := Lf.hide hlz
    have HDR := Lf.hide dr
    have HD1 := Lf.hide d1
    have HD2 := Lf.hide d2
    have HD9 := Lf.hide d9
    have HDK := Lf.hide dk
    have HIN := Lf.hide iN
    have HS := Lf.hide hs
    unfold maxLen at hl
    clear ih hc hr hg0 hI0 hdt hz hzs hlz dr d1 d2 d9 dk hD hTy hN ik iN ia
    unfold vaV
    go_enter Tryz.func21, Tryz.ntmps21
    go_wp2_with fail
    go_loopw [11] (fun i wr => ∃ (j : Nat) (lv : Value) (vs : List Value), j ≤ args.length ∧ i = .int .i64 j ∧ DnInv w2 wr (.cells #[.int .i64 k, .int .i64 n, .int .i64 a, .string s, .slice aa args.length ac, .slice ta types.length tc, .slice na code.length nc] 28) 2 0 lv (dataTs (args.take j)) vs) (fun i _ => args.length - (intOf i).toNat)
    case atStart => exact ⟨0, _, _, Nat.zero_le _, rfl, by simp only [List.take_zero, dataTs]; exact HI0.out⟩
    case round =>
      obtain ⟨j, lv, vs, hj, rfl, hI⟩ := hrel
      have hlv : ∃ la lc, lv = .slice la vs.length lc := by
        obtain ⟨la, lc, _, h, _, _⟩ := hI.list.done
        exact ⟨la, lc, by rw [h, hI.list.len]⟩
      obtain ⟨la, lc, rfl⟩ := hlv
      have hvlen : vs.length = j := by
        have h1 := hI.list.len
        rw [dataTs_len, List.length_take] at h1
        omega
      have hvl : vs.length ≤ 1000000000000 := by
        have h2 := HLZ.out
        omega
      obtain ⟨b0, b1, b2, b3, b4⟩ := box5 hI.blk
      obtain ⟨x0, x1, x2, x3, x4, x5, x6⟩ := box7 hI.vbx
      have lb : w2.heap.size + 1 + 1 < wr.heap.size := lt_blkD hI.blk
      have lb' : w2.heap.size + 1 + 1 < wr.heap.size + 1 := by omega
      by_cases hlt : j < args.length
      · obtain ⟨b, o, rfl, hne, k', n', a', s', aa', al', ac', ta', tl', tc', na', nl', nc', hv, e0, e1, e2, e3, e4, e5, e6⟩ := (HC.out j hlt).same (w' := wr) (fun b o hb _ => World.cell?_of_block ((Lf.gbt HG0.out hI.grown).block b hb (by simp)))
        have hI1 := hI.call (Lf.gb (.cells #[.int .i64 k', .int .i64 n', .int .i64 a', .string s', .slice aa' al' ac', .slice ta' tl' tc', .slice na' nl' nc'] 28))
        have hih : ∀ W, wr.grownBy W none → Calls Tryz.prog 21 #[.agg #[.int .i64 k', .int .i64 n', .int .i64 a', .string s', .slice aa' al' ac', .slice ta' tl' tc', .slice na' nl' nc']] W (DataPost args[j] W) := by
          intro W hW
          have h := IH.out j hlt W (Lf.gbt HG0.out (Lf.gbt hI.grown hW)) (HDR.out _ (List.getElem_mem hlt)) (HZS.out j hlt)
          rw [hv] at h
          exact h
        have HIH := Lf.hide hih
        have HI1 := Lf.hide hI1
        have HOB : Hid (∀ k, (Value.slice la vs.length lc).ownBlock = some k → k < wr.heap.size) := fun k hk => (World.ownsRow.lt hI.list.own k hk).2
        have hzw : w2.heap.size + 1 + 1 + 1 ≤ wr.heap.size := hI.hz
        have HVL := Lf.hide hvlen
        clear hih hI1 hI hv hvlen
        go_wp2_with fail
        go_region_law (first
          | (refine step_appN (w2.heap.size + 1 + 1 + 1) vs ku nu pu su au lu cu w3 (.slice la vs.length lc) rfl (.tmp 16) (.tmp 19) rfl rfl rfl rfl HI3.out.list.own HI3.out.hz hvl ?_; intro g cap w5 ho5 hg5; have HO5 := Lf.hide ho5; have HG5 := Lf.hide hg5; clear ho5 hg5; have HI5 := Lf.hide (HI3.out.push (S := (wr.alloc (.cells #[.int .i64 k', .int .i64 n', .int .i64 a', .string s', .slice aa' al' ac', .slice ta' tl' tc', .slice na' nl' nc'] 28)).heap.size) (by rw [World.size_alloc]; omega) (fun k hk => by have := HOB.out k hk; rw [World.size_alloc]; omega) HLU.out HG5.out HO5.out); have k5 := (HG5.out.block (lt_blkD HI3.out.blk) (own_neD HI3.out.list.own (by omega))).trans HI3.out.blk; obtain ⟨n0, n1, n2, n3, n4⟩ := box5 k5; obtain ⟨f0, f1, f2, f3, f4⟩ := box5f k5; clear k5)
          | (go_simp; go_at_call 21; refine (HIH.out _ (by exact grow_drew (Lf.gb _))).mono ?_; rintro e w3 ⟨hg3, u, rfl, hLu⟩; obtain ⟨ku, nu, pu, su, au, lu, cu, rfl⟩ := hLu.nodeV; have HI3 := Lf.hide (HI1.out.call (grow_ofDrewD hg3)); have HLU := Lf.hide hLu; obtain ⟨m0, m1, m2, m3, m4⟩ := box5 HI3.out.blk; have lm : w2.heap.size + 1 + 1 < w3.heap.size := lt_blkD HI3.out.blk; clear hg3 hLu; unfold nodeV))
        all_goals
          go_wp2_with fail
          have h5 : DnInv w2 (w5.setCell ⟨w2.heap.size + 1 + 1, 4, none⟩ (.slice (some ⟨g, 0, none⟩) (vs.length + 1) cap)) (.cells #[.int .i64 k, .int .i64 n, .int .i64 a, .string s, .slice (some ⟨b, o, none⟩) args.length ac, .slice ta types.length tc, .slice na code.length nc] 28) 2 0 (.slice (some ⟨g, 0, none⟩) (vs.length + 1) cap) (dataTs (args.take (j + 1))) (vs ++ [nodeV ku nu pu su au lu cu]) := by
            rw [dataTs_map, List.take_succ_eq_append_getElem hlt, List.map_append, ← dataTs_map]
            exact HI5.out
          exact ⟨⟨j + 1, _, _, by omega, by go_num, h5⟩, by simp [intOf]; omega⟩
      · have hje : j = args.length := by omega
        have HI : Hid (DnInv w2 wr (.cells #[.int .i64 k, .int .i64 n, .int .i64 a, .string s, .slice aa args.length ac, .slice ta types.length tc, .slice na code.length nc] 28) 2 0 (.slice la vs.length lc) (dataTs args) vs) := by
          have := hI
          rw [hje, List.take_length] at this
          exact this
        have hvn : vs.length = args.length := by omega
        obtain ⟨f0, f1, f2, f3, f4⟩ := box5f hI.res
        obtain ⟨g0, g1, g2, g3, g4⟩ := box5f hI.blk
        obtain ⟨t0, t1, t2, t3, t4⟩ := box5 hI.res
        have HVN := Lf.hide hvn
        have hj3 : ¬ (j : Int) < (args.length : Int) := by omega
        have hdk := HDK.out
        clear hI HC IH HI0 hvlen hvn
        have hcase : k = 1 ∨ k = 2 ∨ k = 6 ∨ k = 9 ∨ k = 10 ∨ k = 11 ∨ k = 12 ∨ k = 13 ∨ (k = 3 ∨ k = 4 ∨ k = 5 ∨ k = 7) := by omega
        clear hdk
        rcases hcase with rfl | rfl | rfl | rfl | rfl | rfl | rfl | rfl | hk
        · have ha : args = [] := HD1.out (.inl rfl)
          have e : dataTs args = [] := by rw [ha, dataTs]
          have HE := Lf.hide e
          clear ha e
          have hS := HI.out.setP (20)
          obtain ⟨r0, r1, r2, r3, r4⟩ := box5f hS.res; obtain ⟨v0, v1, v2, v3, v4⟩ := box5 hS.res
          have HR := Lf.hide hS.res
          have HIS := Lf.hide hS
          clear hS
          go_wp2_with fail
          change bodyPost _ _ _ _ _ (set5 (wr.setCell ⟨w2.heap.size + 1 + 1, 2, none⟩ (.int .i64 20)) (w2.heap.size + 1) (.int .i64 2) (.int .i64 0) (.int .i64 20) (.string ⟨#[]⟩) (.slice la vs.length lc))
          have hb' := set5_block HR.out (.int .i64 2) (.int .i64 0) (.int .i64 20) (.string ⟨#[]⟩) (.slice la vs.length lc)
          have hgs := set5_grow (wr.setCell ⟨w2.heap.size + 1 + 1, 2, none⟩ (.int .i64 20)) (w2.heap.size + 1) (.int .i64 2) (.int .i64 0) (.int .i64 20) (.string ⟨#[]⟩) (.slice la vs.length lc)
          have hg' := grow_new HIS.out.grown hgs (by omega)
          generalize set5 (wr.setCell ⟨w2.heap.size + 1 + 1, 2, none⟩ (.int .i64 20)) (w2.heap.size + 1) (.int .i64 2) (.int .i64 0) (.int .i64 20) (.string ⟨#[]⟩) (.slice la vs.length lc) = wf at *
          obtain ⟨z0, z1, z2, z3, z4⟩ := box5 hb'
          refine bodyPost_ret (v := nodeV 2 0 20 ⟨#[]⟩ la vs.length lc) (by simp [results, Tryz.results21, go_sem, z0, z1, z2, z3, z4, nodeV]) rfl ⟨hg', _, rfl, ?_⟩
          have hL := HIS.out.lies hgs ⟨by decide, by decide⟩ ⟨by omega, by omega⟩ (by rw [dataTs_len]; unfold maxLen; have := HLZ.out; omega) rfl
          rw [HDT.out, wrF, if_pos rfl]
          rw [HE.out] at hL
          exact hL
        · have ha : args = [] := HD1.out (.inr rfl)
          have hn01 : n = 0 ∨ n = 1 := HD2.out (.inl rfl)
          have e : dataTs args = [] := by rw [ha, dataTs]
          have HE := Lf.hide e
          clear ha e
          rcases hn01 with rfl | rfl
          · have hS := HI.out.setP (22)
            obtain ⟨r0, r1, r2, r3, r4⟩ := box5f hS.res; obtain ⟨v0, v1, v2, v3, v4⟩ := box5 hS.res
            have HR := Lf.hide hS.res
            have HIS := Lf.hide hS
            clear hS
            go_wp2_with fail
            change bodyPost _ _ _ _ _ (set5 (wr.setCell ⟨w2.heap.size + 1 + 1, 2, none⟩ (.int .i64 22)) (w2.heap.size + 1) (.int .i64 2) (.int .i64 0) (.int .i64 22) (.string ⟨#[]⟩) (.slice la vs.length lc))
            have hb' := set5_block HR.out (.int .i64 2) (.int .i64 0) (.int .i64 22) (.string ⟨#[]⟩) (.slice la vs.length lc)
            have hgs := set5_grow (wr.setCell ⟨w2.heap.size + 1 + 1, 2, none⟩ (.int .i64 22)) (w2.heap.size + 1) (.int .i64 2) (.int .i64 0) (.int .i64 22) (.string ⟨#[]⟩) (.slice la vs.length lc)
            have hg' := grow_new HIS.out.grown hgs (by omega)
            generalize set5 (wr.setCell ⟨w2.heap.size + 1 + 1, 2, none⟩ (.int .i64 22)) (w2.heap.size + 1) (.int .i64 2) (.int .i64 0) (.int .i64 22) (.string ⟨#[]⟩) (.slice la vs.length lc) = wf at *
            obtain ⟨z0, z1, z2, z3, z4⟩ := box5 hb'
            refine bodyPost_ret (v := nodeV 2 0 22 ⟨#[]⟩ la vs.length lc) (by simp [results, Tryz.results21, go_sem, z0, z1, z2, z3, z4, nodeV]) rfl ⟨hg', _, rfl, ?_⟩
            have hL := HIS.out.lies hgs ⟨by decide, by decide⟩ ⟨by omega, by omega⟩ (by rw [dataTs_len]; unfold maxLen; have := HLZ.out; omega) rfl
            rw [HDT.out, wrF, if_neg (by decide), if_pos rfl, if_pos rfl]
            rw [HE.out] at hL
            exact hL
          · have hS := HI.out.setP (21)
            obtain ⟨r0, r1, r2, r3, r4⟩ := box5f hS.res; obtain ⟨v0, v1, v2, v3, v4⟩ := box5 hS.res
            have HR := Lf.hide hS.res
            have HIS := Lf.hide hS
            clear hS
            go_wp2_with fail
            change bodyPost _ _ _ _ _ (set5 (wr.setCell ⟨w2.heap.size + 1 + 1, 2, none⟩ (.int .i64 21)) (w2.heap.size + 1) (.int .i64 2) (.int .i64 0) (.int .i64 21) (.string ⟨#[]⟩) (.slice la vs.length lc))
            have hb' := set5_block HR.out (.int .i64 2) (.int .i64 0) (.int .i64 21) (.string ⟨#[]⟩) (.slice la vs.length lc)
            have hgs := set5_grow (wr.setCell ⟨w2.heap.size + 1 + 1, 2, none⟩ (.int .i64 21)) (w2.heap.size + 1) (.int .i64 2) (.int .i64 0) (.int .i64 21) (.string ⟨#[]⟩) (.slice la vs.length lc)
            have hg' := grow_new HIS.out.grown hgs (by omega)
            generalize set5 (wr.setCell ⟨w2.heap.size + 1 + 1, 2, none⟩ (.int .i64 21)) (w2.heap.size + 1) (.int .i64 2) (.int .i64 0) (.int .i64 21) (.string ⟨#[]⟩) (.slice la vs.length lc) = wf at *
            obtain ⟨z0, z1, z2, z3, z4⟩ := box5 hb'
            refine bodyPost_ret (v := nodeV 2 0 21 ⟨#[]⟩ la vs.length lc) (by simp [results, Tryz.results21, go_sem, z0, z1, z2, z3, z4, nodeV]) rfl ⟨hg', _, rfl, ?_⟩
            have hL := HIS.out.lies hgs ⟨by decide, by decide⟩ ⟨by omega, by omega⟩ (by rw [dataTs_len]; unfold maxLen; have := HLZ.out; omega) rfl
            rw [HDT.out, wrF, if_neg (by decide), if_pos rfl, if_neg (by decide)]
            rw [HE.out] at hL
            exact hL
        · go_wp2_with fail
          change bodyPost _ _ _ _ _ (set5 wr (w2.heap.size + 1) (.int .i64 1) (.int .i64 0) (.int .i64 0) (.string s) (.slice none 0 0))
          have hb' := set5_block HI.out.res (.int .i64 1) (.int .i64 0) (.int .i64 0) (.string s) (.slice none 0 0)
          have hgs := set5_grow wr (w2.heap.size + 1) (.int .i64 1) (.int .i64 0) (.int .i64 0) (.string s) (.slice none 0 0)
          have hg' := grow_new HI.out.grown hgs (by omega)
          generalize set5 wr (w2.heap.size + 1) (.int .i64 1) (.int .i64 0) (.int .i64 0) (.string s) (.slice none 0 0) = wf at *
          obtain ⟨z0, z1, z2, z3, z4⟩ := box5 hb'
          refine bodyPost_ret (v := nodeV 1 0 0 s none 0 0) (by simp [results, Tryz.results21, go_sem, z0, z1, z2, z3, z4, nodeV]) rfl ⟨hg', _, rfl, ?_⟩
          rw [HDT.out, wrF, if_neg (by decide), if_neg (by decide), if_neg (by decide), if_pos rfl]
          exact Lies.mk (args := []) (fun _ => .int .i64 0) (by simp) HS.out ⟨by decide, by decide⟩ ⟨by decide, by decide⟩ ⟨by decide, by decide⟩ (fun i hi => by simp at hi) (fun i hi => by simp at hi)
        · have h9 : args.length ≤ 1 := HD9.out rfl
          have hw : wrap64 (27 - (args.length : Int)) = 27 - (args.length : Int) := by unfold wrap64; omega
          have hw2 : IntKind.i64.wrap (27 - (args.length : Int)) = 27 - (args.length : Int) := by
            rw [show (27 : Int) - (args.length : Int) = ((27 - args.length : Nat) : Int) from by omega]; exact rwrapN _ (by omega)
          have hS := HI.out.setP (27 - (args.length : Int))
          obtain ⟨r0, r1, r2, r3, r4⟩ := box5f hS.res; obtain ⟨v0, v1, v2, v3, v4⟩ := box5 hS.res
          have HR := Lf.hide hS.res
          have HIS := Lf.hide hS
          clear hS
          go_wp2_with fail
          change bodyPost _ _ _ _ _ (set5 (wr.setCell ⟨w2.heap.size + 1 + 1, 2, none⟩ (.int .i64 (27 - (args.length : Int)))) (w2.heap.size + 1) (.int .i64 2) (.int .i64 0) (.int .i64 (27 - (args.length : Int))) (.string ⟨#[]⟩) (.slice la vs.length lc))
          have hb' := set5_block HR.out (.int .i64 2) (.int .i64 0) (.int .i64 (27 - (args.length : Int))) (.string ⟨#[]⟩) (.slice la vs.length lc)
          have hgs := set5_grow (wr.setCell ⟨w2.heap.size + 1 + 1, 2, none⟩ (.int .i64 (27 - (args.length : Int)))) (w2.heap.size + 1) (.int .i64 2) (.int .i64 0) (.int .i64 (27 - (args.length : Int))) (.string ⟨#[]⟩) (.slice la vs.length lc)
          have hg' := grow_new HIS.out.grown hgs (by omega)
          generalize set5 (wr.setCell ⟨w2.heap.size + 1 + 1, 2, none⟩ (.int .i64 (27 - (args.length : Int)))) (w2.heap.size + 1) (.int .i64 2) (.int .i64 0) (.int .i64 (27 - (args.length : Int))) (.string ⟨#[]⟩) (.slice la vs.length lc) = wf at *
          obtain ⟨z0, z1, z2, z3, z4⟩ := box5 hb'
          refine bodyPost_ret (v := nodeV 2 0 (27 - (args.length : Int)) ⟨#[]⟩ la vs.length lc) (by simp [results, Tryz.results21, go_sem, z0, z1, z2, z3, z4, nodeV]) rfl ⟨hg', _, rfl, ?_⟩
          have hL := HIS.out.lies hgs ⟨by decide, by decide⟩ ⟨by omega, by omega⟩ (by rw [dataTs_len]; unfold maxLen; have := HLZ.out; omega) rfl
          rw [HDT.out, wrF, if_neg (by decide), if_neg (by decide), if_neg (by decide), if_neg (by decide), if_pos rfl]
          have e : (if (dataTs args).length = 0 then (27 : Int) else 26) = 27 - (args.length : Int) := by
            rw [dataTs_len]; split <;> omega
          rw [e]
          exact hL
        · have hS := HI.out.setK 3
          obtain ⟨r0, r1, r2, r3, r4⟩ := box5f hS.res; obtain ⟨v0, v1, v2, v3, v4⟩ := box5 hS.res
          have HR := Lf.hide hS.res
          have HIS := Lf.hide hS
          clear hS
          go_wp2_with fail
          change bodyPost _ _ _ _ _ (set5 (wr.setCell ⟨w2.heap.size + 1 + 1, 0, none⟩ (.int .i64 3)) (w2.heap.size + 1) (.int .i64 3) (.int .i64 0) (.int .i64 0) (.string ⟨#[]⟩) (.slice la vs.length lc))
          have hb' := set5_block HR.out (.int .i64 3) (.int .i64 0) (.int .i64 0) (.string ⟨#[]⟩) (.slice la vs.length lc)
          have hgs := set5_grow (wr.setCell ⟨w2.heap.size + 1 + 1, 0, none⟩ (.int .i64 3)) (w2.heap.size + 1) (.int .i64 3) (.int .i64 0) (.int .i64 0) (.string ⟨#[]⟩) (.slice la vs.length lc)
          have hg' := grow_new HIS.out.grown hgs (by omega)
          generalize set5 (wr.setCell ⟨w2.heap.size + 1 + 1, 0, none⟩ (.int .i64 3)) (w2.heap.size + 1) (.int .i64 3) (.int .i64 0) (.int .i64 0) (.string ⟨#[]⟩) (.slice la vs.length lc) = wf at *
          obtain ⟨z0, z1, z2, z3, z4⟩ := box5 hb'
          refine bodyPost_ret (v := nodeV 3 0 0 ⟨#[]⟩ la vs.length lc) (by simp [results, Tryz.results21, go_sem, z0, z1, z2, z3, z4, nodeV]) rfl ⟨hg', _, rfl, ?_⟩
          have hL := HIS.out.lies hgs ⟨by decide, by decide⟩ ⟨by omega, by omega⟩ (by rw [dataTs_len]; unfold maxLen; have := HLZ.out; omega) rfl
          rw [HDT.out, wrF, if_neg (by decide), if_neg (by decide), if_neg (by decide), if_neg (by decide), if_neg (by decide), if_neg (by decide), if_neg (by decide), if_pos rfl]
          exact hL
        · skip
          have hS := HI.out.setP (23)
          obtain ⟨r0, r1, r2, r3, r4⟩ := box5f hS.res; obtain ⟨v0, v1, v2, v3, v4⟩ := box5 hS.res
          have HR := Lf.hide hS.res
          have HIS := Lf.hide hS
          clear hS
          go_wp2_with fail
          change bodyPost _ _ _ _ _ (set5 (wr.setCell ⟨w2.heap.size + 1 + 1, 2, none⟩ (.int .i64 23)) (w2.heap.size + 1) (.int .i64 2) (.int .i64 0) (.int .i64 23) (.string ⟨#[]⟩) (.slice la vs.length lc))
          have hb' := set5_block HR.out (.int .i64 2) (.int .i64 0) (.int .i64 23) (.string ⟨#[]⟩) (.slice la vs.length lc)
          have hgs := set5_grow (wr.setCell ⟨w2.heap.size + 1 + 1, 2, none⟩ (.int .i64 23)) (w2.heap.size + 1) (.int .i64 2) (.int .i64 0) (.int .i64 23) (.string ⟨#[]⟩) (.slice la vs.length lc)
          have hg' := grow_new HIS.out.grown hgs (by omega)
          generalize set5 (wr.setCell ⟨w2.heap.size + 1 + 1, 2, none⟩ (.int .i64 23)) (w2.heap.size + 1) (.int .i64 2) (.int .i64 0) (.int .i64 23) (.string ⟨#[]⟩) (.slice la vs.length lc) = wf at *
          obtain ⟨z0, z1, z2, z3, z4⟩ := box5 hb'
          refine bodyPost_ret (v := nodeV 2 0 23 ⟨#[]⟩ la vs.length lc) (by simp [results, Tryz.results21, go_sem, z0, z1, z2, z3, z4, nodeV]) rfl ⟨hg', _, rfl, ?_⟩
          have hL := HIS.out.lies hgs ⟨by decide, by decide⟩ ⟨by omega, by omega⟩ (by rw [dataTs_len]; unfold maxLen; have := HLZ.out; omega) rfl
          rw [HDT.out, wrF, if_neg (by decide), if_neg (by decide), if_neg (by decide), if_neg (by decide), if_neg (by decide), if_pos rfl]
          exact hL
        · have hn01 : n = 0 ∨ n = 1 := HD2.out (.inr rfl)
          rcases hn01 with rfl | rfl
          · have hS := HI.out.setP (24)
            obtain ⟨r0, r1, r2, r3, r4⟩ := box5f hS.res; obtain ⟨v0, v1, v2, v3, v4⟩ := box5 hS.res
            have HR := Lf.hide hS.res
            have HIS := Lf.hide hS
            clear hS
            go_wp2_with fail
            change bodyPost _ _ _ _ _ (set5 (wr.setCell ⟨w2.heap.size + 1 + 1, 2, none⟩ (.int .i64 24)) (w2.heap.size + 1) (.int .i64 2) (.int .i64 0) (.int .i64 24) (.string ⟨#[]⟩) (.slice la vs.length lc))
            have hb' := set5_block HR.out (.int .i64 2) (.int .i64 0) (.int .i64 24) (.string ⟨#[]⟩) (.slice la vs.length lc)
            have hgs := set5_grow (wr.setCell ⟨w2.heap.size + 1 + 1, 2, none⟩ (.int .i64 24)) (w2.heap.size + 1) (.int .i64 2) (.int .i64 0) (.int .i64 24) (.string ⟨#[]⟩) (.slice la vs.length lc)
            have hg' := grow_new HIS.out.grown hgs (by omega)
            generalize set5 (wr.setCell ⟨w2.heap.size + 1 + 1, 2, none⟩ (.int .i64 24)) (w2.heap.size + 1) (.int .i64 2) (.int .i64 0) (.int .i64 24) (.string ⟨#[]⟩) (.slice la vs.length lc) = wf at *
            obtain ⟨z0, z1, z2, z3, z4⟩ := box5 hb'
            refine bodyPost_ret (v := nodeV 2 0 24 ⟨#[]⟩ la vs.length lc) (by simp [results, Tryz.results21, go_sem, z0, z1, z2, z3, z4, nodeV]) rfl ⟨hg', _, rfl, ?_⟩
            have hL := HIS.out.lies hgs ⟨by decide, by decide⟩ ⟨by omega, by omega⟩ (by rw [dataTs_len]; unfold maxLen; have := HLZ.out; omega) rfl
            rw [HDT.out, wrF, if_neg (by decide), if_neg (by decide), if_neg (by decide), if_neg (by decide), if_neg (by decide), if_neg (by decide), if_pos rfl, if_pos rfl]
            exact hL
          · have hS := HI.out.setP (25)
            obtain ⟨r0, r1, r2, r3, r4⟩ := box5f hS.res; obtain ⟨v0, v1, v2, v3, v4⟩ := box5 hS.res
            have HR := Lf.hide hS.res
            have HIS := Lf.hide hS
            clear hS
            go_wp2_with fail
            change bodyPost _ _ _ _ _ (set5 (wr.setCell ⟨w2.heap.size + 1 + 1, 2, none⟩ (.int .i64 25)) (w2.heap.size + 1) (.int .i64 2) (.int .i64 0) (.int .i64 25) (.string ⟨#[]⟩) (.slice la vs.length lc))
            have hb' := set5_block HR.out (.int .i64 2) (.int .i64 0) (.int .i64 25) (.string ⟨#[]⟩) (.slice la vs.length lc)
            have hgs := set5_grow (wr.setCell ⟨w2.heap.size + 1 + 1, 2, none⟩ (.int .i64 25)) (w2.heap.size + 1) (.int .i64 2) (.int .i64 0) (.int .i64 25) (.string ⟨#[]⟩) (.slice la vs.length lc)
            have hg' := grow_new HIS.out.grown hgs (by omega)
            generalize set5 (wr.setCell ⟨w2.heap.size + 1 + 1, 2, none⟩ (.int .i64 25)) (w2.heap.size + 1) (.int .i64 2) (.int .i64 0) (.int .i64 25) (.string ⟨#[]⟩) (.slice la vs.length lc) = wf at *
            obtain ⟨z0, z1, z2, z3, z4⟩ := box5 hb'
            refine bodyPost_ret (v := nodeV 2 0 25 ⟨#[]⟩ la vs.length lc) (by simp [results, Tryz.results21, go_sem, z0, z1, z2, z3, z4, nodeV]) rfl ⟨hg', _, rfl, ?_⟩
            have hL := HIS.out.lies hgs ⟨by decide, by decide⟩ ⟨by omega, by omega⟩ (by rw [dataTs_len]; unfold maxLen; have := HLZ.out; omega) rfl
            rw [HDT.out, wrF, if_neg (by decide), if_neg (by decide), if_neg (by decide), if_neg (by decide), if_neg (by decide), if_neg (by decide), if_pos rfl, if_neg (by decide)]
            exact hL
        · have hS := HI.out.setK 3
          obtain ⟨r0, r1, r2, r3, r4⟩ := box5f hS.res; obtain ⟨v0, v1, v2, v3, v4⟩ := box5 hS.res
          have HIS0 := Lf.hide hS
          clear hS
          go_wp2_with fail
          go_loopw [67] (fun i wz => ∃ (q : Nat) (vs' : List Value), q ≤ args.length ∧ i = .int .i64 q ∧ DnInv w2 wz (.cells #[.int .i64 13, .int .i64 n, .int .i64 a, .string s, .slice aa args.length ac, .slice ta types.length tc, .slice na code.length nc] 28) 3 0 (.slice la vs.length lc) (((dataTs args).take q).map eltT ++ (dataTs args).drop q) vs') (fun i _ => args.length - (intOf i).toNat)
          case atStart => exact ⟨0, vs, Nat.zero_le _, rfl, by simpa using HIS0.out⟩
          case round =>
            obtain ⟨q, vs', hq, rfl, hI2⟩ := hrel
            obtain ⟨c0, c1, c2, c3, c4⟩ := box5 hI2.blk
            obtain ⟨s0, s1, s2, s3, s4⟩ := box5f hI2.res
            obtain ⟨y0, y1, y2, y3, y4⟩ := box5 hI2.res
            have hvn := HVN.out
            by_cases hlt : q < args.length
            · have hla : ∃ g, la = some ⟨g, 0, none⟩ := by
                rcases hI2.list.own.2 with ⟨h, _⟩ | ⟨g, cap, cur, h, _⟩
                · simp only [Value.slice.injEq] at h; omega
                · simp only [Value.slice.injEq] at h; exact ⟨g, h.1⟩
              obtain ⟨g, rfl⟩ := hla
              have hlen2 : (((dataTs args).take q).map eltT ++ (dataTs args).drop q).length = args.length := by
                have := dataTs_len args
                simp; omega
              obtain ⟨hfz, ⟨y, hcy⟩, vs2, hI3⟩ := hI2.elt (i := q) (by rw [hlen2]; exact hvn) (by rw [hlen2]; exact hlt)
              rw [elts_take (dataTs args) q (by rw [dataTs_len]; exact hlt)] at hI3
              have HI3 := Lf.hide hI3
              have w1 : (q : Int) < (vs.length : Int) := by omega
              have w2' : (q : Int) < (args.length : Int) := by omega
              have w3 : q < vs.length := by omega
              have hfz2 : wr.frozen? ⟨g, 0 + q * 5 + 2, none⟩ = false := by rw [Nat.zero_add]; exact hfz
              clear hI3 hI2 hlen2
              go_wp2_with fail
              go_roundw
              case rel => exact ⟨q + 1, vs2, by omega, by go_num, HI3.out⟩
              case measure => simp [intOf]; omega
            · have hqe : q = args.length := by omega
              have HIS : Hid (DnInv w2 wr (.cells #[.int .i64 13, .int .i64 n, .int .i64 a, .string s, .slice aa args.length ac, .slice ta types.length tc, .slice na code.length nc] 28) 3 0 (.slice la vs.length lc) ((dataTs args).map eltT) vs') := by
                have := hI2
                rw [hqe, List.take_of_length_le (by rw [dataTs_len]; omega), List.drop_of_length_le (by rw [dataTs_len]; omega), List.append_nil] at this
                exact this
              have HR := Lf.hide HIS.out.res
              have w1 : ¬ (q : Int) < (vs.length : Int) := by omega
              clear hI2 hvn hqe
              go_wp2_with fail
              change bodyPost _ _ _ _ _ (set5 wr (w2.heap.size + 1) (.int .i64 3) (.int .i64 0) (.int .i64 0) (.string ⟨#[]⟩) (.slice la vs.length lc))
              have hb' := set5_block HR.out (.int .i64 3) (.int .i64 0) (.int .i64 0) (.string ⟨#[]⟩) (.slice la vs.length lc)
              have hgs := set5_grow wr (w2.heap.size + 1) (.int .i64 3) (.int .i64 0) (.int .i64 0) (.string ⟨#[]⟩) (.slice la vs.length lc)
              have hg' := grow_new HIS.out.grown hgs (by omega)
              generalize set5 wr (w2.heap.size + 1) (.int .i64 3) (.int .i64 0) (.int .i64 0) (.string ⟨#[]⟩) (.slice la vs.length lc) = wf at *
              obtain ⟨z0, z1, z2, z3, z4⟩ := box5 hb'
              refine bodyPost_ret (v := nodeV 3 0 0 ⟨#[]⟩ la vs.length lc) (by simp [results, Tryz.results21, go_sem, z0, z1, z2, z3, z4, nodeV]) rfl ⟨hg', _, rfl, ?_⟩
              have hL := HIS.out.lies hgs ⟨by decide, by decide⟩ ⟨by omega, by omega⟩ (by rw [List.length_map, dataTs_len]; unfold maxLen; have := HLZ.out; omega) rfl
              rw [HDT.out, wrF, if_neg (by decide), if_neg (by decide), if_neg (by decide), if_neg (by decide), if_neg (by decide), if_neg (by decide), if_neg (by decide), if_neg (by decide), if_pos rfl]
              exact hL
        · have hk1 : ¬ k = 1 ∧ ¬ k = 2 ∧ ¬ k = 6 ∧ ¬ k = 9 ∧ ¬ k = 10 ∧ ¬ k = 11 ∧ ¬ k = 12 ∧ ¬ k = 13 := by omega
          have HE : Hid (dataT (.mk k n a s args types code) = .nd 0 n 0 ⟨#[]⟩ []) := by
            have h1 := HDT.out
            rw [wrF, if_neg hk1.1, if_neg hk1.2.1, if_pos (by omega)] at h1
            exact h1
          obtain ⟨p1, p2, p3, p4, p5, p6, p7, p8⟩ := hk1
          have y1 : (k == 1) = false := by simpa using p1
          have y2 : (k == 2) = false := by simpa using p2
          have y3 : (k == 6) = false := by simpa using p3
          have y4 : (k == 9) = false := by simpa using p4
          have y5 : (k == 10) = false := by simpa using p5
          have y6 : (k == 11) = false := by simpa using p6
          have y7 : (k == 12) = false := by simpa using p7
          have y8 : (k == 13) = false := by simpa using p8
          clear p1 p2 p3 p4 p5 p6 p7 p8 hk
          go_wp2_with fail
          change bodyPost _ _ _ _ _ (set5 wr (w2.heap.size + 1) (.int .i64 0) (.int .i64 n) (.int .i64 0) (.string ⟨#[]⟩) (.slice none 0 0))
          have hb' := set5_block HI.out.res (.int .i64 0) (.int .i64 n) (.int .i64 0) (.string ⟨#[]⟩) (.slice none 0 0)
          have hgs := set5_grow wr (w2.heap.size + 1) (.int .i64 0) (.int .i64 n) (.int .i64 0) (.string ⟨#[]⟩) (.slice none 0 0)
          have hg' := grow_new HI.out.grown hgs (by omega)
          generalize set5 wr (w2.heap.size + 1) (.int .i64 0) (.int .i64 n) (.int .i64 0) (.string ⟨#[]⟩) (.slice none 0 0) = wf at *
          obtain ⟨z0, z1, z2, z3, z4⟩ := box5 hb'
          refine bodyPost_ret (v := nodeV 0 n 0 ⟨#[]⟩ none 0 0) (by simp [results, Tryz.results21, go_sem, z0, z1, z2, z3, z4, nodeV]) rfl ⟨hg', _, rfl, ?_⟩
          rw [HE.out]
          exact Lies.mk (args := []) (fun _ => .int .i64 0) (by simp) (Nat.zero_le _) ⟨by decide, by decide⟩ HIN.out ⟨by decide, by decide⟩ (fun i hi => by simp at hi) (fun i hi => by simp at hi)

end Go.Proofs.YthjpngaapflclacGreat
