/- The document's own GoodNode by its contract. -/
import Derived.Test.YthjpngaapflclacGreatRefG
import Derived.Test.YthjpngaapflclacGreatRefA
import Derived.Deep.RegionHeld3
import Derived.Deep.DeepCutAuto
namespace Go.Proofs.YthjpngaapflclacGreat
set_option maxRecDepth 20000
open Go.ChangeShapes Go.WideShapes Go.ChangeAt Go.RowKit
set_option linter.unusedVariables false

/-- where going through the row stands -/
def GNRel (w W : World) (t : Tr) (rv iv : Value) (wr : World) : Prop :=
  ∃ (xs ys : List Dp) (L : List (Nat × Tr)) (g cap : Nat), rv = .slice (some ⟨g, 0, none⟩) (xs.length + ys.length) cap ∧ iv = .int .i64 (xs.length : Nat) ∧ OwnsD W.heap.size wr rv (xs ++ ys) ∧ RowOf w L ys ∧ fW L = fW [(1, t)] ∧ xs.length + szW L = t.size ∧ W.grownBy wr none

set_option maxRecDepth 100000 in
set_option maxHeartbeats 4000000 in
theorem rgoodN_any {w : World} {t : Tr} {v : Value} (hL : Lies (fun _ => True) w t v) (hz : t.size ≤ 1048576) (W : World) (hW : w.grownBy W none) :
    Calls Tryz.prog 22 #[v] W fun e w' => e = .returned (.int .i64 (goodF t)) ∧ W.grownBy w' none := by
  obtain ⟨k, n, p, st, a, q, c, rfl⟩ := hL.nodeV
  have HL := Lf.hide hL
  have HW := Lf.hide hW
  have HZ := Lf.hide hz
  clear hL hW hz
  unfold nodeV
  go_enter Tryz.func22, Tryz.ntmps22
  go_wp2_with fail
  go_loopw [3, 4] (fun rv iv wr => GNRel w W t rv iv wr) (fun _ iv _ => t.size - (intOf iv).toNat)
  case atStart =>
    refine ⟨[], [⟨k, n, p, st, a, q, c, 1⟩], [(1, t)], _, _, rfl, rfl, ?_, ⟨⟨rfl, HL.out⟩, trivial⟩, rfl, by simp [szW], Lf.gbt (Lf.gb _) (Lf.gb _)⟩
    have e0 : W.heap.size + 1 = (W.alloc (.cells #[.int .i64 k, .int .i64 n, .int .i64 p, .string st, .slice a q c] 30)).heap.size := by simp
    rw [e0]
    exact ⟨rfl, .inr ⟨_, 1, _, rfl, by simp, heap_alloc_new _ _, Nat.le_refl _, by decide, rfl, rfl⟩⟩
  case round =>
    obtain ⟨xs, ys, L, g, cap, rfl, rfl, hown, hrow, hf, hs, hgr⟩ := hrel
    obtain ⟨wo, rfl⟩ : ∃ wo, wo = wr := ⟨_, rfl⟩
    have hz := HZ.out
    match L, ys, hrow with
    | [], [], _ =>
      have hgood : goodF t = if 300 < xs.length then 4 else 0 := by
        have h0 : fW [(1, t)] = 0 := hf.symm
        have h1 : szW [(1, t)] = t.size := by simp [szW]
        have h2 : xs.length = t.size := by simpa [szW] using hs
        rw [goodF_row, h0, h1, h2]; simp
      have hxl : xs.length ≤ 1048576 := by simp [szW] at hs; omega
      have HGD := Lf.hide hgood
      have HGR := Lf.hide hgr
      clear hgood hgr hown hf hs hz hrow HZ HL HW
      by_cases h3 : 300 < xs.length
      · have h4 : (300 : Int) < (xs.length : Int) := by omega
        go_wp2_with fail
        go_ret
        exact Lf.reti (by rw [HGD.out, if_pos h3]) HGR.out
      · have h4 : ¬ (300 : Int) < (xs.length : Int) := by omega
        go_wp2_with fail
        go_ret
        exact Lf.reti (by rw [HGD.out, if_neg h3]) HGR.out
    | (d, .nd kx nx px sx ax) :: L, y :: ys, ⟨⟨hd, hLx⟩, hrow⟩ =>
      obtain ⟨yk, yn, yp, ys', ya, yl, yc, yd⟩ := y
      simp only at hd hLx
      subst hd
      have hlen : xs.length + (ys.length + 1) ≤ 1048576 := by
        have h1 := RowOf.len hrow
        have h2 := len_szW L
        have h3 := size_pos (.nd kx nx px sx ax)
        simp [szW] at hs
        omega
      obtain ⟨c0, c1, c2, c3, c4, c5⟩ := OwnsD.cell hown (by simp) (i := xs.length) (x := ⟨yk, yn, yp, ys', ya, yl, yc, yd⟩) (by simp)
      generalize hV : nodeV yk yn yp ys' ya yl yc = vx at hLx
      cases hLx with
      | mk V hla hsa ik iN ip hca hra =>
      unfold nodeV at hV
      simp only [Value.agg.injEq, Array.mk.injEq, List.cons.injEq, Value.int.injEq, Value.string.injEq, Value.slice.injEq, true_and, and_true] at hV
      obtain ⟨rfl, rfl, rfl, rfl, rfl, rfl, rfl⟩ := hV
      unfold maxLen at hla hsa
      have hcap : (xs.length + 1 < cap ∧ xs.length + (ys.length + 1) ≤ cap) ∨ (cap = xs.length + 1 ∧ ys.length = 0) := by
        rcases hown.2 with ⟨hx, _⟩ | ⟨g', cap', cur, hx, h1, h2, h3, h4, h5, h6⟩
        · simp at hx
        · simp only [Value.slice.injEq, Option.some.injEq, Addr.mk.injEq, and_true] at hx
          obtain ⟨rfl, _, rfl⟩ := hx
          simp at h3
          omega
      have HF := Lf.hide hf
      have HS := Lf.hide hs
      have HGR := Lf.hide hgr
      have HOWN := Lf.hide hown
      have HROW := Lf.hide hrow
      have HCA := Lf.hide hca
      have HRA := Lf.hide hra
      clear hf hs hgr hown hrow hca hra
      by_cases h24 : 24 < yd
      · have h24' : (24 : Int) < (yd : Int) := by omega
        have hG : goodF t = 4 := by
          have h0 : fW [(1, t)] = 4 := by rw [← HF.out]; exact fW_deep h24
          rw [goodF_row, h0]; simp
        have HG := Lf.hide hG
        clear hG
        go_wp2_with fail
        go_ret
        exact Lf.reti HG.out.symm (Lf.gbt HGR.out (Lf.gb _))
      · have h24' : ¬ (24 : Int) < (yd : Int) := by omega
        have HRP := Lf.hide (rprim_any yp)
        have hsz0 : ys'.size = 0 → ys' = ⟨#[]⟩ := fun h => by
          have : ys'.data = #[] := Array.eq_empty_of_size_eq_zero h
          cases ys'; simp_all
        have HSZ := Lf.hide hsz0
        clear hsz0
        by_cases hw : Lf.wrongF yk yn yp ys' ax.length = 0
        · have hst := fW_step (l := L) h24 hw
          have HST := Lf.hide (hst.symm.trans HF.out)
          obtain ⟨hk, hp, hm, hN, hs200⟩ := wrong_zero hw
          have HRI := Lf.hide (fun w => rin_all yn w iN)
          have hNd : decide (-1152921504606846976 ≤ yn ∧ yn ≤ 1152921504606846976) = true := decide_eq_true hN
          rw [hNd] at HRI
          clear hst hw hN hNd
          rcases (show yk = 0 ∨ yk = 1 ∨ yk = 2 ∨ yk = 3 from by omega) with rfl | rfl | rfl | rfl
          · have he : yp = 0 ∧ ys' = ⟨#[]⟩ ∧ ax.length = 0 := by
              rw [gmore0, decide_eq_false_iff_not] at hm
              exact ⟨by omega, HSZ.out (by omega), by omega⟩
            obtain ⟨rfl, rfl, hal⟩ := he
            have HAL := Lf.hide hal
            have hal2 : (ax.length : Int) = 0 := by omega
            clear hal hm hp hk
            go_wp2_with fail
            refine (HRI.out _).mono ?_; rintro e w1 ⟨rfl, rfl⟩
            go_upto_region 16 with (fail)
            go_cut [6] (fun rv wx => OwnsD (wo.heap.size + 1) wx rv ys ∧ (wo.alloc (.cells #[.int .i64 0, .int .i64 yn, .int .i64 0, .string ⟨#[]⟩, .slice ya ax.length yc, .int .i64 yd] 62)).grownBy wx none)
            case first =>
              rcases hcap with ⟨hcap, hcap2⟩ | ⟨hcap, hys⟩
              · have hsrc : SrcAt (wo.alloc (.cells #[.int .i64 0, .int .i64 yn, .int .i64 0, .string ⟨#[]⟩, .slice ya ax.length yc, .int .i64 yd] 62)) (.slice (some ⟨g, (xs.length + 1) * 6, none⟩) (xs.length + (ys.length + 1) - (xs.length + 1)) (cap - (xs.length + 1))) ys.length (dflat ys) := by
                  rw [show xs.length + (ys.length + 1) - (xs.length + 1) = ys.length from by omega]
                  have h0 := HOWN.out
                  rw [show xs ++ ⟨0, yn, 0, ⟨#[]⟩, ya, ax.length, yc, yd⟩ :: ys = (xs ++ [⟨0, yn, 0, ⟨#[]⟩, ya, ax.length, yc, yd⟩]) ++ ys from by simp] at h0
                  have h1 := (OwnsD.tail h0 (by simp; omega) (cap - (xs.length + 1))).alloc (.cells #[.int .i64 0, .int .i64 yn, .int .i64 0, .string ⟨#[]⟩, .slice ya ax.length yc, .int .i64 yd] 62)
                  rw [List.length_append] at h1
                  exact h1
                have HSRC := Lf.hide hsrc
                clear hsrc
                go_wp2_with (at_builtin; refine appD (wo.heap.size + 1) [] ys _ (.slice none 0 0) _ rfl (.const (.slice none 0 0)) (.tmp 108) rfl rfl rfl HSRC.out (World.ownsRow_nil _ _ _ _) (by simp) (by simp; omega) ?_; intro v' w' ho' hg' _; have HO := Lf.hide ho'; have HGG := Lf.hide hg'; clear ho' hg')
                go_meet
                exact ⟨HO.out, HGG.out.1⟩
              · obtain rfl : ys = [] := List.eq_nil_of_length_eq_zero hys
                subst hcap
                have HSRC : Hid (∀ c m, m = 0 → SrcAt (wo.alloc (.cells #[.int .i64 0, .int .i64 yn, .int .i64 0, .string ⟨#[]⟩, .slice ya ax.length yc, .int .i64 yd] 62)) (.slice (some ⟨g, 0, none⟩) m c) 0 []) := fun c m hm => by subst hm; exact .inr ⟨_, _, rfl, fun j u hu => by simp at hu⟩
                go_wp2_with (at_builtin; refine appD (wo.heap.size + 1) [] [] _ (.slice none 0 0) _ rfl (.const (.slice none 0 0)) (.tmp 108) rfl rfl rfl (HSRC.out _ _ (by simp)) (World.ownsRow_nil _ _ _ _) (by simp) (by simp) ?_; intro v' w' ho' hg' _; have HO := Lf.hide ho'; have HGG := Lf.hide hg'; clear ho' hg')
                go_meet
                exact ⟨HO.out, HGG.out.1⟩
            case rest =>
              obtain ⟨hrest, hgx⟩ := hcut
              have hcap3 : xs.length + 1 ≤ cap := by omega
              have HREST := Lf.hide hrest
              have HGX := Lf.hide hgx
              have hbx : wc.heap[wo.heap.size]? = some (.cells #[.int .i64 0, .int .i64 yn, .int .i64 0, .string ⟨#[]⟩, .slice ya ax.length yc, .int .i64 yd] 62 (0, 0)) := (hgx.block _ (by simp) (by simp)).trans (heap_alloc_new _ _)
              have HBX := Lf.hide hbx
              obtain ⟨x0, x1, x2, x3, x4, x5⟩ := box6 hbx
              clear hrest hgx hbx
              go_wp2_with fail
              go_loopw [3, 118] (fun rv iv wz => ∃ (j : Nat) (zs : List Dp), j ≤ ax.length ∧ iv = .int .i64 j ∧ zs.length = j ∧ OwnsD W.heap.size wz rv (xs ++ [⟨0, yn, 0, ⟨#[]⟩, ya, ax.length, yc, yd⟩] ++ zs) ∧ rv ≠ .slice none 0 0 ∧ RowOf w (kids yd (ax.take j)) zs ∧ OwnsD (wo.heap.size + 1) wz u6 ys ∧ (u6.ownBlock = none ∨ u6.ownBlock ≠ rv.ownBlock) ∧ some wo.heap.size ≠ rv.ownBlock ∧ W.grownBy wz none ∧ wz.heap[wo.heap.size]? = some (.cells #[.int .i64 0, .int .i64 yn, .int .i64 0, .string ⟨#[]⟩, .slice ya ax.length yc, .int .i64 yd] 62 (0, 0))) (fun _ iv _ => ax.length - (intOf iv).toNat)
              case atStart =>
                have h0 : OwnsD W.heap.size wc (.slice (some ⟨g, 0, none⟩) (xs.length + (ys.length + 1)) cap) ((xs ++ [⟨0, yn, 0, ⟨#[]⟩, ya, ax.length, yc, yd⟩]) ++ ys) := by
                  have h1 := World.ownsRow.kept (World.ownsRow.alloc HOWN.out (.cells #[.int .i64 0, .int .i64 yn, .int .i64 0, .string ⟨#[]⟩, .slice ya ax.length yc, .int .i64 yd] 62)) HGX.out (.inr (by simp [Value.ownBlock]))
                  rw [List.append_assoc]; exact h1
                have h1 := OwnsD.cut h0
                rw [List.length_append] at h1
                refine ⟨0, [], Nat.zero_le _, rfl, rfl, by rw [List.append_nil]; exact h1, by simp, trivial, HREST.out, ?_, (by have hz2 := (World.ownsRow.lt HOWN.out g rfl).2; simp [Value.ownBlock]; omega), Lf.gbt (Lf.gbt HGR.out (Lf.gb _)) HGX.out, HBX.out⟩
                cases hu : u6.ownBlock with
                | none => exact .inl rfl
                | some z =>
                  right
                  have hz1 := (World.ownsRow.lt HREST.out z hu).1
                  have hz2 := (World.ownsRow.lt HOWN.out g rfl).2
                  simp [Value.ownBlock]; omega
              case round =>
                obtain ⟨j, zs, hj, rfl, hzl, ho, hne, hro, hre, hbl, hxb, hgz, hbx⟩ := hrel
                obtain ⟨x0, x1, x2, x3, x4, x5⟩ := box6 hbx
                have hszs : xs.length + 1 + zs.length + ys.length ≤ 2000000 := by
                  have h1 := length_le_sizes ax
                  have h2 := HS.out
                  have h3 := HZ.out
                  simp only [szW, Tr.size] at h2
                  have h4 := len_szW L
                  have h5 := RowOf.len HROW.out
                  omega
                have HO := Lf.hide ho
                have HRO := Lf.hide hro
                have HRE := Lf.hide hre
                have HBL := Lf.hide hbl
                have HXB := Lf.hide hxb
                have HGZ := Lf.hide hgz
                have HNE := Lf.hide hne
                have HBX2 := Lf.hide hbx
                clear ho hro hre hbl hgz hbx hne hxb
                by_cases hlt : j < ax.length
                · exact absurd hlt (by have := HAL.out; omega)
                · have hje : j = ax.length := by omega
                  have HJE := Lf.hide hje
                  have hB4 : W.heap.size ≤ wr.heap.size := HGZ.out.size
                  have HL4 : Hid ((xs ++ [(⟨0, yn, 0, ⟨#[]⟩, ya, ax.length, yc, yd⟩ : Dp)] ++ zs).length + ys.length ≤ 100000000) := by show _ ≤ _; simp; omega
                  have HSRC2 := Lf.hide (own_src HRE.out)
                  go_wp2_with (at_builtin; refine appD W.heap.size (xs ++ [(⟨0, yn, 0, ⟨#[]⟩, ya, ax.length, yc, yd⟩ : Dp)] ++ zs) ys _ u3 u6 rfl (.tmp 131) (.tmp 132) rfl rfl rfl HSRC2.out HO.out hB4 HL4.out ?_; intro v' w' ho' hg' hn'; have HO2 := Lf.hide ho'; have HGG := Lf.hide hg'; have HN2 := Lf.hide hn'; clear ho' hg' hn')
                  obtain ⟨g2, cap2, hv2, _, _⟩ := own_form HO2.out (fun e => HNE.out (HN2.out.1 e).1)
                  have hro := HRO.out
                  rw [HJE.out, List.take_length] at hro
                  have hst := szW_step (d := yd) (k := 0) (n := yn) (p := 0) (s := ⟨#[]⟩) (args := ax) (l := L)
                  refine ⟨⟨xs ++ [⟨0, yn, 0, ⟨#[]⟩, ya, ax.length, yc, yd⟩], zs ++ ys, kids yd ax ++ L, g2, cap2, ?_, by simp, ?_, RowOf.append hro HROW.out, HST.out, ?_, grow_own HGZ.out HO.out (Nat.le_refl _) HGG.out.1⟩, ?_⟩
                  · rw [hv2]; simp; omega
                  · rw [← List.append_assoc]; exact HO2.out
                  · have h2 := HS.out
                    rw [hst] at h2
                    simp; omega
                  · have h2 := HS.out
                    rw [hst] at h2
                    simp [intOf]; omega
          · have he : yn = 0 ∧ yp = 0 ∧ ax.length = 0 := by
              rw [gmore1, decide_eq_false_iff_not] at hm
              exact ⟨by omega, by omega, by omega⟩
            obtain ⟨rfl, rfl, hal⟩ := he
            have HAL := Lf.hide hal
            have hal2 : (ax.length : Int) = 0 := by omega
            clear hal hm hp hk
            go_wp2_with fail
            refine (HRI.out _).mono ?_; rintro e w1 ⟨rfl, rfl⟩
            go_upto_region 16 with (fail)
            go_cut [6] (fun rv wx => OwnsD (wo.heap.size + 1) wx rv ys ∧ (wo.alloc (.cells #[.int .i64 1, .int .i64 0, .int .i64 0, .string ys', .slice ya ax.length yc, .int .i64 yd] 62)).grownBy wx none)
            case first =>
              rcases hcap with ⟨hcap, hcap2⟩ | ⟨hcap, hys⟩
              · have hsrc : SrcAt (wo.alloc (.cells #[.int .i64 1, .int .i64 0, .int .i64 0, .string ys', .slice ya ax.length yc, .int .i64 yd] 62)) (.slice (some ⟨g, (xs.length + 1) * 6, none⟩) (xs.length + (ys.length + 1) - (xs.length + 1)) (cap - (xs.length + 1))) ys.length (dflat ys) := by
                  rw [show xs.length + (ys.length + 1) - (xs.length + 1) = ys.length from by omega]
                  have h0 := HOWN.out
                  rw [show xs ++ ⟨1, 0, 0, ys', ya, ax.length, yc, yd⟩ :: ys = (xs ++ [⟨1, 0, 0, ys', ya, ax.length, yc, yd⟩]) ++ ys from by simp] at h0
                  have h1 := (OwnsD.tail h0 (by simp; omega) (cap - (xs.length + 1))).alloc (.cells #[.int .i64 1, .int .i64 0, .int .i64 0, .string ys', .slice ya ax.length yc, .int .i64 yd] 62)
                  rw [List.length_append] at h1
                  exact h1
                have HSRC := Lf.hide hsrc
                clear hsrc
                go_wp2_with (at_builtin; refine appD (wo.heap.size + 1) [] ys _ (.slice none 0 0) _ rfl (.const (.slice none 0 0)) (.tmp 108) rfl rfl rfl HSRC.out (World.ownsRow_nil _ _ _ _) (by simp) (by simp; omega) ?_; intro v' w' ho' hg' _; have HO := Lf.hide ho'; have HGG := Lf.hide hg'; clear ho' hg')
                go_meet
                exact ⟨HO.out, HGG.out.1⟩
              · obtain rfl : ys = [] := List.eq_nil_of_length_eq_zero hys
                subst hcap
                have HSRC : Hid (∀ c m, m = 0 → SrcAt (wo.alloc (.cells #[.int .i64 1, .int .i64 0, .int .i64 0, .string ys', .slice ya ax.length yc, .int .i64 yd] 62)) (.slice (some ⟨g, 0, none⟩) m c) 0 []) := fun c m hm => by subst hm; exact .inr ⟨_, _, rfl, fun j u hu => by simp at hu⟩
                go_wp2_with (at_builtin; refine appD (wo.heap.size + 1) [] [] _ (.slice none 0 0) _ rfl (.const (.slice none 0 0)) (.tmp 108) rfl rfl rfl (HSRC.out _ _ (by simp)) (World.ownsRow_nil _ _ _ _) (by simp) (by simp) ?_; intro v' w' ho' hg' _; have HO := Lf.hide ho'; have HGG := Lf.hide hg'; clear ho' hg')
                go_meet
                exact ⟨HO.out, HGG.out.1⟩
            case rest =>
              obtain ⟨hrest, hgx⟩ := hcut
              have hcap3 : xs.length + 1 ≤ cap := by omega
              have HREST := Lf.hide hrest
              have HGX := Lf.hide hgx
              have hbx : wc.heap[wo.heap.size]? = some (.cells #[.int .i64 1, .int .i64 0, .int .i64 0, .string ys', .slice ya ax.length yc, .int .i64 yd] 62 (0, 0)) := (hgx.block _ (by simp) (by simp)).trans (heap_alloc_new _ _)
              have HBX := Lf.hide hbx
              obtain ⟨x0, x1, x2, x3, x4, x5⟩ := box6 hbx
              clear hrest hgx hbx
              go_wp2_with fail
              go_loopw [3, 118] (fun rv iv wz => ∃ (j : Nat) (zs : List Dp), j ≤ ax.length ∧ iv = .int .i64 j ∧ zs.length = j ∧ OwnsD W.heap.size wz rv (xs ++ [⟨1, 0, 0, ys', ya, ax.length, yc, yd⟩] ++ zs) ∧ rv ≠ .slice none 0 0 ∧ RowOf w (kids yd (ax.take j)) zs ∧ OwnsD (wo.heap.size + 1) wz u6 ys ∧ (u6.ownBlock = none ∨ u6.ownBlock ≠ rv.ownBlock) ∧ some wo.heap.size ≠ rv.ownBlock ∧ W.grownBy wz none ∧ wz.heap[wo.heap.size]? = some (.cells #[.int .i64 1, .int .i64 0, .int .i64 0, .string ys', .slice ya ax.length yc, .int .i64 yd] 62 (0, 0))) (fun _ iv _ => ax.length - (intOf iv).toNat)
              case atStart =>
                have h0 : OwnsD W.heap.size wc (.slice (some ⟨g, 0, none⟩) (xs.length + (ys.length + 1)) cap) ((xs ++ [⟨1, 0, 0, ys', ya, ax.length, yc, yd⟩]) ++ ys) := by
                  have h1 := World.ownsRow.kept (World.ownsRow.alloc HOWN.out (.cells #[.int .i64 1, .int .i64 0, .int .i64 0, .string ys', .slice ya ax.length yc, .int .i64 yd] 62)) HGX.out (.inr (by simp [Value.ownBlock]))
                  rw [List.append_assoc]; exact h1
                have h1 := OwnsD.cut h0
                rw [List.length_append] at h1
                refine ⟨0, [], Nat.zero_le _, rfl, rfl, by rw [List.append_nil]; exact h1, by simp, trivial, HREST.out, ?_, (by have hz2 := (World.ownsRow.lt HOWN.out g rfl).2; simp [Value.ownBlock]; omega), Lf.gbt (Lf.gbt HGR.out (Lf.gb _)) HGX.out, HBX.out⟩
                cases hu : u6.ownBlock with
                | none => exact .inl rfl
                | some z =>
                  right
                  have hz1 := (World.ownsRow.lt HREST.out z hu).1
                  have hz2 := (World.ownsRow.lt HOWN.out g rfl).2
                  simp [Value.ownBlock]; omega
              case round =>
                obtain ⟨j, zs, hj, rfl, hzl, ho, hne, hro, hre, hbl, hxb, hgz, hbx⟩ := hrel
                obtain ⟨x0, x1, x2, x3, x4, x5⟩ := box6 hbx
                have hszs : xs.length + 1 + zs.length + ys.length ≤ 2000000 := by
                  have h1 := length_le_sizes ax
                  have h2 := HS.out
                  have h3 := HZ.out
                  simp only [szW, Tr.size] at h2
                  have h4 := len_szW L
                  have h5 := RowOf.len HROW.out
                  omega
                have HO := Lf.hide ho
                have HRO := Lf.hide hro
                have HRE := Lf.hide hre
                have HBL := Lf.hide hbl
                have HXB := Lf.hide hxb
                have HGZ := Lf.hide hgz
                have HNE := Lf.hide hne
                have HBX2 := Lf.hide hbx
                clear ho hro hre hbl hgz hbx hne hxb
                by_cases hlt : j < ax.length
                · exact absurd hlt (by have := HAL.out; omega)
                · have hje : j = ax.length := by omega
                  have HJE := Lf.hide hje
                  have hB4 : W.heap.size ≤ wr.heap.size := HGZ.out.size
                  have HL4 : Hid ((xs ++ [(⟨1, 0, 0, ys', ya, ax.length, yc, yd⟩ : Dp)] ++ zs).length + ys.length ≤ 100000000) := by show _ ≤ _; simp; omega
                  have HSRC2 := Lf.hide (own_src HRE.out)
                  go_wp2_with (at_builtin; refine appD W.heap.size (xs ++ [(⟨1, 0, 0, ys', ya, ax.length, yc, yd⟩ : Dp)] ++ zs) ys _ u3 u6 rfl (.tmp 131) (.tmp 132) rfl rfl rfl HSRC2.out HO.out hB4 HL4.out ?_; intro v' w' ho' hg' hn'; have HO2 := Lf.hide ho'; have HGG := Lf.hide hg'; have HN2 := Lf.hide hn'; clear ho' hg' hn')
                  obtain ⟨g2, cap2, hv2, _, _⟩ := own_form HO2.out (fun e => HNE.out (HN2.out.1 e).1)
                  have hro := HRO.out
                  rw [HJE.out, List.take_length] at hro
                  have hst := szW_step (d := yd) (k := 1) (n := 0) (p := 0) (s := ys') (args := ax) (l := L)
                  refine ⟨⟨xs ++ [⟨1, 0, 0, ys', ya, ax.length, yc, yd⟩], zs ++ ys, kids yd ax ++ L, g2, cap2, ?_, by simp, ?_, RowOf.append hro HROW.out, HST.out, ?_, grow_own HGZ.out HO.out (Nat.le_refl _) HGG.out.1⟩, ?_⟩
                  · rw [hv2]; simp; omega
                  · rw [← List.append_assoc]; exact HO2.out
                  · have h2 := HS.out
                    rw [hst] at h2
                    simp; omega
                  · have h2 := HS.out
                    rw [hst] at h2
                    simp [intOf]; omega
          · have he : yn = 0 ∧ ys' = ⟨#[]⟩ := by
              rw [gmore2, decide_eq_false_iff_not] at hm
              exact ⟨by omega, HSZ.out (by omega)⟩
            obtain ⟨rfl, rfl⟩ := he
            rw [hp rfl] at HRP
            clear hm hp hk
            go_wp2_with fail
            refine (HRP.out _).mono ?_; rintro e w1 ⟨rfl, rfl⟩
            go_wp2_with fail
            refine (HRI.out _).mono ?_; rintro e w1 ⟨rfl, rfl⟩
            go_upto_region 16 with (fail)
            go_cut [6] (fun rv wx => OwnsD (wo.heap.size + 1) wx rv ys ∧ (wo.alloc (.cells #[.int .i64 2, .int .i64 0, .int .i64 yp, .string ⟨#[]⟩, .slice ya ax.length yc, .int .i64 yd] 62)).grownBy wx none)
            case first =>
              rcases hcap with ⟨hcap, hcap2⟩ | ⟨hcap, hys⟩
              · have hsrc : SrcAt (wo.alloc (.cells #[.int .i64 2, .int .i64 0, .int .i64 yp, .string ⟨#[]⟩, .slice ya ax.length yc, .int .i64 yd] 62)) (.slice (some ⟨g, (xs.length + 1) * 6, none⟩) (xs.length + (ys.length + 1) - (xs.length + 1)) (cap - (xs.length + 1))) ys.length (dflat ys) := by
                  rw [show xs.length + (ys.length + 1) - (xs.length + 1) = ys.length from by omega]
                  have h0 := HOWN.out
                  rw [show xs ++ ⟨2, 0, yp, ⟨#[]⟩, ya, ax.length, yc, yd⟩ :: ys = (xs ++ [⟨2, 0, yp, ⟨#[]⟩, ya, ax.length, yc, yd⟩]) ++ ys from by simp] at h0
                  have h1 := (OwnsD.tail h0 (by simp; omega) (cap - (xs.length + 1))).alloc (.cells #[.int .i64 2, .int .i64 0, .int .i64 yp, .string ⟨#[]⟩, .slice ya ax.length yc, .int .i64 yd] 62)
                  rw [List.length_append] at h1
                  exact h1
                have HSRC := Lf.hide hsrc
                clear hsrc
                go_wp2_with (at_builtin; refine appD (wo.heap.size + 1) [] ys _ (.slice none 0 0) _ rfl (.const (.slice none 0 0)) (.tmp 108) rfl rfl rfl HSRC.out (World.ownsRow_nil _ _ _ _) (by simp) (by simp; omega) ?_; intro v' w' ho' hg' _; have HO := Lf.hide ho'; have HGG := Lf.hide hg'; clear ho' hg')
                go_meet
                exact ⟨HO.out, HGG.out.1⟩
              · obtain rfl : ys = [] := List.eq_nil_of_length_eq_zero hys
                subst hcap
                have HSRC : Hid (∀ c m, m = 0 → SrcAt (wo.alloc (.cells #[.int .i64 2, .int .i64 0, .int .i64 yp, .string ⟨#[]⟩, .slice ya ax.length yc, .int .i64 yd] 62)) (.slice (some ⟨g, 0, none⟩) m c) 0 []) := fun c m hm => by subst hm; exact .inr ⟨_, _, rfl, fun j u hu => by simp at hu⟩
                go_wp2_with (at_builtin; refine appD (wo.heap.size + 1) [] [] _ (.slice none 0 0) _ rfl (.const (.slice none 0 0)) (.tmp 108) rfl rfl rfl (HSRC.out _ _ (by simp)) (World.ownsRow_nil _ _ _ _) (by simp) (by simp) ?_; intro v' w' ho' hg' _; have HO := Lf.hide ho'; have HGG := Lf.hide hg'; clear ho' hg')
                go_meet
                exact ⟨HO.out, HGG.out.1⟩
            case rest =>
              obtain ⟨hrest, hgx⟩ := hcut
              have hcap3 : xs.length + 1 ≤ cap := by omega
              have HREST := Lf.hide hrest
              have HGX := Lf.hide hgx
              have hbx : wc.heap[wo.heap.size]? = some (.cells #[.int .i64 2, .int .i64 0, .int .i64 yp, .string ⟨#[]⟩, .slice ya ax.length yc, .int .i64 yd] 62 (0, 0)) := (hgx.block _ (by simp) (by simp)).trans (heap_alloc_new _ _)
              have HBX := Lf.hide hbx
              obtain ⟨x0, x1, x2, x3, x4, x5⟩ := box6 hbx
              clear hrest hgx hbx
              go_wp2_with fail
              go_loopw [3, 118] (fun rv iv wz => ∃ (j : Nat) (zs : List Dp), j ≤ ax.length ∧ iv = .int .i64 j ∧ zs.length = j ∧ OwnsD W.heap.size wz rv (xs ++ [⟨2, 0, yp, ⟨#[]⟩, ya, ax.length, yc, yd⟩] ++ zs) ∧ rv ≠ .slice none 0 0 ∧ RowOf w (kids yd (ax.take j)) zs ∧ OwnsD (wo.heap.size + 1) wz u6 ys ∧ (u6.ownBlock = none ∨ u6.ownBlock ≠ rv.ownBlock) ∧ some wo.heap.size ≠ rv.ownBlock ∧ W.grownBy wz none ∧ wz.heap[wo.heap.size]? = some (.cells #[.int .i64 2, .int .i64 0, .int .i64 yp, .string ⟨#[]⟩, .slice ya ax.length yc, .int .i64 yd] 62 (0, 0))) (fun _ iv _ => ax.length - (intOf iv).toNat)
              case atStart =>
                have h0 : OwnsD W.heap.size wc (.slice (some ⟨g, 0, none⟩) (xs.length + (ys.length + 1)) cap) ((xs ++ [⟨2, 0, yp, ⟨#[]⟩, ya, ax.length, yc, yd⟩]) ++ ys) := by
                  have h1 := World.ownsRow.kept (World.ownsRow.alloc HOWN.out (.cells #[.int .i64 2, .int .i64 0, .int .i64 yp, .string ⟨#[]⟩, .slice ya ax.length yc, .int .i64 yd] 62)) HGX.out (.inr (by simp [Value.ownBlock]))
                  rw [List.append_assoc]; exact h1
                have h1 := OwnsD.cut h0
                rw [List.length_append] at h1
                refine ⟨0, [], Nat.zero_le _, rfl, rfl, by rw [List.append_nil]; exact h1, by simp, trivial, HREST.out, ?_, (by have hz2 := (World.ownsRow.lt HOWN.out g rfl).2; simp [Value.ownBlock]; omega), Lf.gbt (Lf.gbt HGR.out (Lf.gb _)) HGX.out, HBX.out⟩
                cases hu : u6.ownBlock with
                | none => exact .inl rfl
                | some z =>
                  right
                  have hz1 := (World.ownsRow.lt HREST.out z hu).1
                  have hz2 := (World.ownsRow.lt HOWN.out g rfl).2
                  simp [Value.ownBlock]; omega
              case round =>
                obtain ⟨j, zs, hj, rfl, hzl, ho, hne, hro, hre, hbl, hxb, hgz, hbx⟩ := hrel
                obtain ⟨x0, x1, x2, x3, x4, x5⟩ := box6 hbx
                have hszs : xs.length + 1 + zs.length + ys.length ≤ 2000000 := by
                  have h1 := length_le_sizes ax
                  have h2 := HS.out
                  have h3 := HZ.out
                  simp only [szW, Tr.size] at h2
                  have h4 := len_szW L
                  have h5 := RowOf.len HROW.out
                  omega
                have HO := Lf.hide ho
                have HRO := Lf.hide hro
                have HRE := Lf.hide hre
                have HBL := Lf.hide hbl
                have HXB := Lf.hide hxb
                have HGZ := Lf.hide hgz
                have HNE := Lf.hide hne
                have HBX2 := Lf.hide hbx
                clear ho hro hre hbl hgz hbx hne hxb
                by_cases hlt : j < ax.length
                · obtain ⟨b1, o1, rfl, _, k1, n1, p1, s1, a1, l1, c1, hv1, e0, e1, e2, e3, e4⟩ := (HCA.out j hlt).same (same_all (Lf.gbt HW.out HGZ.out))
                  have hLk := HRA.out j hlt
                  rw [hv1] at hLk
                  have HLK := Lf.hide hLk
                  clear hLk hv1
                  have hB3 : W.heap.size ≤ wo.heap.size := HGR.out.size
                  have hlt2 : wo.heap.size < wr.heap.size := (Array.getElem?_eq_some_iff.1 HBX2.out).1
                  have HOA := Lf.hide (World.ownsRow.alloc (World.ownsRow.alloc HO.out (.cells #[.int .i64 k1, .int .i64 n1, .int .i64 p1, .string s1, .slice a1 l1 c1] 30)) (.cells #[.int .i64 k1, .int .i64 n1, .int .i64 p1, .string s1, .slice a1 l1 c1, .int .i64 ((yd : Int) + 1)] 62))
                  have HSRC := Lf.hide (SrcAt.new (wr.alloc (.cells #[.int .i64 k1, .int .i64 n1, .int .i64 p1, .string s1, .slice a1 l1 c1] 30)) 62 #[.int .i64 k1, .int .i64 n1, .int .i64 p1, .string s1, .slice a1 l1 c1, .int .i64 ((yd : Int) + 1)] 1 1)
                  rw [show (wr.alloc (.cells #[.int .i64 k1, .int .i64 n1, .int .i64 p1, .string s1, .slice a1 l1 c1] 30)).heap.size = wr.heap.size + 1 from by simp] at HSRC
                  have HGA := Lf.hide (Lf.gbt (Lf.gb (w := wr) (.cells #[.int .i64 k1, .int .i64 n1, .int .i64 p1, .string s1, .slice a1 l1 c1] 30)) (Lf.gb (.cells #[.int .i64 k1, .int .i64 n1, .int .i64 p1, .string s1, .slice a1 l1 c1, .int .i64 ((yd : Int) + 1)] 62)))
                  have HSRC2 : Hid (SrcAt ((wr.alloc (.cells #[.int .i64 k1, .int .i64 n1, .int .i64 p1, .string s1, .slice a1 l1 c1] 30)).alloc (.cells #[.int .i64 k1, .int .i64 n1, .int .i64 p1, .string s1, .slice a1 l1 c1, .int .i64 ((yd : Int) + 1)] 62)) (.slice (some ⟨wr.heap.size + 1, 0, none⟩) 1 1) ([⟨k1, n1, p1, s1, a1, l1, c1, yd + 1⟩] : List Dp).length (dflat [⟨k1, n1, p1, s1, a1, l1, c1, yd + 1⟩])) := HSRC.out
                  have hB4 : W.heap.size ≤ ((wr.alloc (.cells #[.int .i64 k1, .int .i64 n1, .int .i64 p1, .string s1, .slice a1 l1 c1] 30)).alloc (.cells #[.int .i64 k1, .int .i64 n1, .int .i64 p1, .string s1, .slice a1 l1 c1, .int .i64 ((yd : Int) + 1)] 62)).heap.size := by simp; omega
                  have HB4 := Lf.hide hB4
                  have HL4 : Hid ((xs ++ [(⟨2, 0, yp, ⟨#[]⟩, some ⟨b1, o1, none⟩, ax.length, yc, yd⟩ : Dp)] ++ zs).length + ([⟨k1, n1, p1, s1, a1, l1, c1, yd + 1⟩] : List Dp).length ≤ 100000000) := by show _ ≤ _; simp; omega
                  clear hB4
                  go_wp2_with (at_builtin; refine appD W.heap.size (xs ++ [(⟨2, 0, yp, ⟨#[]⟩, some ⟨b1, o1, none⟩, ax.length, yc, yd⟩ : Dp)] ++ zs) [(⟨k1, n1, p1, s1, a1, l1, c1, yd + 1⟩ : Dp)] _ u3 (.slice (some ⟨wr.heap.size + 1, 0, none⟩) 1 1) rfl (.tmp 122) (.tmp 128) rfl rfl rfl HSRC2.out HOA.out HB4.out HL4.out ?_; intro v' w' ho' hg' hn'; have HO2 := Lf.hide ho'; have HGG := Lf.hide hg'; have HN2 := Lf.hide hn'; clear ho' hg' hn')
                  go_roundw
                  case rel =>
                    have hblk : ∀ z, z < wr.heap.size → some z ≠ u3.ownBlock → w'.heap[z]? = wr.heap[z]? := fun z hz1 hz2 => (HGG.out.block (k := z) (by simp; omega) hz2).trans (HGA.out.block z hz1 (by simp))
                    refine ⟨j + 1, zs ++ [⟨k1, n1, p1, s1, a1, l1, c1, yd + 1⟩], by omega, by go_num, by simp [hzl], by rw [← List.append_assoc]; exact HO2.out, fun e => HNE.out (HN2.out.1 e).1, ?_, ?_, ?_, ?_, ?_, ?_⟩
                    · rw [kids_take_succ _ _ _ hlt]
                      exact RowOf.append HRO.out ⟨⟨rfl, HLK.out⟩, trivial⟩
                    · exact OwnsD.keep (World.ownsRow.alloc (World.ownsRow.alloc HRE.out _) _) HGG.out HBL.out
                    · rcases HBL.out with h | h
                      · exact .inl h
                      · rcases HGG.out.2 with h2 | ⟨g2, h2, h3⟩
                        · right; rw [h2]; exact h
                        · cases hu : u6.ownBlock with
                          | none => exact .inl rfl
                          | some z =>
                            right; rw [h2]
                            have := (World.ownsRow.lt HRE.out z hu).2
                            simp at h3 ⊢; omega
                    · rcases HGG.out.2 with h2 | ⟨g2, h2, h3⟩
                      · rw [h2]; exact HXB.out
                      · rw [h2]; simp at h3 ⊢; omega
                    · exact grow_own (Lf.gbt HGZ.out HGA.out) HOA.out (Nat.le_refl _) HGG.out.1
                    · rw [hblk _ hlt2 HXB.out]; exact HBX2.out
                  case measure => simp [intOf]; omega
                · have hje : j = ax.length := by omega
                  have HJE := Lf.hide hje
                  have hB4 : W.heap.size ≤ wr.heap.size := HGZ.out.size
                  have HL4 : Hid ((xs ++ [(⟨2, 0, yp, ⟨#[]⟩, ya, ax.length, yc, yd⟩ : Dp)] ++ zs).length + ys.length ≤ 100000000) := by show _ ≤ _; simp; omega
                  have HSRC2 := Lf.hide (own_src HRE.out)
                  go_wp2_with (at_builtin; refine appD W.heap.size (xs ++ [(⟨2, 0, yp, ⟨#[]⟩, ya, ax.length, yc, yd⟩ : Dp)] ++ zs) ys _ u3 u6 rfl (.tmp 131) (.tmp 132) rfl rfl rfl HSRC2.out HO.out hB4 HL4.out ?_; intro v' w' ho' hg' hn'; have HO2 := Lf.hide ho'; have HGG := Lf.hide hg'; have HN2 := Lf.hide hn'; clear ho' hg' hn')
                  obtain ⟨g2, cap2, hv2, _, _⟩ := own_form HO2.out (fun e => HNE.out (HN2.out.1 e).1)
                  have hro := HRO.out
                  rw [HJE.out, List.take_length] at hro
                  have hst := szW_step (d := yd) (k := 2) (n := 0) (p := yp) (s := ⟨#[]⟩) (args := ax) (l := L)
                  refine ⟨⟨xs ++ [⟨2, 0, yp, ⟨#[]⟩, ya, ax.length, yc, yd⟩], zs ++ ys, kids yd ax ++ L, g2, cap2, ?_, by simp, ?_, RowOf.append hro HROW.out, HST.out, ?_, grow_own HGZ.out HO.out (Nat.le_refl _) HGG.out.1⟩, ?_⟩
                  · rw [hv2]; simp; omega
                  · rw [← List.append_assoc]; exact HO2.out
                  · have h2 := HS.out
                    rw [hst] at h2
                    simp; omega
                  · have h2 := HS.out
                    rw [hst] at h2
                    simp [intOf]; omega
          · have he : yn = 0 ∧ yp = 0 ∧ ys' = ⟨#[]⟩ := by
              rw [gmore3, decide_eq_false_iff_not] at hm
              exact ⟨by omega, by omega, HSZ.out (by omega)⟩
            obtain ⟨rfl, rfl, rfl⟩ := he
            clear hm hp hk
            go_wp2_with fail
            refine (HRI.out _).mono ?_; rintro e w1 ⟨rfl, rfl⟩
            go_upto_region 16 with (fail)
            go_cut [6] (fun rv wx => OwnsD (wo.heap.size + 1) wx rv ys ∧ (wo.alloc (.cells #[.int .i64 3, .int .i64 0, .int .i64 0, .string ⟨#[]⟩, .slice ya ax.length yc, .int .i64 yd] 62)).grownBy wx none)
            case first =>
              rcases hcap with ⟨hcap, hcap2⟩ | ⟨hcap, hys⟩
              · have hsrc : SrcAt (wo.alloc (.cells #[.int .i64 3, .int .i64 0, .int .i64 0, .string ⟨#[]⟩, .slice ya ax.length yc, .int .i64 yd] 62)) (.slice (some ⟨g, (xs.length + 1) * 6, none⟩) (xs.length + (ys.length + 1) - (xs.length + 1)) (cap - (xs.length + 1))) ys.length (dflat ys) := by
                  rw [show xs.length + (ys.length + 1) - (xs.length + 1) = ys.length from by omega]
                  have h0 := HOWN.out
                  rw [show xs ++ ⟨3, 0, 0, ⟨#[]⟩, ya, ax.length, yc, yd⟩ :: ys = (xs ++ [⟨3, 0, 0, ⟨#[]⟩, ya, ax.length, yc, yd⟩]) ++ ys from by simp] at h0
                  have h1 := (OwnsD.tail h0 (by simp; omega) (cap - (xs.length + 1))).alloc (.cells #[.int .i64 3, .int .i64 0, .int .i64 0, .string ⟨#[]⟩, .slice ya ax.length yc, .int .i64 yd] 62)
                  rw [List.length_append] at h1
                  exact h1
                have HSRC := Lf.hide hsrc
                clear hsrc
                go_wp2_with (at_builtin; refine appD (wo.heap.size + 1) [] ys _ (.slice none 0 0) _ rfl (.const (.slice none 0 0)) (.tmp 108) rfl rfl rfl HSRC.out (World.ownsRow_nil _ _ _ _) (by simp) (by simp; omega) ?_; intro v' w' ho' hg' _; have HO := Lf.hide ho'; have HGG := Lf.hide hg'; clear ho' hg')
                go_meet
                exact ⟨HO.out, HGG.out.1⟩
              · obtain rfl : ys = [] := List.eq_nil_of_length_eq_zero hys
                subst hcap
                have HSRC : Hid (∀ c m, m = 0 → SrcAt (wo.alloc (.cells #[.int .i64 3, .int .i64 0, .int .i64 0, .string ⟨#[]⟩, .slice ya ax.length yc, .int .i64 yd] 62)) (.slice (some ⟨g, 0, none⟩) m c) 0 []) := fun c m hm => by subst hm; exact .inr ⟨_, _, rfl, fun j u hu => by simp at hu⟩
                go_wp2_with (at_builtin; refine appD (wo.heap.size + 1) [] [] _ (.slice none 0 0) _ rfl (.const (.slice none 0 0)) (.tmp 108) rfl rfl rfl (HSRC.out _ _ (by simp)) (World.ownsRow_nil _ _ _ _) (by simp) (by simp) ?_; intro v' w' ho' hg' _; have HO := Lf.hide ho'; have HGG := Lf.hide hg'; clear ho' hg')
                go_meet
                exact ⟨HO.out, HGG.out.1⟩
            case rest =>
              obtain ⟨hrest, hgx⟩ := hcut
              have hcap3 : xs.length + 1 ≤ cap := by omega
              have HREST := Lf.hide hrest
              have HGX := Lf.hide hgx
              have hbx : wc.heap[wo.heap.size]? = some (.cells #[.int .i64 3, .int .i64 0, .int .i64 0, .string ⟨#[]⟩, .slice ya ax.length yc, .int .i64 yd] 62 (0, 0)) := (hgx.block _ (by simp) (by simp)).trans (heap_alloc_new _ _)
              have HBX := Lf.hide hbx
              obtain ⟨x0, x1, x2, x3, x4, x5⟩ := box6 hbx
              clear hrest hgx hbx
              go_wp2_with fail
              go_loopw [3, 118] (fun rv iv wz => ∃ (j : Nat) (zs : List Dp), j ≤ ax.length ∧ iv = .int .i64 j ∧ zs.length = j ∧ OwnsD W.heap.size wz rv (xs ++ [⟨3, 0, 0, ⟨#[]⟩, ya, ax.length, yc, yd⟩] ++ zs) ∧ rv ≠ .slice none 0 0 ∧ RowOf w (kids yd (ax.take j)) zs ∧ OwnsD (wo.heap.size + 1) wz u6 ys ∧ (u6.ownBlock = none ∨ u6.ownBlock ≠ rv.ownBlock) ∧ some wo.heap.size ≠ rv.ownBlock ∧ W.grownBy wz none ∧ wz.heap[wo.heap.size]? = some (.cells #[.int .i64 3, .int .i64 0, .int .i64 0, .string ⟨#[]⟩, .slice ya ax.length yc, .int .i64 yd] 62 (0, 0))) (fun _ iv _ => ax.length - (intOf iv).toNat)
              case atStart =>
                have h0 : OwnsD W.heap.size wc (.slice (some ⟨g, 0, none⟩) (xs.length + (ys.length + 1)) cap) ((xs ++ [⟨3, 0, 0, ⟨#[]⟩, ya, ax.length, yc, yd⟩]) ++ ys) := by
                  have h1 := World.ownsRow.kept (World.ownsRow.alloc HOWN.out (.cells #[.int .i64 3, .int .i64 0, .int .i64 0, .string ⟨#[]⟩, .slice ya ax.length yc, .int .i64 yd] 62)) HGX.out (.inr (by simp [Value.ownBlock]))
                  rw [List.append_assoc]; exact h1
                have h1 := OwnsD.cut h0
                rw [List.length_append] at h1
                refine ⟨0, [], Nat.zero_le _, rfl, rfl, by rw [List.append_nil]; exact h1, by simp, trivial, HREST.out, ?_, (by have hz2 := (World.ownsRow.lt HOWN.out g rfl).2; simp [Value.ownBlock]; omega), Lf.gbt (Lf.gbt HGR.out (Lf.gb _)) HGX.out, HBX.out⟩
                cases hu : u6.ownBlock with
                | none => exact .inl rfl
                | some z =>
                  right
                  have hz1 := (World.ownsRow.lt HREST.out z hu).1
                  have hz2 := (World.ownsRow.lt HOWN.out g rfl).2
                  simp [Value.ownBlock]; omega
              case round =>
                obtain ⟨j, zs, hj, rfl, hzl, ho, hne, hro, hre, hbl, hxb, hgz, hbx⟩ := hrel
                obtain ⟨x0, x1, x2, x3, x4, x5⟩ := box6 hbx
                have hszs : xs.length + 1 + zs.length + ys.length ≤ 2000000 := by
                  have h1 := length_le_sizes ax
                  have h2 := HS.out
                  have h3 := HZ.out
                  simp only [szW, Tr.size] at h2
                  have h4 := len_szW L
                  have h5 := RowOf.len HROW.out
                  omega
                have HO := Lf.hide ho
                have HRO := Lf.hide hro
                have HRE := Lf.hide hre
                have HBL := Lf.hide hbl
                have HXB := Lf.hide hxb
                have HGZ := Lf.hide hgz
                have HNE := Lf.hide hne
                have HBX2 := Lf.hide hbx
                clear ho hro hre hbl hgz hbx hne hxb
                by_cases hlt : j < ax.length
                · obtain ⟨b1, o1, rfl, _, k1, n1, p1, s1, a1, l1, c1, hv1, e0, e1, e2, e3, e4⟩ := (HCA.out j hlt).same (same_all (Lf.gbt HW.out HGZ.out))
                  have hLk := HRA.out j hlt
                  rw [hv1] at hLk
                  have HLK := Lf.hide hLk
                  clear hLk hv1
                  have hB3 : W.heap.size ≤ wo.heap.size := HGR.out.size
                  have hlt2 : wo.heap.size < wr.heap.size := (Array.getElem?_eq_some_iff.1 HBX2.out).1
                  have HOA := Lf.hide (World.ownsRow.alloc (World.ownsRow.alloc HO.out (.cells #[.int .i64 k1, .int .i64 n1, .int .i64 p1, .string s1, .slice a1 l1 c1] 30)) (.cells #[.int .i64 k1, .int .i64 n1, .int .i64 p1, .string s1, .slice a1 l1 c1, .int .i64 ((yd : Int) + 1)] 62))
                  have HSRC := Lf.hide (SrcAt.new (wr.alloc (.cells #[.int .i64 k1, .int .i64 n1, .int .i64 p1, .string s1, .slice a1 l1 c1] 30)) 62 #[.int .i64 k1, .int .i64 n1, .int .i64 p1, .string s1, .slice a1 l1 c1, .int .i64 ((yd : Int) + 1)] 1 1)
                  rw [show (wr.alloc (.cells #[.int .i64 k1, .int .i64 n1, .int .i64 p1, .string s1, .slice a1 l1 c1] 30)).heap.size = wr.heap.size + 1 from by simp] at HSRC
                  have HGA := Lf.hide (Lf.gbt (Lf.gb (w := wr) (.cells #[.int .i64 k1, .int .i64 n1, .int .i64 p1, .string s1, .slice a1 l1 c1] 30)) (Lf.gb (.cells #[.int .i64 k1, .int .i64 n1, .int .i64 p1, .string s1, .slice a1 l1 c1, .int .i64 ((yd : Int) + 1)] 62)))
                  have HSRC2 : Hid (SrcAt ((wr.alloc (.cells #[.int .i64 k1, .int .i64 n1, .int .i64 p1, .string s1, .slice a1 l1 c1] 30)).alloc (.cells #[.int .i64 k1, .int .i64 n1, .int .i64 p1, .string s1, .slice a1 l1 c1, .int .i64 ((yd : Int) + 1)] 62)) (.slice (some ⟨wr.heap.size + 1, 0, none⟩) 1 1) ([⟨k1, n1, p1, s1, a1, l1, c1, yd + 1⟩] : List Dp).length (dflat [⟨k1, n1, p1, s1, a1, l1, c1, yd + 1⟩])) := HSRC.out
                  have hB4 : W.heap.size ≤ ((wr.alloc (.cells #[.int .i64 k1, .int .i64 n1, .int .i64 p1, .string s1, .slice a1 l1 c1] 30)).alloc (.cells #[.int .i64 k1, .int .i64 n1, .int .i64 p1, .string s1, .slice a1 l1 c1, .int .i64 ((yd : Int) + 1)] 62)).heap.size := by simp; omega
                  have HB4 := Lf.hide hB4
                  have HL4 : Hid ((xs ++ [(⟨3, 0, 0, ⟨#[]⟩, some ⟨b1, o1, none⟩, ax.length, yc, yd⟩ : Dp)] ++ zs).length + ([⟨k1, n1, p1, s1, a1, l1, c1, yd + 1⟩] : List Dp).length ≤ 100000000) := by show _ ≤ _; simp; omega
                  clear hB4
                  go_wp2_with (at_builtin; refine appD W.heap.size (xs ++ [(⟨3, 0, 0, ⟨#[]⟩, some ⟨b1, o1, none⟩, ax.length, yc, yd⟩ : Dp)] ++ zs) [(⟨k1, n1, p1, s1, a1, l1, c1, yd + 1⟩ : Dp)] _ u3 (.slice (some ⟨wr.heap.size + 1, 0, none⟩) 1 1) rfl (.tmp 122) (.tmp 128) rfl rfl rfl HSRC2.out HOA.out HB4.out HL4.out ?_; intro v' w' ho' hg' hn'; have HO2 := Lf.hide ho'; have HGG := Lf.hide hg'; have HN2 := Lf.hide hn'; clear ho' hg' hn')
                  go_roundw
                  case rel =>
                    have hblk : ∀ z, z < wr.heap.size → some z ≠ u3.ownBlock → w'.heap[z]? = wr.heap[z]? := fun z hz1 hz2 => (HGG.out.block (k := z) (by simp; omega) hz2).trans (HGA.out.block z hz1 (by simp))
                    refine ⟨j + 1, zs ++ [⟨k1, n1, p1, s1, a1, l1, c1, yd + 1⟩], by omega, by go_num, by simp [hzl], by rw [← List.append_assoc]; exact HO2.out, fun e => HNE.out (HN2.out.1 e).1, ?_, ?_, ?_, ?_, ?_, ?_⟩
                    · rw [kids_take_succ _ _ _ hlt]
                      exact RowOf.append HRO.out ⟨⟨rfl, HLK.out⟩, trivial⟩
                    · exact OwnsD.keep (World.ownsRow.alloc (World.ownsRow.alloc HRE.out _) _) HGG.out HBL.out
                    · rcases HBL.out with h | h
                      · exact .inl h
                      · rcases HGG.out.2 with h2 | ⟨g2, h2, h3⟩
                        · right; rw [h2]; exact h
                        · cases hu : u6.ownBlock with
                          | none => exact .inl rfl
                          | some z =>
                            right; rw [h2]
                            have := (World.ownsRow.lt HRE.out z hu).2
                            simp at h3 ⊢; omega
                    · rcases HGG.out.2 with h2 | ⟨g2, h2, h3⟩
                      · rw [h2]; exact HXB.out
                      · rw [h2]; simp at h3 ⊢; omega
                    · exact grow_own (Lf.gbt HGZ.out HGA.out) HOA.out (Nat.le_refl _) HGG.out.1
                    · rw [hblk _ hlt2 HXB.out]; exact HBX2.out
                  case measure => simp [intOf]; omega
                · have hje : j = ax.length := by omega
                  have HJE := Lf.hide hje
                  have hB4 : W.heap.size ≤ wr.heap.size := HGZ.out.size
                  have HL4 : Hid ((xs ++ [(⟨3, 0, 0, ⟨#[]⟩, ya, ax.length, yc, yd⟩ : Dp)] ++ zs).length + ys.length ≤ 100000000) := by show _ ≤ _; simp; omega
                  have HSRC2 := Lf.hide (own_src HRE.out)
                  go_wp2_with (at_builtin; refine appD W.heap.size (xs ++ [(⟨3, 0, 0, ⟨#[]⟩, ya, ax.length, yc, yd⟩ : Dp)] ++ zs) ys _ u3 u6 rfl (.tmp 131) (.tmp 132) rfl rfl rfl HSRC2.out HO.out hB4 HL4.out ?_; intro v' w' ho' hg' hn'; have HO2 := Lf.hide ho'; have HGG := Lf.hide hg'; have HN2 := Lf.hide hn'; clear ho' hg' hn')
                  obtain ⟨g2, cap2, hv2, _, _⟩ := own_form HO2.out (fun e => HNE.out (HN2.out.1 e).1)
                  have hro := HRO.out
                  rw [HJE.out, List.take_length] at hro
                  have hst := szW_step (d := yd) (k := 3) (n := 0) (p := 0) (s := ⟨#[]⟩) (args := ax) (l := L)
                  refine ⟨⟨xs ++ [⟨3, 0, 0, ⟨#[]⟩, ya, ax.length, yc, yd⟩], zs ++ ys, kids yd ax ++ L, g2, cap2, ?_, by simp, ?_, RowOf.append hro HROW.out, HST.out, ?_, grow_own HGZ.out HO.out (Nat.le_refl _) HGG.out.1⟩, ?_⟩
                  · rw [hv2]; simp; omega
                  · rw [← List.append_assoc]; exact HO2.out
                  · have h2 := HS.out
                    rw [hst] at h2
                    simp; omega
                  · have h2 := HS.out
                    rw [hst] at h2
                    simp [intOf]; omega
        · have hG : goodF t = Lf.wrongF yk yn yp ys' ax.length := by
            have h0 : fW [(1, t)] = Lf.wrongF yk yn yp ys' ax.length := by rw [← HF.out]; exact fW_wrong h24 hw
            rw [goodF_row, h0, if_pos hw]
          have HG := Lf.hide hG
          have HW0 := Lf.hide hw
          have HRI := Lf.hide (fun w => rin_all yn w iN)
          clear hG hw HL HS HOWN HROW HCA HRA HF HZ hcap hlen iN ik ip
          have HSL := Lf.hide (Lf.nil_iff ys')
          by_cases hk0 : yk < 0
          · have HWF : Hid (goodF t = 3) := HG.out.trans (by simp [Lf.wrongF, Lf.isKindB]; omega)
            go_wp2_with fail
            all_goals
              go_ret
              exact Lf.reti HWF.out.symm (Lf.gbt HGR.out (Lf.gb _))
          by_cases hk3 : 3 < yk
          · have HWF : Hid (goodF t = 3) := HG.out.trans (by simp [Lf.wrongF, Lf.isKindB]; omega)
            go_wp2_with fail
            all_goals
              go_ret
              exact Lf.reti HWF.out.symm (Lf.gbt HGR.out (Lf.gb _))
          by_cases hpr : yk = 2 ∧ Lf.isPrimB yp = false
          · obtain ⟨rfl, hpr⟩ := hpr
            have HWF : Hid (goodF t = 3) := HG.out.trans (by simp [Lf.wrongF, hpr])
            rw [hpr] at HRP
            clear hpr
            go_wp2_with fail
            refine (HRP.out _).mono ?_; rintro e w1 ⟨rfl, rfl⟩
            go_wp2_with fail
            all_goals
              go_ret
              exact Lf.reti HWF.out.symm (Lf.gbt HGR.out (Lf.gb _))
          have hpt : yk = 2 → Lf.isPrimB yp = true := fun h => by
            cases hq : Lf.isPrimB yp with
            | true => rfl
            | false => exact absurd ⟨h, hq⟩ hpr
          have hwf : Lf.wrongF yk yn yp ys' ax.length = if Lf.moreB yk yn yp ys' ax.length = true then 1 else if yn < -1152921504606846976 ∨ 1152921504606846976 < yn then 2 else if 200 < ys'.size then 4 else 0 := by
            rw [Lf.wrongF, if_neg (by simp [Lf.isKindB]; omega), if_neg hpr]
          have HGW := Lf.hide (HG.out.trans hwf)
          have HWW := Lf.hide hwf
          clear hpr hwf
          rcases (show yk = 0 ∨ yk = 1 ∨ yk = 2 ∨ yk = 3 from by omega) with rfl | rfl | rfl | rfl
          · clear hk0 hk3 hpt
            by_cases hs0 : ys'.size = 0
            · obtain rfl := HSZ.out hs0
              by_cases hp0 : yp = 0
              · subst hp0
                by_cases hl0 : ax.length = 0
                · have hn : ¬ (-1152921504606846976 ≤ yn ∧ yn ≤ 1152921504606846976) := by
                    intro hn
                    have h1 := HW0.out
                    rw [HWW.out] at h1
                    apply h1
                    rw [if_neg (by rw [gmore0]; simp only [decide_eq_true_eq]; omega), if_neg (by omega), if_neg (by omega)]
                  have HWF : Hid (goodF t = 2) := HGW.out.trans (by rw [if_neg (by rw [gmore0]; simp only [decide_eq_true_eq]; omega), if_pos (by omega)])
                  rw [decide_eq_false hn] at HRI
                  have hal2 : (ax.length : Int) = 0 := by omega
                  clear hl0 hn hs0
                  go_wp2_with fail
                  refine (HRI.out _).mono ?_; rintro e w1 ⟨rfl, rfl⟩
                  go_wp2_with fail
                  all_goals
                    go_ret
                    exact Lf.reti HWF.out.symm (Lf.gbt HGR.out (Lf.gb _))
                · have HWF : Hid (goodF t = 1) := HGW.out.trans (if_pos (by rw [gmore0]; exact decide_eq_true (by omega)))
                  have z3 : ¬ (ax.length : Int) = 0 := by omega
                  have z1 : ((ax.length : Int) == 0) = false := by rw [beq_eq_false_iff_ne]; exact z3
                  have z2 : ((ax.length : Int) != 0) = true := by rw [bne_iff_ne]; exact z3
                  clear hl0 hs0
                  go_wp2_with fail
                  all_goals
                    go_ret
                    exact Lf.reti HWF.out.symm (Lf.gbt HGR.out (Lf.gb _))
              · have HWF : Hid (goodF t = 1) := HGW.out.trans (if_pos (by rw [gmore0]; exact decide_eq_true (by omega)))
                have z1 : (yp == 0) = false := by simpa using (by omega : ¬ yp = 0)
                have z2 : (yp != 0) = true := by simpa using (by omega : ¬ yp = 0)
                have z3 : ¬ yp = 0 := by omega
                clear hs0
                go_wp2_with fail
                all_goals
                  go_ret
                  exact Lf.reti HWF.out.symm (Lf.gbt HGR.out (Lf.gb _))
            · have HWF : Hid (goodF t = 1) := HGW.out.trans (if_pos (by rw [gmore0]; exact decide_eq_true (by omega)))
              have hs1 : ys'.toList.isEmpty = false := by
                cases hq : ys'.toList with
                | nil => exact absurd (HSL.out.1 hq) hs0
                | cons _ _ => rfl
              have hs2 : ¬ ys'.toList = [] := fun h => hs0 (HSL.out.1 h)
              clear hs0
              go_wp2_with fail
              all_goals
                go_ret
                exact Lf.reti HWF.out.symm (Lf.gbt HGR.out (Lf.gb _))
          · clear hk0 hk3 hpt
            by_cases hn0 : yn = 0
            · subst hn0
              by_cases hp0 : yp = 0
              · subst hp0
                by_cases hl0 : ax.length = 0
                · have hs2 : 200 < ys'.size := by
                    refine Nat.lt_of_not_le fun hn => ?_
                    have h1 := HW0.out
                    rw [HWW.out] at h1
                    apply h1
                    rw [if_neg (by rw [gmore1]; simp only [decide_eq_true_eq]; omega), if_neg (by omega), if_neg (by omega)]
                  have HWF : Hid (goodF t = 4) := HGW.out.trans (by rw [if_neg (by rw [gmore1]; simp only [decide_eq_true_eq]; omega), if_neg (by omega), if_pos hs2])
                  rw [decide_eq_true (by omega)] at HRI
                  have hal2 : (ax.length : Int) = 0 := by omega
                  have hs3 : (200 : Int) < (ys'.size : Int) := by omega
                  clear hl0
                  go_wp2_with fail
                  refine (HRI.out _).mono ?_; rintro e w1 ⟨rfl, rfl⟩
                  go_wp2_with fail
                  all_goals
                    go_ret
                    exact Lf.reti HWF.out.symm (Lf.gbt HGR.out (Lf.gb _))
                · have HWF : Hid (goodF t = 1) := HGW.out.trans (if_pos (by rw [gmore1]; exact decide_eq_true (by omega)))
                  have z3 : ¬ (ax.length : Int) = 0 := by omega
                  have z1 : ((ax.length : Int) == 0) = false := by rw [beq_eq_false_iff_ne]; exact z3
                  have z2 : ((ax.length : Int) != 0) = true := by rw [bne_iff_ne]; exact z3
                  clear hl0
                  go_wp2_with fail
                  all_goals
                    go_ret
                    exact Lf.reti HWF.out.symm (Lf.gbt HGR.out (Lf.gb _))
              · have HWF : Hid (goodF t = 1) := HGW.out.trans (if_pos (by rw [gmore1]; exact decide_eq_true (by omega)))
                have z1 : (yp == 0) = false := by simpa using (by omega : ¬ yp = 0)
                have z2 : (yp != 0) = true := by simpa using (by omega : ¬ yp = 0)
                have z3 : ¬ yp = 0 := by omega
                go_wp2_with fail
                all_goals
                  go_ret
                  exact Lf.reti HWF.out.symm (Lf.gbt HGR.out (Lf.gb _))
            · have HWF : Hid (goodF t = 1) := HGW.out.trans (if_pos (by rw [gmore1]; exact decide_eq_true (by omega)))
              have z1 : (yn == 0) = false := by simpa using (by omega : ¬ yn = 0)
              have z2 : (yn != 0) = true := by simpa using (by omega : ¬ yn = 0)
              have z3 : ¬ yn = 0 := by omega
              go_wp2_with fail
              all_goals
                go_ret
                exact Lf.reti HWF.out.symm (Lf.gbt HGR.out (Lf.gb _))
          · rw [hpt rfl] at HRP
            clear hk0 hk3 hpt
            by_cases hn0 : yn = 0
            · subst hn0
              by_cases hs0 : ys'.size = 0
              · exact absurd HW0.out (by rw [HWW.out, if_neg (by rw [gmore2]; simp only [decide_eq_true_eq]; omega), if_neg (by omega), if_neg (by omega)]; simp)
              · have HWF : Hid (goodF t = 1) := HGW.out.trans (if_pos (by rw [gmore2]; exact decide_eq_true (by omega)))
                have hs1 : ys'.toList.isEmpty = false := by
                  cases hq : ys'.toList with
                  | nil => exact absurd (HSL.out.1 hq) hs0
                  | cons _ _ => rfl
                have hs2 : ¬ ys'.toList = [] := fun h => hs0 (HSL.out.1 h)
                clear hs0
                go_wp2_with fail
                refine (HRP.out _).mono ?_; rintro e w1 ⟨rfl, rfl⟩
                go_wp2_with fail
                all_goals
                  go_ret
                  exact Lf.reti HWF.out.symm (Lf.gbt HGR.out (Lf.gb _))
            · have HWF : Hid (goodF t = 1) := HGW.out.trans (if_pos (by rw [gmore2]; exact decide_eq_true (by omega)))
              have z1 : (yn == 0) = false := by simpa using (by omega : ¬ yn = 0)
              have z2 : (yn != 0) = true := by simpa using (by omega : ¬ yn = 0)
              have z3 : ¬ yn = 0 := by omega
              go_wp2_with fail
              refine (HRP.out _).mono ?_; rintro e w1 ⟨rfl, rfl⟩
              go_wp2_with fail
              all_goals
                go_ret
                exact Lf.reti HWF.out.symm (Lf.gbt HGR.out (Lf.gb _))
          · clear hk0 hk3 hpt
            by_cases hn0 : yn = 0
            · subst hn0
              by_cases hp0 : yp = 0
              · subst hp0
                by_cases hs0 : ys'.size = 0
                · exact absurd HW0.out (by rw [HWW.out, if_neg (by rw [gmore3]; simp only [decide_eq_true_eq]; omega), if_neg (by omega), if_neg (by omega)]; simp)
                · have HWF : Hid (goodF t = 1) := HGW.out.trans (if_pos (by rw [gmore3]; exact decide_eq_true (by omega)))
                  have hs1 : ys'.toList.isEmpty = false := by
                    cases hq : ys'.toList with
                    | nil => exact absurd (HSL.out.1 hq) hs0
                    | cons _ _ => rfl
                  have hs2 : ¬ ys'.toList = [] := fun h => hs0 (HSL.out.1 h)
                  clear hs0
                  go_wp2_with fail
                  all_goals
                    go_ret
                    exact Lf.reti HWF.out.symm (Lf.gbt HGR.out (Lf.gb _))
              · have HWF : Hid (goodF t = 1) := HGW.out.trans (if_pos (by rw [gmore3]; exact decide_eq_true (by omega)))
                have z1 : (yp == 0) = false := by simpa using (by omega : ¬ yp = 0)
                have z2 : (yp != 0) = true := by simpa using (by omega : ¬ yp = 0)
                have z3 : ¬ yp = 0 := by omega
                go_wp2_with fail
                all_goals
                  go_ret
                  exact Lf.reti HWF.out.symm (Lf.gbt HGR.out (Lf.gb _))
            · have HWF : Hid (goodF t = 1) := HGW.out.trans (if_pos (by rw [gmore3]; exact decide_eq_true (by omega)))
              have z1 : (yn == 0) = false := by simpa using (by omega : ¬ yn = 0)
              have z2 : (yn != 0) = true := by simpa using (by omega : ¬ yn = 0)
              have z3 : ¬ yn = 0 := by omega
              go_wp2_with fail
              all_goals
                go_ret
                exact Lf.reti HWF.out.symm (Lf.gbt HGR.out (Lf.gb _))

end Go.Proofs.YthjpngaapflclacGreat
