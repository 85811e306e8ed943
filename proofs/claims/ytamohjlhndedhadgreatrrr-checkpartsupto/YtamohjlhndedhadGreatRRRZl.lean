import Derived.Test.YtamohjlhndedhadGreatRRRZi
namespace Go.Proofs.YtamohjlhndedhadGreatRRR
set_option maxRecDepth 100000
set_option maxHeartbeats 4000000
open Go.ChangeShapes Go.WideShapes Go.ChangeAt Go.RowKit
set_option linter.unusedVariables false
set_option linter.unusedSimpArgs false
def rowNext (st : Tr -> List Ty -> Led) (rest : List Tr) : Led -> Led
 | .no e => .no e
 | .ok g s' => rowG st rest g s'
theorem rowG_cons (st : Tr -> List Ty -> Led) (t : Tr) (rest : List Tr) (s : List Ty) : rowG st (t :: rest) false s = rowNext st rest (keptF (st t s)) := by
 simp only [rowG, Bool.false_eq_true, if_false]
 cases keptF (st t s) <;> rfl
theorem set2_far {w : World} {b g : Nat} {o : Obj} {x y : Value} (h : w.heap[g]? = some o) (hne : g ≠ b) : (set2 w b x y).heap[g]? = some o :=
 ((set2_grow w b x y).block g (Array.getElem?_eq_some_iff.1 h).1 (by simpa using hne)).trans h
theorem row_any {W : World} {st : Tr -> List Ty -> Led} {l : List Tr} {s : List Ty} {na : Option Addr} {nc : Nat} {VN : Nat -> Value} {sa : Option Addr} {sl sc L : Nat} (h40 : 40 <= L) (hN : RowN (fun _ => True) W l na VN) (hs : RowC W s (.slice sa sl sc)) (hl4 : s.length <= L) (hgd : s.all goodTy = true)
 (hst : ∀ (j : Nat) (h : j < l.length) (W2 : World) (s2 : List Ty) (a2 : Option Addr) (l2 c2 : Nat), W.grownBy W2 none -> RowC W2 s2 (.slice a2 l2 c2) -> s2.length <= L -> s2.all goodTy = true -> Calls Tryz.prog 24 #[VN j, .slice a2 l2 c2] W2 (LedPost (st l[j] s2) W2)) :
 Calls Tryz.prog 14 #[.slice na l.length nc, .slice sa sl sc] W (LedPost (rowG st l false s) W) := by
 have hll := hN.1
 unfold maxLen at hll
 obtain ⟨hg3, hR3, hI3⟩ := start2 W (.cells #[.slice none 0 0, .bool false] 27) (.cells #[.slice sa sl sc, .bool false] 27)
 have HN := jh hN
 have HST := jh hst
 have HS3 := jh (hs.grow hg3)
 have HG3 := jh hg3
 have HI3 := jh hI3
 have HR3 := jh hR3
 have HGD := jh hgd
 obtain ⟨q, hq⟩ : ∃ q : Led, q = rowG st l false s := ⟨_, rfl⟩
 rw [← hq]
 have HQ := jh hq
 clear hq hN hs hst hg3 hR3 hI3 hgd
 go_enter Tryz.func14, Tryz.ntmps14
 go_wp2_with fail
 generalize (W.alloc _).alloc _ = W3 at *
 go_loopw [15] (fun iv wr => ∃ (j : Nat) (f : Bool) (cur : List Ty) (a : Option Addr) (k c : Nat), j <= l.length /\ iv = .int .i64 j /\ W.grownBy wr none /\ wr.heap[W.heap.size]? = some (.cells #[.slice none 0 0, .bool false] 27 (0, 0)) /\ wr.heap[W.heap.size + 1]? = some (.cells #[.slice a k c, .bool f] 27 (0, 0)) /\ RowC wr cur (.slice a k c) /\ cur.length <= L /\ cur.all goodTy = true /\ q = rowG st (l.drop j) f cur) (fun iv _ => l.length - (intOf iv).toNat)
 case atStart => exact ⟨0, false, s, sa, sl, sc, Nat.zero_le _, rfl, HG3.out, HR3.out, HI3.out, HS3.out, hl4, HGD.out, HQ.out⟩
 case round =>
  obtain ⟨j, f, cur, a, k, c, hj, rfl, hg, hR, hI, hC, hc4, hcg, hqj⟩ := hrel
  have HG := jh hg
  have HR := jh hR
  have HI := jh hI
  have HC := jh hC
  have HCG := jh hcg
  have HQJ := jh hqj
  clear hR hI hC hcg hqj HS3 HG3 HI3 HR3 HGD HQ
  by_cases hlt : j < l.length
  ·obtain ⟨b, o, rfl, _, k', n', p', s', a', l', c', hv, h0, h1, h2, h3, h4⟩ := (HN.out.2.1 j hlt).same (w' := wr) (sAl hg)
   have hji : (j : Int) < (l.length : Int) := by omega
   have hgn := Lf.gb (w := wr) (.cells #[.int .i64 k', .int .i64 n', .int .i64 p', .string s', .slice a' l' c'] 24)
   have hbn := heap_alloc_new wr (.cells #[.int .i64 k', .int .i64 n', .int .i64 p', .string s', .slice a' l' c'] 24)
   have hI2 := kBq HI.out hgn
   have y0 := cell0_of hI2
   have y1 := cell1_of hI2
   obtain ⟨m0, m1, m2, m3, m4⟩ := box5 hbn
   have hd : l.drop j = l[j] :: l.drop (j + 1) := List.drop_eq_getElem_cons hlt
   replace HR := jh (kBq HR.out hgn)
   replace HI := jh hI2
   replace HC := jh (HC.out.grow hgn)
   replace HG := jh (Lf.gbt HG.out hgn)
   cases f with
   | true =>
    have hq1 : q = .no 1 := by rw [HQJ.out, hd]; simp [rowG]
    have HQ1 := jh hq1
    clear hq1 hgn hbn hI2 hd hg hv
    go_wp2_with fail
    generalize wr.alloc _ = w2 at *
    refine (refused_led 1 (by decide) _).mono ?_
    rintro e w7 hp
    rw [← HQ1.out] at hp
    obtain ⟨a5, l5, c5, f5, er5, rfl, hb5, hS5, hl5⟩ := led_end (o := .cells #[] 0) hp HG.out (gRf _ _) (Nat.le_refl _) HR.out
    have q0 := cell0_of hb5
    have q1 := cell1_of hb5
    have q2 := free2_of hb5
    have HL5 := jh hl5
    have HB5 := jh hb5
    clear hb5 hl5 hp
    go_wp2_with fail
    change bodyPost _ _ _ _ _ (set2 w7 W.heap.size (.slice a5 l5 c5) (.bool f5))
    have hb' := set2_block HB5.out (.slice a5 l5 c5) (.bool f5)
    have hl' := HL5.out
    generalize set2 w7 W.heap.size (.slice a5 l5 c5) (.bool f5) = wf at *
    have z0 := cell0_of hb'
    have z1 := cell1_of hb'
    exact bodyPost_ret (v := .tuple #[.agg #[.slice a5 l5 c5, .bool f5], .int .i64 er5]) (by simp [results, Tryz.results14, go_sem, z0, z1]) rfl hl'
   | false =>
    have hcall := HST.out j hlt _ cur a k c HG.out HC.out hc4 HCG.out
    rw [hv] at hcall
    unfold nodeV at hcall
    have HCALL := jh hcall
    have hq1 : q = rowNext st (l.drop (j + 1)) (keptF (st l[j] cur)) := by rw [HQJ.out, hd, rowG_cons]
    have HQ1 := jh hq1
    clear hq1 hgn hbn hI2 hd hg hv hcall
    go_wp2_with fail
    generalize wr.alloc _ = w2 at *
    refine HCALL.out.mono ?_; rintro e w3 hp3
    obtain ⟨a3, l3, c3, f3, er3, rfl, hg3, his3⟩ := hp3.is
    replace HR := jh (kBq HR.out hg3)
    replace HI := jh (kBq HI.out hg3)
    replace HG := jh (Lf.gbt HG.out hg3)
    have HIS3 := jh his3
    clear hp3 hg3 his3 HCALL y0 y1 m0 m1 m2 m3 m4 HC
    go_wp2_with fail
    refine (kept_any HIS3.out).mono ?_; rintro e w4 hp4
    obtain ⟨a4, l4, c4, f4, er4, rfl, hg4, his4⟩ := hp4.is
    replace HR := jh (kBq HR.out hg4)
    replace HI := jh (kBq HI.out hg4)
    replace HG := jh (Lf.gbt HG.out hg4)
    obtain ⟨kp, hkp⟩ : ∃ kp, kp = keptF (st l[j] cur) := ⟨_, rfl⟩
    have HKP := jh hkp
    rw [← hkp] at his4
    have HQ2 : Hid (q = rowNext st (l.drop (j + 1)) kp) := by rw [hkp]; exact HQ1.out
    clear hp4 hg4 HIS3 hkp HQ1
    rcases his4 with ⟨rfl, hne, rfl, rfl, rfl, rfl⟩ | ⟨ts4, rfl, rfl, hr4⟩
    ·have n1 : (er4 == 0) = false := by simpa using hne
     have n2 : (er4 != 0) = true := by simpa using hne
     have hq3 : q = .no er4 := HQ2.out
     have HQ3 := jh hq3
     clear hq3
     go_wp2_with fail
     refine (refused_led er4 hne _).mono ?_
     rintro e w7 hp
     rw [← HQ3.out] at hp
     obtain ⟨a5, l5, c5, f5, er5, rfl, hb5, hS5, hl5⟩ := led_end (o := .cells #[] 0) hp HG.out (Lf.gb _) (Nat.le_refl _) HR.out
     have q0 := cell0_of hb5
     have q1 := cell1_of hb5
     have q2 := free2_of hb5
     have HL5 := jh hl5
     have HB5 := jh hb5
     clear hb5 hl5 hp
     go_wp2_with fail
     change bodyPost _ _ _ _ _ (set2 w7 W.heap.size (.slice a5 l5 c5) (.bool f5))
     have hb' := set2_block HB5.out (.slice a5 l5 c5) (.bool f5)
     have hl' := HL5.out
     generalize set2 w7 W.heap.size (.slice a5 l5 c5) (.bool f5) = wf at *
     have z0 := cell0_of hb'
     have z1 := cell1_of hb'
     exact bodyPost_ret (v := .tuple #[.agg #[.slice a5 l5 c5, .bool f5], .int .i64 er5]) (by simp [results, Tryz.results14, go_sem, z0, z1]) rfl hl'
    ·obtain ⟨_, hk4, hk5⟩ := kept_ok HKP.out.symm
     have HR4 := jh hr4
     have HK5 := jh hk5
     have hgn := Lf.gb (w := w4) (.cells #[.slice a4 l4 c4, .bool f4] 27)
     have hbn := heap_alloc_new w4 (.cells #[.slice a4 l4 c4, .bool f4] 27)
     have v0 := cell0_of hbn
     have v1 := cell1_of hbn
     have hI5 := kBq HI.out hgn
     have q0 := cell0_of hI5
     have q1 := cell1_of hI5
     have q2 := free2_of hI5
     clear hr4 hk5 hgn hbn hI5
     go_wp2_with fail
     go_roundw
     case rel =>
      refine ⟨j + 1, f4, ts4, a4, l4, c4, by omega, by go_num, ?_, ?_, ?_, ?_, (Nat.le_trans hk4 h40), HK5.out, HQ2.out⟩
      ·exact grow_set2 (Lf.gbt HG.out (Lf.gb _)) (b := W.heap.size + 1) (Nat.le_succ _) (.slice a4 l4 c4) (.bool f4)
      ·exact set2_far (b := W.heap.size + 1) (heap_keep HR.out) (by omega)
      ·exact set2_block (heap_keep HI.out) (.slice a4 l4 c4) (.bool f4)
      ·exact (HR4.out.grow (Lf.gb _)).set (heap_keep HI.out) (.slice a4 l4 c4) (.bool f4)
     case measure => simp [intOf]; omega
  ·have hji : ¬ (j : Int) < (l.length : Int) := by omega
   have hqe : q = .ok f cur := by rw [HQJ.out, List.drop_of_length_le (by omega)]; simp [rowG]
   have y0 := cell0_of HI.out
   have y1 := cell1_of HI.out
   have q0 := cell0_of HR.out
   have q1 := cell1_of HR.out
   have q2 := free2_of HR.out
   have HL := jh (is_end (W := W) (R := W.heap.size) (f := f) (ts := cur) (r := q) hqe HC.out HG.out (Nat.le_refl _) HR.out)
   clear hqe hg
   go_wp2_with fail
   change bodyPost _ _ _ _ _ (set2 wr W.heap.size (.slice a k c) (.bool f))
   have hb' := set2_block HR.out (.slice a k c) (.bool f)
   have hl' := HL.out
   generalize set2 wr W.heap.size (.slice a k c) (.bool f) = wf at *
   have z0 := cell0_of hb'
   have z1 := cell1_of hb'
   exact bodyPost_ret (v := .tuple #[.agg #[.slice a k c, .bool f], .int .i64 0]) (by simp [results, Tryz.results14, go_sem, z0, z1]) rfl hl'
def CopiesPost (ts : List Ty) (W : World) (e : Ending) (w' : World) : Prop :=
 W.grownBy w' none /\ ∃ a c V, e = .returned (.slice a ts.length c) /\ ts.length <= c /\ RowT (W.heap.size <= ·) w' ts a V
theorem ListOkT.callT {H : Nat} {w w' : World} {v : Value} {ts : List Ty} {vs : List Value} (h : ListOkT H w v ts vs) (hg : w.grownBy w' none) : ListOkT H w' v ts vs := by
 refine ⟨World.ownsRow.kept h.own hg ?_, h.len, fun i t u ht hu => (h.lies i t u ht hu).same (fun b o _ hlt => World.cell?_of_block (hg.block b hlt (by simp)))⟩
 cases v.ownBlock <;> simp
theorem take_snocT (ts : List Ty) (j : Nat) (h : j < ts.length) : ts.take (j + 1) = ts.take j ++ [ts[j]] := by
 rw [List.take_succ_eq_append_getElem h]
theorem copies_any : ∀ (N : Nat) {W : World} {ts : List Ty} {a : Option Addr} {l c : Nat}, RowC W ts (.slice a l c) -> tysizes ts <= N -> N <= 1000000 -> Calls Tryz.prog 22 #[.slice a l c] W (CopiesPost ts W) := by
 intro N
 induction N with
 | zero =>
  intro W ts a l c hs hz hN
  have h0 : ts.length = 0 := by have := tylength_le ts; omega
  obtain ⟨hl, hlc, _⟩ := hs.len
  obtain rfl : l = 0 := by omega
  obtain rfl : ts = [] := List.eq_nil_of_length_eq_zero h0
  clear hs hz hl hlc
  go_enter Tryz.func22, Tryz.ntmps22
  go_wp2_with fail
  go_loopw [3, 8] (fun lv iv wr => wr = W /\ lv = .slice none 0 0 /\ iv = .int .i64 0) (fun _ _ _ => 0)
  case atStart => exact ⟨rfl, rfl, rfl⟩
  case round =>
   obtain ⟨hw, rfl, rfl⟩ := hrel
   replace hw := hw.symm
   subst hw
   go_wp2_with fail
   go_ret
   exact ⟨gRf _ _, none, 0, fun _ => .int .i64 0, rfl, Nat.le_refl _, RowT.nil _ _ _ _⟩
 | succ N ih =>
  intro W ts a l c hs hz hN
  obtain ⟨hl, hlc, hm⟩ := hs.len
  subst hl
  unfold maxLen at hm
  have htl := tylength_le ts
  have HS := jh hs
  have HIH : Hid (∀ {W : World} {ts : List Ty} {a : Option Addr} {l c : Nat}, RowC W ts (.slice a l c) -> tysizes ts <= N -> Calls Tryz.prog 22 #[.slice a l c] W (CopiesPost ts W)) := fun h1 h2 => ih h1 h2 (by omega)
  have HZ := jh hz
  clear hs ih hz
  go_enter Tryz.func22, Tryz.ntmps22
  go_wp2_with fail
  go_loopw [3, 8] (fun lv iv wr => ∃ (j : Nat) (vs : List Value), j <= ts.length /\ iv = .int .i64 j /\ ListOkT W.heap.size wr lv (ts.take j) vs /\ W.grownBy wr none) (fun _ iv _ => ts.length - (intOf iv).toNat)
  case atStart => exact ⟨0, [], Nat.zero_le _, rfl, ListOkT.nil _ _, gRf _ _⟩
  case round =>
   obtain ⟨j, vs, hj, rfl, hK, hg⟩ := hrel
   have hvl := hK.len
   rw [List.length_take, Nat.min_eq_left hj] at hvl
   by_cases hlt : j < ts.length
   ·obtain ⟨b, o, t, a', l', c', rfl, x0, x1, hL⟩ := (HS.out.grow hg).at j hlt
    have hty : tyAt ts j = ts[j] := by unfold tyAt; rw [List.getElem?_eq_getElem hlt]; rfl
    rw [hty] at hL
    rw [show 2 * j = j * 2 from Nat.mul_comm _ _] at x0 x1
    rw [← Nat.add_assoc] at x1
    have hji : (j : Int) < (ts.length : Int) := by omega
    have hsz1 : tysizes (ts[j]).args <= N := by
     have h1 := tysize_mem (List.getElem_mem hlt)
     have h2 := HZ.out
     have h3 : (ts[j]).size = tysizes (ts[j]).args + 1 := by cases ts[j]; rfl
     omega
    obtain ⟨ht, hargs⟩ := hL.args
    have it : I64 t := by obtain ⟨_, _, _, _, h, _⟩ := hL.inv; rw [ht] at h; exact h
    have hT : ts[j] = .nd t (ts[j]).args := by rw [← ht]; cases ts[j]; rfl
    have hvb : vs.length <= 1000000000000 := by have := HZ.out; omega
    have HTT := jh hT
    clear hT
    have hgn := Lf.gb (w := wr) (.cells #[.int .i64 t, .slice a' l' c'] 44)
    have hbn := heap_alloc_new wr (.cells #[.int .i64 t, .slice a' l' c'] 44)
    have n3 : some wr.heap.size ≠ u3.ownBlock := fun e => by have := (World.ownsRow.lt hK.own wr.heap.size e.symm).2; omega
    have HCALL : Hid (∀ W2, wr.grownBy W2 none -> Calls Tryz.prog 22 #[.slice a' l' c'] W2 (CopiesPost (ts[j]).args W2)) := fun W2 h2 => HIH.out (hargs.grow h2) hsz1
    have HK := jh (hK.callT hgn)
    have HG := jh (Lf.gbt hg hgn)
    have HGN := jh hgn
    have hzw : W.heap.size <= wr.heap.size := hg.size
    have HOB : Hid (∀ k, u3.ownBlock = some k -> k < wr.heap.size) := fun k hk => (World.ownsRow.lt hK.own k hk).2
    clear hL hty hsz1 ht hargs hgn hK hg
    go_wp2_with fail
    have hlt5 : wr.heap.size < (wr.alloc (.cells #[.int .i64 t, .slice a' l' c'] 44)).heap.size := by simp
    generalize wr.alloc (.cells #[.int .i64 t, .slice a' l' c'] 44) = w5 at *
    have y0 : ∀ w', w5.grownBy w' u3.ownBlock -> w'.cell? ⟨wr.heap.size, 0, none⟩ = some (.int .i64 t) := fun w' h => cell0_of ((h.block _ hlt5 n3).trans hbn)
    have y1 : ∀ w', w5.grownBy w' u3.ownBlock -> w'.cell? ⟨wr.heap.size, 1, none⟩ = some (.slice a' l' c') := fun w' h => cell1_of ((h.block _ hlt5 n3).trans hbn)
    have hS0 : w5.grownBy w5 u3.ownBlock := gRf _ _
    have HLT5 := jh hlt5
    clear hbn n3 x0 x1 hlt5
    go_region_held3 (fun w' => w5.grownBy w' u3.ownBlock) (first | with_reducible assumption | with_reducible exact gDr (gRf _ _) | with_reducible exact grow_trans (by assumption) (gAq (Lf.gb _))) (first
     | (go_at_call 22; refine (HCALL.out _ (gDr HGN.out)).mono ?_; rintro e w2 hp2; obtain ⟨hg2, a2, c2, V2, rfl, hc2, hr2⟩ := hp2; have HK2 := jh (HK.out.callT (undrew hg2)); have HG2 := jh (Lf.gbt HG.out (undrew hg2)); have HR2 := jh hr2; have hS2 : w5.grownBy w2 u3.ownBlock := gAq (undrew hg2); clear hg2 hr2)
     | (refine step_appT W.heap.size vs t a2 (ts[j]).args.length c2 w2 u3 rfl (.tmp 12) (.tmp 19) rfl rfl rfl rfl HK2.out.own HG2.out.size hvb ?_; intro g cap w6 ho6 hg6; have hS6 : w5.grownBy w6 u3.ownBlock := grow_trans hS2 hg6.1; have HO6 := jh ho6; have HG6 := jh hg6; clear ho6 hg6))
    have HL2 : Hid (LiesT (w5.heap.size <= ·) w2 ts[j] (tyV t a2 (ts[j]).args.length c2)) := by
     have h := LiesT.ofRow (t := t) it hc2 HR2.out
     rw [← HTT.out] at h
     exact h
    have HP := jh (HK2.out.push (S := wr.heap.size) hzw HOB.out (HL2.out.okMono (fun b _ h => by have h1 := HLT5.out; have h2 : w5.heap.size <= b := h; show wr.heap.size <= b; omega)) HG6.out HO6.out)
    have HGF := jh (grow_own HG2.out HK2.out.own (Nat.le_refl _) HG6.out.1)
    clear hS6 y0 y1 hS0
    go_wp2_with fail
    go_roundw
    case rel =>
     refine ⟨j + 1, vs ++ [tyV t a2 (ts[j]).args.length c2], by omega, by go_num, ?_, HGF.out⟩
     rw [take_snocT ts j hlt]
     have h := HP.out
     rw [hvl] at h
     exact h
    case measure => simp [intOf]; omega
   ·have hje : ts.take j = ts := List.take_of_length_le (by omega)
    rw [hje] at hK
    obtain ⟨a5, c5, V5, hv, h1, h2⟩ := hK.done
    have hcap : ts.length <= c5 := by
     rcases hK.own.2 with ⟨e2, h0⟩ | ⟨g, cap, cur, e2, _, _, h4, h5, _⟩
     ·have := hK.len; omega
     ·rw [e2] at hv
      simp only [Value.slice.injEq] at hv
      omega
    have HV := jh hv
    have HROW : Hid (RowT (W.heap.size <= ·) wr ts a5 V5) := ⟨by unfold maxLen; omega, h1, h2⟩
    have HG := jh hg
    have HCC := jh hcap
    have hji : ¬ (j : Int) < (ts.length : Int) := by omega
    clear hK hv h1 h2 hg hcap hje hvl
    go_wp2_with fail
    go_ret
    exact ⟨HG.out, a5, c5, V5, by rw [HV.out]; rfl, HCC.out, HROW.out⟩
end Go.Proofs.YtamohjlhndedhadGreatRRR
