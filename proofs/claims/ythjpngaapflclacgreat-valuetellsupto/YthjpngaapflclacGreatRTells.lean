/- The document's own EncodeNode by its contract. -/
import Derived.Test.YthjpngaapflclacGreatRefText
import Derived.Test.YthjpngaapflclacGreatRefGN
import Derived.Test.YthjpngaapflclacGreatAlikes
import Derived.Test.YthjpngaapflclacGreatRHas
import Derived.Test.YthjpngaapflclacGreatRData
import Derived.Test.YthjpngaapflclacGreatTellN
namespace Go.Proofs.YthjpngaapflclacGreat
set_option maxRecDepth 20000
open Go.ChangeShapes Go.WideShapes Go.ChangeAt Go.RowKit
set_option linter.unusedVariables false

theorem box_noneE {w w' : World} {g : Nat} {o : Obj} (h : w.heap[g]? = some o) (hg : w.grownBy w' none) : w'.heap[g]? = some o := by
  rw [hg.block g (Array.getElem?_eq_some_iff.1 h).1 (by simp)]; exact h

set_option maxHeartbeats 1000000 in
theorem renc_no {w : World} {t : Tr} {v : Value} (hL : Lies (fun _ => True) w t v) (hz : t.size ≤ 1048576) (hgood : goodF t ≠ 0) (W : World) (hW : w.grownBy W none) :
    Calls Tryz.prog 44 #[v] W fun e w' => e = .returned (.tuple #[.string ⟨#[]⟩, .int .i64 (goodF t)]) ∧ W.grownBy w' none := by
  obtain ⟨k, n, p, st, a, q, c, rfl⟩ := hL.nodeV
  have HGD := Lf.hide (fun W2 (h2 : W.grownBy W2 none) => rgoodN_any hL hz W2 (Lf.gbt hW h2))
  have hx1 : (goodF t == 0) = false := by simpa using hgood
  clear hL hz hW
  generalize goodF t = x at *
  unfold nodeV at HGD ⊢
  go_enter Tryz.func44, Tryz.ntmps44
  go_wp2_with fail
  refine (HGD.out _ (Lf.gb _)).mono ?_; rintro e w1 ⟨rfl, hg1⟩
  have HG1 := Lf.hide (Lf.gbt (Lf.gb _) hg1)
  clear hg1
  go_wp2_with fail
  go_ret2
  exact ⟨rfl, HG1.out⟩

set_option maxHeartbeats 1000000 in
theorem renc_yes {w : World} {t : Tr} {v : Value} (hL : Lies (fun _ => True) w t v) (hz : t.size ≤ 1048576) (hgood : goodF t = 0) (W : World) (hW : w.grownBy W none) :
    Calls Tryz.prog 44 #[v] W fun e w' => e = .returned (.tuple #[.string (bs (encTr t)), .int .i64 0]) ∧ W.grownBy w' none := by
  obtain ⟨k, n, p, st, a, q, c, rfl⟩ := hL.nodeV
  have hlen : firstW 1 t = 0 ∧ (encTr t).length ≤ 64500 := by
    obtain ⟨h1, h2⟩ := goodF_zero hgood
    have := encTr_bound 1 t h1 (by omega); exact ⟨h1, by omega⟩
  have HGD := Lf.hide (fun W2 (h2 : W.grownBy W2 none) => rgoodN_any hL hz W2 (Lf.gbt hW h2))
  have HT := Lf.hide (fun W2 (h2 : W.grownBy W2 none) => rnode_any hL 1 W2 hlen.1 (by omega) (Lf.gbt hW h2))
  rw [hgood] at HGD
  clear hL hz hW hgood hlen
  generalize bs (encTr t) = s at *
  unfold nodeV at HGD HT ⊢
  go_enter Tryz.func44, Tryz.ntmps44
  go_wp2_with fail
  refine (HGD.out _ (Lf.gb _)).mono ?_; rintro e w1 ⟨rfl, hg1⟩
  have HB1 := Lf.hide (box_noneE (heap_alloc_new _ _) hg1)
  obtain ⟨x0, x1, x2, x3, x4⟩ := box5 HB1.out
  have HG1 := Lf.hide (Lf.gbt (Lf.gb _) hg1)
  clear hg1
  go_wp2_with fail
  refine (HT.out _ HG1.out).mono ?_; rintro e w2 ⟨rfl, hg2⟩
  have HG2 := Lf.hide (Lf.gbt HG1.out hg2)
  clear hg2
  go_wp2_with fail
  go_ret2
  exact ⟨rfl, HG2.out⟩

/-- either way -/
theorem renc_any {w : World} {t : Tr} {v : Value} (hL : Lies (fun _ => True) w t v) (hz : t.size ≤ 1048576) (W : World) (hW : w.grownBy W none) :
    Calls Tryz.prog 44 #[v] W fun e w' => e = .returned (.tuple #[.string (if goodF t = 0 then bs (encTr t) else ⟨#[]⟩), .int .i64 (goodF t)]) ∧ W.grownBy w' none := by
  by_cases h : goodF t = 0
  · rw [if_pos h]; have := renc_yes hL hz h W hW; rw [h]; exact this
  · rw [if_neg h]; exact renc_no hL hz h W hW

end Go.Proofs.YthjpngaapflclacGreat

/- The document's own ValueNode, Told and Pack, by their contracts. -/
namespace Go.Proofs.YthjpngaapflclacGreat
set_option maxRecDepth 20000
open Go.ChangeShapes Go.WideShapes Go.ChangeAt Go.RowKit
set_option linter.unusedVariables false

theorem can_ok {T : Ty} {x : Va} (h : canF T x = true) : DOk x ∧ goodTy T = true := by
  obtain ⟨h1, h2, h3⟩ := can_parts h
  exact ⟨dok_pack x T 1 h2 h3 (goodTy_formed h1).1, h1⟩

mutual
theorem data_size : ∀ x : Va, (dataT x).size ≤ x.size
  | .mk k n a s args ty co => by
    have h := datas_size args
    have hm : sizes ((dataTs args).map eltT) = sizes (dataTs args) := elts_size _
    rw [dataT_eq, written_wr]
    show (wrF k n s (dataTs args)).size ≤ _
    rw [Va.size]
    unfold wrF
    repeat' split
    all_goals simp only [primT, Tr.size, sizes, hm]
    all_goals omega
theorem datas_size : ∀ l : List Va, sizes (dataTs l) ≤ vsizes l
  | [] => by simp [dataTs, sizes, vsizes]
  | x :: l => by
    have h1 := data_size x
    have h2 := datas_size l
    rw [dataTs, sizes, vsizes]
    omega
end

/-- what is asked first by ValueNode and Pack -/
def CanAsk (W : World) (T : Ty) (x : Va) (tv v : Value) : Prop :=
  (∀ W2, W.grownBy W2 none → Calls Tryz.prog 19 #[tv] W2 fun e w' => e = .returned (.bool (packT T)) ∧ W2.grownBy w' none) ∧
  ∀ W2, W.grownBy W2 none → Calls Tryz.prog 20 #[tv, v] W2 fun e w' => e = .returned (.bool (hasF T x)) ∧ W2.grownBy w' none

theorem can_ask {W : World} {T : Ty} {x : Va} {tv v : Value} (hT : LiesT (fun _ => True) W T tv) (hV : LiesV (fun _ => True) W x v) : CanAsk W T x tv v :=
  ⟨fun W2 h => rpack_any hT W2 h, fun W2 h => (rhas_any hV).2 T tv W2 hT h⟩

/-- what the document's own ValueNode answers -/
def RNodeP (T : Ty) (x : Va) (W : World) (e : Ending) (w' : World) : Prop := W.grownBy w' none ∧
  ((canF T x = false ∧ e = .returned (.tuple #[nodeV 0 0 0 ⟨#[]⟩ none 0 0, .int .i64 5])) ∨
   (canF T x = true ∧ goodF (dataT x) ≠ 0 ∧ e = .returned (.tuple #[nodeV 0 0 0 ⟨#[]⟩ none 0 0, .int .i64 (goodF (dataT x))])) ∨
   (canF T x = true ∧ goodF (dataT x) = 0 ∧ ∃ u, e = .returned (.tuple #[u, .int .i64 0]) ∧ Lies (fun _ => True) w' (dataT x) u))

theorem new_3of3R (w : World) (o1 o2 o3 : Obj) : (((w.alloc o1).alloc o2).alloc o3).heap[w.heap.size + 1 + 1]? = some o3 := by
  have h := heap_alloc_new ((w.alloc o1).alloc o2) o3
  rwa [show ((w.alloc o1).alloc o2).heap.size = w.heap.size + 1 + 1 from by simp] at h
theorem new_2of3R (w : World) (o1 o2 o3 : Obj) : (((w.alloc o1).alloc o2).alloc o3).heap[w.heap.size + 1]? = some o2 := heap_keep (rnew_two w o1 o2)
theorem new_1of3R (w : World) (o1 o2 o3 : Obj) : (((w.alloc o1).alloc o2).alloc o3).heap[w.heap.size]? = some o1 := heap_keep (res_new w o1 o2)

set_option maxRecDepth 100000 in
set_option maxHeartbeats 2000000 in
theorem rvnode_any {W : World} {T : Ty} {x : Va} {tv v : Value} (hT : LiesT (fun _ => True) W T tv) (hV : LiesV (· < W.heap.size) W x v) (hz : x.size ≤ 1048576) : Calls Tryz.prog 6 #[tv, v] W (RNodeP T x W) := by
  obtain ⟨HP0, HH0⟩ := can_ask hT (hV.okMono (ok' := fun _ => True) fun _ _ _ => trivial)
  have HP := Lf.hide HP0
  have HH := Lf.hide HH0
  have HD : Hid (canF T x = true → ∀ W2, W.grownBy W2 none → Calls Tryz.prog 21 #[v] W2 (DataPost x W2)) := fun hc W2 h => rdata_any hV W2 h (can_ok hc).1 (by omega)
  have HN : Hid (∀ (W2 : World) (u : Value), Lies (fun _ => True) W2 (dataT x) u → ∀ W3, W2.grownBy W3 none → Calls Tryz.prog 22 #[u] W3 fun e w' => e = .returned (.int .i64 (goodF (dataT x))) ∧ W3.grownBy w' none) := fun W2 u hu W3 h => rgoodN_any hu (by have := data_size x; omega) W3 h
  have HCF : Hid (canF T x = (hasF T x && packT T)) := rfl
  obtain ⟨a, c, VT, rfl, it, hRT⟩ := hT.inv
  obtain ⟨k1, n1, a1, s1, aa1, al1, ac1, ta1, tl1, tc1, na1, nl1, nc1, rfl⟩ := hV.vaV
  let A : Obj := .cells #[.int .i64 T.t, .slice a T.args.length c] 24
  let B : Obj := .cells #[.int .i64 k1, .int .i64 n1, .int .i64 a1, .string s1, .slice aa1 al1 ac1, .slice ta1 tl1 tc1, .slice na1 nl1 nc1] 28
  let C : Obj := .cells #[.int .i64 0, .int .i64 0, .int .i64 0, .string ⟨#[]⟩, .slice none 0 0] 30
  have HA0 := Lf.hide (new_1of3R W A B C)
  have HB0 := Lf.hide (new_2of3R W A B C)
  have HC0 := Lf.hide (new_3of3R W A B C)
  have HG0 := Lf.hide (Lf.gbt (Lf.gb (w := W) A) (Lf.gbt (Lf.gb B) (Lf.gb C)))
  clear HP0 HH0 hT hV hRT it hz
  unfold tyV vaV at *
  generalize hasF T x = qh at *
  generalize packT T = qp at *
  cases qp with
  | false =>
    go_enter Tryz.func6, Tryz.ntmps6
    go_wp2_with fail
    refine (HP.out _ HG0.out).mono ?_; rintro e w1 ⟨rfl, hg⟩
    have HG1 := Lf.hide (Lf.gbt HG0.out hg)
    have hC1 := keepB HC0.out hg
    obtain ⟨r0, r1, r2, r3, r4⟩ := box5 hC1
    obtain ⟨f0, f1, f2, f3, f4⟩ := box5f hC1
    have HC1 := Lf.hide hC1
    clear hg hC1
    go_wp2_with fail
    change bodyPost _ _ _ _ _ (set5 w1 (W.heap.size + 1 + 1) (.int .i64 0) (.int .i64 0) (.int .i64 0) (.string ⟨#[]⟩) (.slice none 0 0))
    have hb' := set5_block HC1.out (.int .i64 0) (.int .i64 0) (.int .i64 0) (.string ⟨#[]⟩) (.slice none 0 0)
    have hg' := grow_new HG1.out (set5_grow w1 (W.heap.size + 1 + 1) (.int .i64 0) (.int .i64 0) (.int .i64 0) (.string ⟨#[]⟩) (.slice none 0 0)) (by omega)
    generalize set5 w1 (W.heap.size + 1 + 1) (.int .i64 0) (.int .i64 0) (.int .i64 0) (.string ⟨#[]⟩) (.slice none 0 0) = wf at *
    obtain ⟨z0, z1, z2, z3, z4⟩ := box5 hb'
    exact bodyPost_ret (v := .tuple #[nodeV 0 0 0 ⟨#[]⟩ none 0 0, .int .i64 5]) (by simp [results, Tryz.results6, go_sem, z0, z1, z2, z3, z4, nodeV]) rfl ⟨hg', .inl ⟨by rw [HCF.out]; simp, rfl⟩⟩
  | true =>
    cases qh with
    | false =>
      go_enter Tryz.func6, Tryz.ntmps6
      go_wp2_with fail
      refine (HP.out _ HG0.out).mono ?_; rintro e w1 ⟨rfl, hg⟩
      have HG1 := Lf.hide (Lf.gbt HG0.out hg)
      have hA1 := keepB HA0.out hg
      have hB1 := keepB HB0.out hg
      have HC1 := Lf.hide (keepB HC0.out hg)
      have q0 := cell0_of hA1
      have q1 := cell1_of hA1
      obtain ⟨b0, b1, b2, b3, b4, b5, b6⟩ := box7 hB1
      clear hg hA1 hB1
      go_wp2_with fail
      refine (HH.out _ HG1.out).mono ?_; rintro e w2 ⟨rfl, hg⟩
      have HG2 := Lf.hide (Lf.gbt HG1.out hg)
      have hC2 := keepB HC1.out hg
      obtain ⟨r0, r1, r2, r3, r4⟩ := box5 hC2
      obtain ⟨f0, f1, f2, f3, f4⟩ := box5f hC2
      have HC2 := Lf.hide hC2
      clear hg hC2 q0 q1 b0 b1 b2 b3 b4 b5 b6
      go_wp2_with fail
      change bodyPost _ _ _ _ _ (set5 w2 (W.heap.size + 1 + 1) (.int .i64 0) (.int .i64 0) (.int .i64 0) (.string ⟨#[]⟩) (.slice none 0 0))
      have hb' := set5_block HC2.out (.int .i64 0) (.int .i64 0) (.int .i64 0) (.string ⟨#[]⟩) (.slice none 0 0)
      have hg' := grow_new HG2.out (set5_grow w2 (W.heap.size + 1 + 1) (.int .i64 0) (.int .i64 0) (.int .i64 0) (.string ⟨#[]⟩) (.slice none 0 0)) (by omega)
      generalize set5 w2 (W.heap.size + 1 + 1) (.int .i64 0) (.int .i64 0) (.int .i64 0) (.string ⟨#[]⟩) (.slice none 0 0) = wf at *
      obtain ⟨z0, z1, z2, z3, z4⟩ := box5 hb'
      exact bodyPost_ret (v := .tuple #[nodeV 0 0 0 ⟨#[]⟩ none 0 0, .int .i64 5]) (by simp [results, Tryz.results6, go_sem, z0, z1, z2, z3, z4, nodeV]) rfl ⟨hg', .inl ⟨by rw [HCF.out]; simp, rfl⟩⟩
    | true =>
      have hqc : canF T x = true := by rw [HCF.out]; rfl
      have HQC := Lf.hide hqc
      have HDD := Lf.hide (HD.out hqc)
      clear hqc HD HCF
      go_enter Tryz.func6, Tryz.ntmps6
      go_wp2_with fail
      refine (HP.out _ HG0.out).mono ?_; rintro e w1 ⟨rfl, hg⟩
      have HG1 := Lf.hide (Lf.gbt HG0.out hg)
      have hA1 := keepB HA0.out hg
      have hB1 := keepB HB0.out hg
      have HB1 := Lf.hide hB1
      have HC1 := Lf.hide (keepB HC0.out hg)
      have q0 := cell0_of hA1
      have q1 := cell1_of hA1
      obtain ⟨b0, b1, b2, b3, b4, b5, b6⟩ := box7 hB1
      clear hg hA1 hB1
      go_wp2_with fail
      refine (HH.out _ HG1.out).mono ?_; rintro e w2 ⟨rfl, hg⟩
      have HG2 := Lf.hide (Lf.gbt HG1.out hg)
      have HC2 := Lf.hide (keepB HC1.out hg)
      have hB2 := keepB HB1.out hg
      clear hg q0 q1 b0 b1 b2 b3 b4 b5 b6
      obtain ⟨b0, b1, b2, b3, b4, b5, b6⟩ := box7 hB2
      clear hB2
      go_wp2_with fail
      refine (HDD.out _ HG2.out).mono ?_; rintro e w3 ⟨hg, u, rfl, hLu⟩
      obtain ⟨ku, nu, pu, su, au, lu, cu, rfl⟩ := hLu.nodeV
      have hLu' : Lies (fun _ => True) w3 (dataT x) (nodeV ku nu pu su au lu cu) := hLu.okMono fun _ _ _ => trivial
      have HLU := Lf.hide hLu
      have HNN := Lf.hide (HN.out w3 _ hLu' (w3.alloc (.cells #[.int .i64 ku, .int .i64 nu, .int .i64 pu, .string su, .slice au lu cu] 30)) (Lf.gb _))
      have HNB := Lf.hide (heap_alloc_new w3 (.cells #[.int .i64 ku, .int .i64 nu, .int .i64 pu, .string su, .slice au lu cu] 30))
      have HG3 := Lf.hide (Lf.gbt HG2.out (Lf.gbt hg (Lf.gb (.cells #[.int .i64 ku, .int .i64 nu, .int .i64 pu, .string su, .slice au lu cu] 30))))
      have HC3 := Lf.hide (heap_keep (o := .cells #[.int .i64 ku, .int .i64 nu, .int .i64 pu, .string su, .slice au lu cu] 30) (keepB HC2.out hg))
      clear hg hLu hLu' b0 b1 b2 b3 b4 b5 b6 HN
      unfold nodeV at *
      generalize hgd : goodF (dataT x) = gd at *
      go_wp2_with fail
      refine HNN.out.mono ?_; rintro e w4 ⟨rfl, hg⟩
      have HG4 := Lf.hide (Lf.gbt HG3.out hg)
      have hC4 := keepB HC3.out hg
      have hN4 := keepB HNB.out hg
      obtain ⟨r0, r1, r2, r3, r4⟩ := box5 hC4
      obtain ⟨f0, f1, f2, f3, f4⟩ := box5f hC4
      obtain ⟨m0, m1, m2, m3, m4⟩ := box5 hN4
      have HC4 := Lf.hide hC4
      have HLU4 := Lf.hide (HLU.out.same (w' := w4) (fun b o _ hlt => World.cell?_of_block ((Lf.gbt (Lf.gb _) hg).block b hlt (by simp))))
      have HGD := Lf.hide hgd
      clear hg hC4 hN4 hgd HNN HLU
      by_cases hz0 : gd = 0
      · subst hz0
        go_wp2_with fail
        change bodyPost _ _ _ _ _ (set5 w4 (W.heap.size + 1 + 1) (.int .i64 ku) (.int .i64 nu) (.int .i64 pu) (.string su) (.slice au lu cu))
        have hb' := set5_block HC4.out (.int .i64 ku) (.int .i64 nu) (.int .i64 pu) (.string su) (.slice au lu cu)
        have hgs := set5_grow w4 (W.heap.size + 1 + 1) (.int .i64 ku) (.int .i64 nu) (.int .i64 pu) (.string su) (.slice au lu cu)
        have hg' := grow_new HG4.out hgs (by omega)
        generalize set5 w4 (W.heap.size + 1 + 1) (.int .i64 ku) (.int .i64 nu) (.int .i64 pu) (.string su) (.slice au lu cu) = wf at *
        obtain ⟨z0, z1, z2, z3, z4⟩ := box5 hb'
        have hlt2 : W.heap.size + 1 + 1 < w2.heap.size := lt_blk HC2.out
        refine bodyPost_ret (v := .tuple #[nodeV ku nu pu su au lu cu, .int .i64 0]) (by simp [results, Tryz.results6, go_sem, z0, z1, z2, z3, z4, nodeV]) rfl ⟨hg', .inr (.inr ⟨HQC.out, HGD.out, _, rfl, ?_⟩)⟩
        exact (HLU4.out.same (w' := wf) (fun b o hb hlt => World.cell?_of_block (hgs.block b hlt (by have : w2.heap.size ≤ b := hb; simp; omega)))).okMono fun _ _ _ => trivial
      · have hz1 : (gd == 0) = false := by simpa using hz0
        have hz2 : (gd != 0) = true := by simpa using hz0
        have HZ := Lf.hide hz0
        clear hz0
        go_wp2_with fail
        change bodyPost _ _ _ _ _ (set5 w4 (W.heap.size + 1 + 1) (.int .i64 0) (.int .i64 0) (.int .i64 0) (.string ⟨#[]⟩) (.slice none 0 0))
        have hb' := set5_block HC4.out (.int .i64 0) (.int .i64 0) (.int .i64 0) (.string ⟨#[]⟩) (.slice none 0 0)
        have hg' := grow_new HG4.out (set5_grow w4 (W.heap.size + 1 + 1) (.int .i64 0) (.int .i64 0) (.int .i64 0) (.string ⟨#[]⟩) (.slice none 0 0)) (by omega)
        generalize set5 w4 (W.heap.size + 1 + 1) (.int .i64 0) (.int .i64 0) (.int .i64 0) (.string ⟨#[]⟩) (.slice none 0 0) = wf at *
        obtain ⟨z0, z1, z2, z3, z4⟩ := box5 hb'
        exact bodyPost_ret (v := .tuple #[nodeV 0 0 0 ⟨#[]⟩ none 0 0, .int .i64 gd]) (by simp [results, Tryz.results6, go_sem, z0, z1, z2, z3, z4, nodeV]) rfl ⟨hg', .inr (.inl ⟨HQC.out, by rw [HGD.out]; exact HZ.out, by rw [HGD.out]⟩)⟩

/-- what the document's own Told answers -/
def RToldP (x : Va) (W : World) (e : Ending) (w' : World) : Prop := W.grownBy w' none ∧
    ((goodF (dataT x) ≠ 0 ∧ e = .returned (.tuple #[.string ⟨#[]⟩, .int .i64 (goodF (dataT x))])) ∨ (goodF (dataT x) = 0 ∧ 199 < (encTr (dataT x)).length ∧ e = .returned (.tuple #[.string ⟨#[]⟩, .int .i64 4])) ∨
     (goodF (dataT x) = 0 ∧ (encTr (dataT x)).length ≤ 199 ∧ e = .returned (.tuple #[.string ⟨((5 : UInt8) :: encTr (dataT x)).toArray⟩, .int .i64 0])))

set_option maxRecDepth 100000 in
set_option maxHeartbeats 1000000 in
theorem rtold_any {W : World} {x : Va} {v : Value} (hV : LiesV (· < W.heap.size) W x v) (hD : DOk x) (hz : x.size ≤ 1048576) (w2 : World) (hg : W.grownBy w2 none) : Calls Tryz.prog 24 #[v] w2 (RToldP x w2) := by
  have HDN : Hid (∀ W2, w2.grownBy W2 none → Calls Tryz.prog 21 #[v] W2 (DataPost x W2)) := fun W2 h => rdata_any hV W2 (Lf.gbt hg h) hD (by omega)
  have HE : Hid (∀ (W2 : World) (u : Value), Lies (fun _ => True) W2 (dataT x) u → Calls Tryz.prog 44 #[u] W2 fun e w' => e = .returned (.tuple #[.string (if goodF (dataT x) = 0 then bs (encTr (dataT x)) else ⟨#[]⟩), .int .i64 (goodF (dataT x))]) ∧ W2.grownBy w' none) := fun W2 u hu => renc_any hu (by have := data_size x; omega) W2 (grow_refl _ _)
  have hlen : goodF (dataT x) = 0 → (encTr (dataT x)).length ≤ 64500 := fun h => by
    obtain ⟨h1, h2⟩ := goodF_zero h
    have := encTr_bound 1 (dataT x) h1 (by omega); omega
  obtain ⟨k1, n1, a1, s1, aa1, al1, ac1, ta1, tl1, tc1, na1, nl1, nc1, rfl⟩ := hV.vaV
  have HGB := Lf.hide (Lf.gb (w := w2) (.cells #[.int .i64 k1, .int .i64 n1, .int .i64 a1, .string s1, .slice aa1 al1 ac1, .slice ta1 tl1 tc1, .slice na1 nl1 nc1] 28))
  clear hV hD hz hg
  unfold vaV at *
  generalize hgd : goodF (dataT x) = gd at *
  generalize hl : encTr (dataT x) = l at *
  have HL := Lf.hide hl
  by_cases hz0 : gd = 0
  · subst hz0
    have HGD := Lf.hide hgd
    have hl2 := hlen rfl
    have HLL := Lf.hide hl2
    have hsz : (bs l).size = l.length := by simp [bs, ByteArray.size]
    have HC5 : Hid ((⟨#[5]⟩ : ByteArray) ++ bs l = ⟨((5 : UInt8) :: l).toArray⟩) := cat5 l
    simp only [if_true] at HE
    by_cases hlong : l.length ≤ 199
    · have hb1 : ¬ (199 : Int) < ((bs l).size : Int) := by rw [hsz]; omega
      have hb2 : ((bs l).size : Int) ≤ 199 := by rw [hsz]; omega
      have hb3 : (bs l).size ≤ 199 := by rw [hsz]; omega
      have HLG := Lf.hide hlong
      clear hlen hl2 hlong hsz hgd hl
      generalize bs l = sv at *
      go_enter Tryz.func24, Tryz.ntmps24
      go_wp2_with fail
      refine (HDN.out _ HGB.out).mono ?_; rintro e w3 ⟨hg, u, rfl, hLu⟩
      obtain ⟨ku, nu, pu, su, au, lu, cu, rfl⟩ := hLu.nodeV
      have HEE := Lf.hide (HE.out w3 _ (hLu.okMono fun _ _ _ => trivial))
      have HG1 := Lf.hide (Lf.gbt HGB.out hg)
      clear hg hLu
      unfold nodeV at *
      go_wp2_with fail
      refine HEE.out.mono ?_; rintro e w4 ⟨rfl, hg⟩
      have HG2 := Lf.hide (Lf.gbt HG1.out hg)
      clear hg
      go_wp2_with fail
      go_ret2
      exact ⟨HG2.out, .inr (.inr ⟨HGD.out, by rw [HL.out]; exact HLG.out, by rw [HL.out, ← HC5.out]; rfl⟩)⟩
    · have hb1 : (199 : Int) < ((bs l).size : Int) := by rw [hsz]; omega
      have hb3 : ¬ (bs l).size ≤ 199 := by rw [hsz]; omega
      have HLG := Lf.hide hlong
      clear hlen hl2 hlong hsz hgd hl
      generalize bs l = sv at *
      go_enter Tryz.func24, Tryz.ntmps24
      go_wp2_with fail
      refine (HDN.out _ HGB.out).mono ?_; rintro e w3 ⟨hg, u, rfl, hLu⟩
      obtain ⟨ku, nu, pu, su, au, lu, cu, rfl⟩ := hLu.nodeV
      have HEE := Lf.hide (HE.out w3 _ (hLu.okMono fun _ _ _ => trivial))
      have HG1 := Lf.hide (Lf.gbt HGB.out hg)
      clear hg hLu
      unfold nodeV at *
      go_wp2_with fail
      refine HEE.out.mono ?_; rintro e w4 ⟨rfl, hg⟩
      have HG2 := Lf.hide (Lf.gbt HG1.out hg)
      clear hg
      go_wp2_with fail
      go_ret2
      exact ⟨HG2.out, .inr (.inl ⟨HGD.out, by rw [HL.out]; have := HLG.out; omega, rfl⟩)⟩
  · have HGD := Lf.hide hgd
    have hz1 : (gd == 0) = false := by simpa using hz0
    have hz2 : (gd != 0) = true := by simpa using hz0
    have HZ := Lf.hide hz0
    simp only [if_neg hz0] at HE
    clear hz0 hlen hgd hl
    go_enter Tryz.func24, Tryz.ntmps24
    go_wp2_with fail
    refine (HDN.out _ HGB.out).mono ?_; rintro e w3 ⟨hg, u, rfl, hLu⟩
    obtain ⟨ku, nu, pu, su, au, lu, cu, rfl⟩ := hLu.nodeV
    have HEE := Lf.hide (HE.out w3 _ (hLu.okMono fun _ _ _ => trivial))
    have HG1 := Lf.hide (Lf.gbt HGB.out hg)
    clear hg hLu
    unfold nodeV at *
    go_wp2_with fail
    refine HEE.out.mono ?_; rintro e w4 ⟨rfl, hg⟩
    have HG2 := Lf.hide (Lf.gbt HG1.out hg)
    clear hg
    go_wp2_with fail
    go_ret2
    exact ⟨HG2.out, .inl ⟨by rw [HGD.out]; exact HZ.out, by rw [HGD.out]; rfl⟩⟩

theorem RToldP.up {x : Va} {W W2 : World} {e : Ending} {w' : World} (h : RToldP x W2 e w') (hg : W.grownBy W2 none) : RToldP x W e w' := ⟨Lf.gbt hg h.1, h.2⟩

theorem RToldP.form {x : Va} {W : World} {e : Ending} {w' : World} (h : RToldP x W e w') : ∃ s n, e = .returned (.tuple #[.string s, .int .i64 n]) := by
  rcases h.2 with ⟨_, h⟩ | ⟨_, _, h⟩ | ⟨_, _, h⟩
  · exact ⟨_, _, h⟩
  · exact ⟨_, _, h⟩
  · exact ⟨_, _, h⟩

def RPackP (T : Ty) (x : Va) (W : World) (e : Ending) (w' : World) : Prop := (canF T x = false ∧ W.grownBy w' none ∧ e = .returned (.tuple #[.string ⟨#[]⟩, .int .i64 5])) ∨ (canF T x = true ∧ RToldP x W e w')

set_option maxRecDepth 100000 in
set_option maxHeartbeats 1000000 in
theorem rpackV_any {W : World} {T : Ty} {x : Va} {tv v : Value} (hT : LiesT (fun _ => True) W T tv) (hV : LiesV (· < W.heap.size) W x v) (hz : x.size ≤ 1048576) : Calls Tryz.prog 9 #[tv, v] W (RPackP T x W) := by
  obtain ⟨HP0, HH0⟩ := can_ask hT (hV.okMono (ok' := fun _ => True) fun _ _ _ => trivial)
  have HP := Lf.hide HP0
  have HH := Lf.hide HH0
  have HD : Hid (canF T x = true → ∀ W2, W.grownBy W2 none → Calls Tryz.prog 24 #[v] W2 (RToldP x W2)) := fun hc W2 h => rtold_any hV (can_ok hc).1 hz W2 h
  have HCF : Hid (canF T x = (hasF T x && packT T)) := rfl
  obtain ⟨a, c, VT, rfl, it, hRT⟩ := hT.inv
  obtain ⟨k1, n1, a1, s1, aa1, al1, ac1, ta1, tl1, tc1, na1, nl1, nc1, rfl⟩ := hV.vaV
  let A : Obj := .cells #[.int .i64 T.t, .slice a T.args.length c] 24
  let B : Obj := .cells #[.int .i64 k1, .int .i64 n1, .int .i64 a1, .string s1, .slice aa1 al1 ac1, .slice ta1 tl1 tc1, .slice na1 nl1 nc1] 28
  have HA0 := Lf.hide (res_new W A B)
  have HB0 := Lf.hide (rnew_two W A B)
  have HG0 := Lf.hide (Lf.gbt (Lf.gb (w := W) A) (Lf.gb B))
  clear HP0 HH0 hT hV hRT it hz
  unfold tyV vaV at *
  unfold RPackP
  generalize canF T x = qc at *
  generalize hasF T x = qh at *
  generalize packT T = qp at *
  cases qp with
  | false =>
    go_enter Tryz.func9, Tryz.ntmps9
    go_wp2_with fail
    refine (HP.out _ HG0.out).mono ?_; rintro e w1 ⟨rfl, hg⟩
    have HG1 := Lf.hide (Lf.gbt HG0.out hg)
    clear hg
    go_wp2_with fail
    go_ret2
    exact .inl ⟨by rw [HCF.out]; simp, HG1.out, rfl⟩
  | true =>
    cases qh with
    | false =>
      go_enter Tryz.func9, Tryz.ntmps9
      go_wp2_with fail
      refine (HP.out _ HG0.out).mono ?_; rintro e w1 ⟨rfl, hg⟩
      have HG1 := Lf.hide (Lf.gbt HG0.out hg)
      have hA1 := keepB HA0.out hg
      have hB1 := keepB HB0.out hg
      have q0 := cell0_of hA1
      have q1 := cell1_of hA1
      obtain ⟨b0, b1, b2, b3, b4, b5, b6⟩ := box7 hB1
      clear hg hA1 hB1
      go_wp2_with fail
      refine (HH.out _ HG1.out).mono ?_; rintro e w2 ⟨rfl, hg⟩
      have HG2 := Lf.hide (Lf.gbt HG1.out hg)
      clear hg
      go_wp2_with fail
      go_ret2
      exact .inl ⟨by rw [HCF.out]; simp, HG2.out, rfl⟩
    | true =>
      have hqc : qc = true := by rw [HCF.out]; rfl
      have HQC := Lf.hide hqc
      have HDD := Lf.hide (HD.out hqc)
      clear hqc HD HCF
      go_enter Tryz.func9, Tryz.ntmps9
      go_wp2_with fail
      refine (HP.out _ HG0.out).mono ?_; rintro e w1 ⟨rfl, hg⟩
      have HG1 := Lf.hide (Lf.gbt HG0.out hg)
      have hA1 := keepB HA0.out hg
      have HB1 := Lf.hide (keepB HB0.out hg)
      have q0 := cell0_of hA1
      have q1 := cell1_of hA1
      obtain ⟨b0, b1, b2, b3, b4, b5, b6⟩ := box7 HB1.out
      clear hg hA1
      go_wp2_with fail
      refine (HH.out _ HG1.out).mono ?_; rintro e w2 ⟨rfl, hg⟩
      have HG2 := Lf.hide (Lf.gbt HG1.out hg)
      have hB2 := keepB HB1.out hg
      clear hg q0 q1 b0 b1 b2 b3 b4 b5 b6
      obtain ⟨b0, b1, b2, b3, b4, b5, b6⟩ := box7 hB2
      clear hB2
      go_wp2_with fail
      refine (HDD.out _ HG2.out).mono ?_; intro e w3 ht
      have ht2 := ht.up HG2.out
      obtain ⟨sx, nx, rfl⟩ := ht.form
      have HT2 := Lf.hide ht2
      clear ht ht2
      go_wp2_with fail
      go_ret2
      exact .inr ⟨HQC.out, HT2.out⟩

end Go.Proofs.YthjpngaapflclacGreat
