/- Has by its contract. -/
import Derived.Test.YtmmgihaoahhkjaaHasAA
import Derived.Test.YtmmgihaoahhkjaaHasG
import Derived.Test.YtmmgihaoahhkjaaHasM
namespace Go.Proofs.Ytmmgihaoahhkjaa
open Go.ChangeShapes Go.WideShapes Go.ChangeAt Go.RowKit
set_option linter.unusedVariables false

theorem info_vs : (Try.prog.info? 25).map (fun i => (i.zero, i.size, i.bytes)) = some (some (.slice none 0 0), 1, 24) := by kernel_rfl

def OwnsV (B : Nat) (w : World) (v : Value) (us : List Value) : Prop := w.ownsRow B 25 1 v us.length us

/-- lists of values lie in w as the slices us -/
def MapsOk (w : World) : List (List Va) → List Value → Prop
  | [], [] => True
  | l :: M, u :: us => (∃ a c V, u = .slice a l.length c ∧ RowVa (fun _ => True) w l a V ∧ vsizes l ≤ 20000000) ∧ MapsOk w M us
  | [], _ :: _ => False
  | _ :: _, [] => False

theorem MapsOk.len {w : World} : ∀ {M : List (List Va)} {us : List Value}, MapsOk w M us → us.length = M.length
  | [], [], _ => rfl
  | _ :: _, _ :: _, h => by simp [MapsOk.len h.2]
  | [], _ :: _, h => h.elim
  | _ :: _, [], h => h.elim

theorem MapsOk.snoc {w : World} {l : List Va} {u : Value} (hr : ∃ a c V, u = .slice a l.length c ∧ RowVa (fun _ => True) w l a V ∧ vsizes l ≤ 20000000) : ∀ {M : List (List Va)} {us : List Value}, MapsOk w M us → MapsOk w (M ++ [l]) (us ++ [u])
  | [], [], _ => ⟨hr, trivial⟩
  | _ :: _, _ :: _, h => ⟨h.1, MapsOk.snoc hr h.2⟩
  | [], _ :: _, h => h.elim
  | _ :: _, [], h => h.elim

theorem MapsOk.get {w : World} : ∀ {M : List (List Va)} {us : List Value}, MapsOk w M us → ∀ i (h : i < M.length), ∃ u, us[i]? = some u ∧ ∃ a c V, u = .slice a M[i].length c ∧ RowVa (fun _ => True) w M[i] a V ∧ vsizes M[i] ≤ 20000000
  | [], [], _, i, h => by simp at h
  | _ :: _, _ :: _, hm, 0, h => ⟨_, rfl, hm.1⟩
  | _ :: _, _ :: _, hm, i + 1, h => by simpa using MapsOk.get hm.2 i (by simpa using h)
  | [], _ :: _, h, _, _ => h.elim
  | _ :: _, [], h, _, _ => h.elim

theorem maps_at {w W : World} {M : List (List Va)} {us : List Value} {v : Value} {B : Nat} (ho : OwnsV B W v us) (hm : MapsOk w M us) (hl : M.length ≤ maxLen) : ∃ a c, v = .slice a M.length c ∧ MapsAt w W M a := by
  have hlen := hm.len
  rcases ho.2 with ⟨rfl, h0⟩ | ⟨g, cap, cur, rfl, hb, hg, h3, h4, h5, h6⟩
  · have : M.length = 0 := by omega
    exact ⟨none, 0, by rw [this], hl, fun i h => by omega⟩
  · refine ⟨some ⟨g, 0, none⟩, cap, by rw [hlen], hl, fun i h => ?_⟩
    obtain ⟨u, hu, a, c, V, rfl, hR, hz⟩ := hm.get i h
    have hc := World.ownsRow.cells ho (g := g) rfl i _ hu
    rw [add_none] at hc
    exact ⟨g, 0, a, c, V, rfl, hc, hR, hz⟩

/-- two rows of the call's own of other elements lie apart -/
theorem own_apart {w : World} {B B' : Nat} {e e' : TypeId} {s s' n n' : Nat} {v v' : Value} {xs xs' : List Value} (h : w.ownsRow B e s v n xs) (h' : w.ownsRow B' e' s' v' n' xs') (hne : e ≠ e') : v'.ownBlock = none ∨ v'.ownBlock ≠ v.ownBlock := by
  rcases h'.2 with ⟨rfl, _⟩ | ⟨g, cap, cur, rfl, _, hg, _⟩
  · exact .inl rfl
  · right
    exact own_ne_type h hg hne

theorem own_cutN {w : World} {B : Nat} {e : TypeId} {size g cap n : Nat} {xs ys : List Value} (h : w.ownsRow B e size (.slice (some ⟨g, 0, none⟩) (n + 1) cap) (n + 1) (xs ++ ys)) (hx : xs.length = n * size) : w.ownsRow B e size (.slice (some ⟨g, 0, none⟩) n cap) n xs := by
  refine ⟨hx, ?_⟩
  rcases h.2 with ⟨hq, _⟩ | ⟨g', cap', cur, hq, h1, h2, h3, h4, h5, h6⟩
  · simp at hq
  · simp only [Value.slice.injEq, Option.some.injEq, Addr.mk.injEq, and_true, true_and] at hq
    obtain ⟨rfl, rfl⟩ := hq
    refine .inr ⟨g, cap, cur, rfl, h1, h2, by omega, h4, h5, ?_⟩
    have h7 := congrArg (List.take (n * size)) h6
    rw [List.take_take, show min (n * size) ((n + 1) * size) = n * size from by rw [Nat.add_mul]; omega] at h7
    rw [h7, List.take_append_of_le_length (by omega), List.take_of_length_le (by omega)]

theorem own_cellN {w : World} {B : Nat} {e : TypeId} {size g cap n : Nat} {xs ys : List Value} (h : w.ownsRow B e size (.slice (some ⟨g, 0, none⟩) (n + 1) cap) (n + 1) (xs ++ ys)) (hx : xs.length = n * size) (j : Nat) (u : Value) (hu : ys[j]? = some u) : w.cell? ⟨g, n * size + j, none⟩ = some u := by
  have k := World.ownsRow.cells h (g := g) rfl (n * size + j) u (by rw [List.getElem?_append_right (by omega), hx, show n * size + j - n * size = j from by omega]; exact hu)
  rw [add_none, Nat.zero_add] at k
  exact k

theorem box9 {w : World} {g : Nat} {T : TypeId} {x0 x1 x2 x3 x4 x5 x6 x7 x8 : Value} (h : w.heap[g]? = some (.cells #[x0, x1, x2, x3, x4, x5, x6, x7, x8] T (0, 0))) :
    w.cell? ⟨g, 0, none⟩ = some x0 ∧ w.cell? ⟨g, 1, none⟩ = some x1 ∧ w.cell? ⟨g, 2, none⟩ = some x2 ∧ w.cell? ⟨g, 3, none⟩ = some x3 ∧ w.cell? ⟨g, 4, none⟩ = some x4 ∧ w.cell? ⟨g, 5, none⟩ = some x5 ∧ w.cell? ⟨g, 6, none⟩ = some x6 ∧ w.cell? ⟨g, 7, none⟩ = some x7 ∧ w.cell? ⟨g, 8, none⟩ = some x8 := by
  simp [World.cell?, h]

/-- claims put behind claims of the call's own -/
theorem appK {ops : Array Oper} {rest : List Oper} {o : Oper} {a : Act} {Q : Exit → Act → World → Prop} (B : Nat) (w : World) {C D : List (Ty × Va)} {cs ds : List (Value × Value)} (w0 : World) (v xv : Value) (hgd : o.guard = none) (s x : Operand)
    (ho : o.op = .call { callee := .builtin .append, args := #[s, x], argTypes := #[57, 57] }) (hs : a.eval s = v) (hx : a.eval x = xv)
    (hsrc : SrcAt w0 xv ds.length (flatC ds)) (hD : ClaimsOk w D ds) (hown : OwnsK B w0 v cs) (hB : B ≤ w0.heap.size) (hlen : cs.length + ds.length ≤ 50000000)
    (h : ∀ v' w', OwnsK B w' v' (cs ++ ds) → Gr w0 v w' v' → wpList Try.prog ops Q rest (a.put o.dst v') w') : wpList Try.prog ops Q (o :: rest) a w0 := by
  obtain ⟨n1, n2⟩ := flatC_len hD
  refine wpList_app hgd s x 57 ho B 55 Try.underlying57 info_cl rfl (by decide) v cs.length (flatC cs) hs hown xv ds.length (flatC ds) hx n1 hsrc n2 ?_ ?_ hB ?_
  · unfold maxLen; omega
  · omega
  · intro v' w' h1 h2 _
    exact h v' w' (by unfold OwnsK; rw [flatC_append, List.length_append]; exact h1) h2

/-- one list put behind lists of the call's own -/
theorem appV {ops : Array Oper} {rest : List Oper} {o : Oper} {a : Act} {Q : Exit → Act → World → Prop} (B : Nat) (us : List Value) (sa : Option Addr) (sl sc : Nat) (w0 : World) (v : Value) (hgd : o.guard = none) (s x : Operand)
    (ho : o.op = .call { callee := .builtin .append, args := #[s, x], argTypes := #[53, 53] }) (hs : a.eval s = v) {H : Nat} (hx : a.eval x = .slice (some ⟨H, 0, none⟩) 1 1) (hH : w0.heap.size = H)
    (hown : OwnsV B w0 v us) (hB : B ≤ w0.heap.size) (hlen : us.length ≤ 50000000)
    (h : ∀ v' w', OwnsV B w' v' (us ++ [.slice sa sl sc]) → Gr w0 v w' v' → wpList Try.prog ops Q rest (a.put o.dst v') w') :
    wpList Try.prog ops Q (o :: rest) a (w0.alloc (.cells #[.slice sa sl sc] 25)) := by
  subst hH
  refine wpList_app hgd s x 53 ho B 25 Try.underlying53 info_vs rfl (by decide) v us.length us hs (World.ownsRow.alloc hown _) _ 1 [.slice sa sl sc] hx rfl (SrcAt.new _ _ _ _ _) ?_ ?_ ?_ ?_ ?_
  · intro u hu; simp at hu; subst hu; rfl
  · unfold maxLen; omega
  · omega
  · simp; omega
  · intro v' w' h1 h2 _
    exact h v' w' (by unfold OwnsV; rw [List.length_append]; exact h1) (Gr.trans (Gr.alloc (Gr.refl w0 v) _) h2)

theorem formed_args {d : Nat} {T : Ty} (h : formedB d T = true) : (T.args.length : Int) = partsF T.t ∧ ∀ y ∈ T.args, formedB (d + 1) y = true := by
  obtain ⟨t, args⟩ := T
  simp only [formedB, Bool.and_eq_true, decide_eq_true_eq] at h
  refine ⟨h.1.2.2, fun y hy => ?_⟩
  have := h.2
  rw [formedBs_all, List.all_eq_true] at this
  exact this y hy

theorem zip_mem_fst {ts : List Ty} {l : List Va} {p : Ty × Va} (h : p ∈ ts.zip l) : p.1 ∈ ts := (List.of_mem_zip h).1

/-- what a claim leads to is of types that are formed -/
theorem parts_formed {T : Ty} {x : Va} {l : List (Ty × Va)} (hf : ∃ d, formedB d T = true) (hfit : fitsF T x = true) (hp : partsOf T x = some l) : ∀ p ∈ l, ∃ d, formedB d p.1 = true := by
  obtain ⟨d, hd⟩ := hf
  obtain ⟨hlen, hargs⟩ := formed_args hd
  simp only [fitsF, Bool.and_eq_true] at hfit
  obtain ⟨⟨⟨⟨⟨_, hN⟩, _⟩, _⟩, hT⟩, _⟩ := hfit
  simp only [partsOf, argTys, Option.map_eq_some_iff] at hp
  obtain ⟨ts, hts, rfl⟩ := hp
  intro p hpm
  have hm := zip_mem_fst hpm
  split at hts
  · rename_i h8
    split at hts
    · simp only [Option.some.injEq] at hts
      subst hts
      unfold fitsTF at hT
      rw [if_pos h8] at hT
      match hx : x.types, hT with
      | [y], hT =>
        rw [hx] at hm
        simp at hm
        rw [hm]
        exact ⟨1, (goodTy_formed hT).1⟩
    · cases hts
  · split at hts
    · simp only [Option.some.injEq] at hts
      subst hts
      simp at hm
    · split at hts
      · rename_i h10
        split at hts
        · simp only [Option.some.injEq] at hts
          subst hts
          have e := List.eq_of_mem_replicate hm
          rw [e]
          have hl1 : T.args.length = 1 := by rw [h10] at hlen; simp [partsF] at hlen; omega
          obtain ⟨y, hy⟩ := List.length_eq_one_iff.1 hl1
          rw [show tyAt T.args 0 = y from by simp [tyAt, hy]]
          exact ⟨d + 1, hargs y (by rw [hy]; simp)⟩
        · cases hts
      · split at hts
        · rename_i h13
          split at hts
          · simp only [Option.some.injEq] at hts
            subst hts
            have e := List.eq_of_mem_replicate hm
            rw [e]
            refine ⟨d, ?_⟩
            obtain ⟨t, args⟩ := T
            simp only [Ty.t] at h13
            subst h13
            simp only [formedB, Bool.and_eq_true, decide_eq_true_eq, Ty.args] at hd ⊢
            refine ⟨⟨hd.1.1, by decide, ?_⟩, hd.2⟩
            have := hd.1.2.2
            simp [partsF] at this ⊢
            exact this
          · cases hts
        · split at hts
          · rename_i h12
            split at hts
            · simp only [Option.some.injEq] at hts
              subst hts
              simp at hm
              rw [hm]
              have hl2 : T.args.length = 2 := by rw [h12] at hlen; simp [partsF] at hlen; omega
              have hn : x.n = 0 ∨ x.n = 1 := by
                unfold fitsNF at hN
                rw [h12] at hN
                simpa using hN
              rcases hn with hn | hn
              · rw [hn]
                have e : tyAt T.args ((0 : Int).toNat) = T.args[0] := by show (T.args[0]?).getD _ = _; rw [List.getElem?_eq_getElem (by omega)]; rfl
                rw [e]
                exact ⟨d + 1, hargs _ (List.getElem_mem _)⟩
              · rw [hn]
                have e : tyAt T.args ((1 : Int).toNat) = T.args[1] := by show (T.args[1]?).getD _ = _; rw [List.getElem?_eq_getElem (by omega)]; rfl
                rw [e]
                exact ⟨d + 1, hargs _ (List.getElem_mem _)⟩
            · cases hts
          · split at hts
            · split at hts
              · simp only [Option.some.injEq] at hts
                subst hts
                simp at hm
              · cases hts
            · split at hts
              · simp only [Option.some.injEq] at hts
                subst hts
                exact ⟨d + 1, hargs _ hm⟩
              · cases hts

theorem args_ok {T : Ty} {x : Va} (hf : ∃ d, formedB d T = true) (hfit : fitsF T x = true) : ArgsOk T x := by
  obtain ⟨d, hd⟩ := hf
  refine ⟨(formed_args hd).1, fun h12 => ?_⟩
  simp only [fitsF, Bool.and_eq_true] at hfit
  have hN := hfit.1.1.1.1.2
  unfold fitsNF at hN
  rw [h12] at hN
  simpa using hN

theorem parts_left {T : Ty} {x : Va} {l : List (Ty × Va)} (hp : partsOf T x = some l) : leftP l = vsizes x.args ∧ l.length = x.args.length := by
  simp only [partsOf, Option.map_eq_some_iff] at hp
  obtain ⟨ts, hts, rfl⟩ := hp
  have := argTys_len hts
  exact ⟨leftP_zip ts x.args this.symm, by simp; omega⟩

/-- where Has stands -/
def HRel (w W : World) (T : Ty) (x : Va) (n : Nat) (mv tv : Value) (wr : World) : Prop :=
  ∃ (C : List (Ty × Va)) (cs : List (Value × Value)) (M : List (List Va)) (us : List Value), OwnsK W.heap.size wr tv cs ∧ ClaimsOk w C cs ∧ OwnsV W.heap.size wr mv us ∧ MapsOk w M us ∧ (C.all hasP && M.all risesF) = hasV x T ∧ (∀ p ∈ C, ∃ d, formedB d p.1 = true) ∧ leftP C = n ∧ M.length + n ≤ x.size ∧ W.grownBy wr none

set_option maxRecDepth 100000 in
set_option maxHeartbeats 4000000 in
theorem has_yes {w : World} {T : Ty} {x : Va} {u v : Value} (hT : LiesT (fun _ => True) w T u) (hV : LiesV (fun _ => True) w x v) (hz : x.size ≤ 20000000) (hgd : goodTy T = true) (W : World) (hW : w.grownBy W none) :
    Calls Try.prog 10 #[u, v] W fun e w' => e = .returned (.bool (hasV x T)) ∧ W.grownBy w' none := by
  obtain ⟨k1, n1, a1, s1, aa1, al1, ac1, ta1, tl1, tc1, na1, nl1, nc1, rfl⟩ := hV.vaV
  have hL3 := hT
  obtain ⟨a, c, V, rfl, it, hRT⟩ := hT.inv
  obtain ⟨μ, hμ⟩ := least_of (fun n (p : Value × Value × World) => HRel w W T x n p.1 p.2.1 p.2.2)
  have HG : Hid (∀ W2, W.grownBy W2 none → Calls Try.prog 29 #[tyV T.t a T.args.length c] W2 fun e w' => e = .returned (.bool true) ∧ W2.grownBy w' none) := fun W2 h2 => by
    have := kgood_any (LiesT.up hT (Lf.gbt hW h2)); rw [hgd] at this; exact this
  have HT := Lf.hide hT
  have HV := Lf.hide hV
  have HM := Lf.hide hμ
  have HW := Lf.hide hW
  have HZ := Lf.hide hz
  have HGD := Lf.hide hgd
  clear hT hV hμ hW hz hgd hL3 hRT it
  generalize hr : hasV x T = r
  have HR := Lf.hide hr
  clear hr
  unfold tyV vaV at *
  go_enter Try.func10, Try.ntmps10
  go_wp2_with fail
  refine (HG.out _ (Lf.gbt (Lf.gb _) (Lf.gb _))).mono ?_; rintro e w1 ⟨rfl, hg1⟩
  have hb0 := (hg1.block _ (Array.getElem?_eq_some_iff.1 (res_new W (.cells #[.int .i64 T.t, .slice a T.args.length c] 24) (.cells #[.int .i64 k1, .int .i64 n1, .int .i64 a1, .string s1, .slice aa1 al1 ac1, .slice ta1 tl1 tc1, .slice na1 nl1 nc1] 28))).1 (by simp)).trans (res_new W (.cells #[.int .i64 T.t, .slice a T.args.length c] 24) (.cells #[.int .i64 k1, .int .i64 n1, .int .i64 a1, .string s1, .slice aa1 al1 ac1, .slice ta1 tl1 tc1, .slice na1 nl1 nc1] 28))
  have hb1 := (hg1.block _ (Array.getElem?_eq_some_iff.1 (new_twoI W (.cells #[.int .i64 T.t, .slice a T.args.length c] 24) (.cells #[.int .i64 k1, .int .i64 n1, .int .i64 a1, .string s1, .slice aa1 al1 ac1, .slice ta1 tl1 tc1, .slice na1 nl1 nc1] 28))).1 (by simp)).trans (new_twoI W (.cells #[.int .i64 T.t, .slice a T.args.length c] 24) (.cells #[.int .i64 k1, .int .i64 n1, .int .i64 a1, .string s1, .slice aa1 al1 ac1, .slice ta1 tl1 tc1, .slice na1 nl1 nc1] 28))
  have c0 := cell0_of hb0
  have c1 := cell1_of hb0
  obtain ⟨d0, d1, d2, d3, d4, d5, d6⟩ := box7 hb1
  have HG1 := Lf.hide (Lf.gbt (Lf.gbt (Lf.gb _) (Lf.gb _)) hg1)
  clear hb0 hb1 hg1
  go_wp2_with fail
  go_loopw [5, 6] (fun mv tv wr => ∃ n, HRel w W T x n mv tv wr) (fun mv tv wr => μ (mv, tv, wr))
  case atStart =>
    refine ⟨x.size, [(T, x)], [(tyV T.t a T.args.length c, vaV k1 n1 a1 s1 aa1 al1 ac1 ta1 tl1 tc1 na1 nl1 nc1)], [], [], ?_, ⟨⟨HT.out, HV.out⟩, trivial⟩, World.ownsRow_nil _ _ _ _, trivial, ?_, ?_, leftP_one _, by simp, Lf.gbt HG1.out (Lf.gb _)⟩
    · exact ⟨rfl, .inr ⟨_, 1, _, rfl, HG1.out.size, heap_alloc_new _ _, Nat.le_refl _, by decide, rfl, rfl⟩⟩
    · simp [hasP, HR.out]
    · intro p hp
      simp at hp
      subst hp
      exact ⟨1, (goodTy_formed HGD.out).1⟩
  case round =>
    obtain ⟨n0, hn0⟩ := hrel
    obtain ⟨C, cs, M, us, hOK, hCO, hOV, hMO, hall, hform, hn, hle, hgr⟩ := (HM.out (u5, u6, wr) n0 hn0).1
    simp only at hOK hOV hgr
    have hz := HZ.out
    have hMl := hMO.len
    clear hn0 c0 c1 d0 d1 d2 d3 d4 d5 d6
    by_cases hv : cs.length = 0
    · obtain ⟨a0, cc0, rfl⟩ := own_empty hOK hv
      have hC0 : C = [] := List.length_eq_zero_iff.1 (by have := hCO.len; omega)
      have hres : r = M.all risesF := by rw [← HR.out, ← hall, hC0]; rfl
      obtain ⟨ma, mc, rfl, hMA⟩ := maps_at hOV hMO (by unfold maxLen; omega)
      have HCF := Lf.hide (contains_any (c := mc) hMA (Lf.gbt HW.out hgr))
      have HGR := Lf.hide hgr
      have HRE := Lf.hide hres
      generalize M.all risesF = q at *
      clear hOK hCO hOV hMO hall hform hn hle hgr hC0 hres hMA hv HM HG HT HV HR HGD hMl
      go_wp2_with fail
      refine HCF.out.mono ?_; rintro e w9 ⟨rfl, hg9⟩
      have HG9 := Lf.hide (Lf.gbt HGR.out hg9)
      clear hg9
      go_wp2_with fail
      go_ret
      exact Lf.retb (by rw [HRE.out]) HG9.out
    · have hne : cs ≠ [] := fun e => hv (by rw [e]; rfl)
      have e1 := (List.dropLast_concat_getLast hne).symm
      generalize cs.dropLast = cs' at e1
      generalize cs.getLast hne = q at e1
      subst e1
      obtain ⟨C', p, rfl, hCO', hLT, hLV⟩ := hCO.last
      obtain ⟨T2, x2⟩ := p
      obtain ⟨u2, v2⟩ := q
      simp only at hLT hLV
      obtain ⟨a2, c2, V2, rfl, it2, hRT2⟩ := hLT.inv
      obtain ⟨aa2, ac2, ta2, tc2, na2, nc2, VV2, VT2, VN2, rfl, ⟨ik2, iN2, ia2, hs2, hlc2⟩, hRV2, hRY2, hRN2⟩ := hLV.inv
      have hlv : (cs' ++ [(tyV T2.t a2 T2.args.length c2, vaV x2.k x2.n x2.a x2.s aa2 x2.args.length ac2 ta2 x2.types.length tc2 na2 x2.code.length nc2)]).length = cs'.length + 1 := by simp
      have hform2 := World.ownsRow.form hOK (by simp)
      rw [hlv] at hform2
      obtain ⟨g, cap, rfl, hgB, hglt⟩ := hform2
      unfold OwnsK at hOK
      rw [hlv, flatC_append] at hOK
      have hfl := (flatC_len hCO').1
      have hcap := own_cap hOK
      have hcap1 : cs'.length ≤ cap := by omega
      have hx2 : x2.size ≤ 20000000 ∧ leftP C' + x2.size = μ (u5, .slice (some ⟨g, 0, none⟩) (cs'.length + 1) cap, wr) := by
        have h1 := hn
        rw [leftP_append, leftP_one] at h1
        exact ⟨by simp only at h1; omega, h1⟩
      have hcl : cs'.length ≤ 20000000 := by
        have h1 := hCO'.len
        have h2 := len_leftP C'
        omega
      have g0 := own_cellN hOK hfl 0 _ rfl
      have g1 := own_cellN hOK hfl 1 _ rfl
      have g2 := own_cellN hOK hfl 2 _ rfl
      have g3 := own_cellN hOK hfl 3 _ rfl
      have g4 := own_cellN hOK hfl 4 _ rfl
      have g5 := own_cellN hOK hfl 5 _ rfl
      have g6 := own_cellN hOK hfl 6 _ rfl
      have g7 := own_cellN hOK hfl 7 _ rfl
      have g8 := own_cellN hOK hfl 8 _ rfl
      rw [Nat.add_zero] at g0
      have hcut := own_cutN hOK hfl
      have HOKC := Lf.hide hcut
      have HFit := Lf.hide (fun W2 (h2 : W.grownBy W2 none) => fits_any hLT hLV hx2.1 W2 (Lf.gbt HW.out h2))
      have HOfA := Lf.hide (fun (hok : ArgsOk T2 x2) W2 (h2 : W.grownBy W2 none) => ofArgs_any hLT hLV hok hx2.1 W2 (Lf.gbt HW.out h2))
      have hll := hRV2.1
      unfold maxLen at hll
      have hl3 := hRT2.1
      unfold maxLen at hl3
      have HRV2 := Lf.hide hRV2
      have HX2 := Lf.hide hx2
      have HCO := Lf.hide hCO'
      have HOV := Lf.hide hOV
      have HMO := Lf.hide hMO
      have HALL := Lf.hide hall
      have HFORM := Lf.hide hform
      have HLE := Lf.hide hle
      have HGR := Lf.hide hgr
      have HNN := Lf.hide hn
      clear hOK hCO hCO' hOV hMO hall hform hn hle hgr hne hv hlv hcut hLT hLV it2 ik2 iN2 ia2 hs2 hlc2 hRV2 hRY2 hRN2 hRT2 hx2 hcap hfl
      unfold tyV vaV at *
      go_wp2_with fail
      have HGN := Lf.hide (Lf.gbt HGR.out (Lf.gb (w := wr) (.cells #[.int .i64 T2.t, .slice a2 T2.args.length c2, .int .i64 x2.k, .int .i64 x2.n, .int .i64 x2.a, .string x2.s, .slice aa2 x2.args.length ac2, .slice ta2 x2.types.length tc2, .slice na2 x2.code.length nc2] 55)))
      have hap : ∀ (b : Bool), hasP (T2, x2) = b → (C'.all hasP && b && M.all risesF) = r := fun b hb => by
        rw [← HR.out, ← HALL.out, List.all_append, ← hb]; simp
      have HAP := Lf.hide hap
      have HHE : Hid (hasP (T2, x2) = (fitsF T2 x2 && (match partsOf T2 x2 with
        | none => false
        | some ps => ps.all hasP) && (!decide (T2.t = 13) || risesF x2.args))) := hasV_eq T2 x2
      have HFM : Hid (∃ d, formedB d T2 = true) := HFORM.out (T2, x2) (by simp)
      have hNB := heap_alloc_new wr (.cells #[.int .i64 T2.t, .slice a2 T2.args.length c2, .int .i64 x2.k, .int .i64 x2.n, .int .i64 x2.a, .string x2.s, .slice aa2 x2.args.length ac2, .slice ta2 x2.types.length tc2, .slice na2 x2.code.length nc2] 55)
      have HNB := Lf.hide hNB
      clear hap hNB g0 g1 g2 g3 g4 g5 g6 g7 g8
      refine (HFit.out _ HGN.out).mono ?_; rintro e w3 ⟨rfl, hg3⟩
      have hb3 := (hg3.block _ (Array.getElem?_eq_some_iff.1 HNB.out).1 (by simp)).trans HNB.out
      have HB3 := Lf.hide hb3
      obtain ⟨m0, m1, m2, m3, m4, m5, m6, m7, m8⟩ := box9 hb3
      have HG3 := Lf.hide (Lf.gbt HGN.out hg3)
      have HO3 := Lf.hide (World.ownsRow.kept (World.ownsRow.alloc HOKC.out (.cells #[.int .i64 T2.t, .slice a2 T2.args.length c2, .int .i64 x2.k, .int .i64 x2.n, .int .i64 x2.a, .string x2.s, .slice aa2 x2.args.length ac2, .slice ta2 x2.types.length tc2, .slice na2 x2.code.length nc2] 55)) hg3 (by cases (Value.slice (some ⟨g, 0, none⟩) cs'.length cap).ownBlock <;> simp))
      have HV3 := Lf.hide (World.ownsRow.kept (World.ownsRow.alloc HOV.out (.cells #[.int .i64 T2.t, .slice a2 T2.args.length c2, .int .i64 x2.k, .int .i64 x2.n, .int .i64 x2.a, .string x2.s, .slice aa2 x2.args.length ac2, .slice ta2 x2.types.length tc2, .slice na2 x2.code.length nc2] 55)) hg3 (by cases u5.ownBlock <;> simp))
      clear hb3 hg3
      cases hf : fitsF T2 x2 with
      | false =>
        have hre : r = false := by
          have h := HAP.out false (by rw [HHE.out, hf]; rfl)
          rw [← h]; simp
        have HRE := Lf.hide hre
        clear hre hf
        go_wp2_with fail
        go_ret
        exact Lf.retb HRE.out.symm HG3.out
      | true =>
        have HA := Lf.hide (HOfA.out (args_ok HFM.out hf) w3 HG3.out)
        have HF := Lf.hide hf
        clear hf
        go_wp2_with fail
        refine HA.out.mono ?_; rintro e w4 hpost
        rcases hpost with ⟨⟨hn, rfl⟩ | ⟨l, cv, ds, hn, rfl, ho, hc⟩, hg4⟩
        · have hre : r = false := by
            have h := HAP.out false (by rw [HHE.out, HF.out, hn]; rfl)
            rw [← h]; simp
          have HRE := Lf.hide hre
          have HG4 := Lf.hide (Lf.gbt HG3.out hg4)
          clear hre hn hg4
          go_wp2_with fail
          go_ret
          exact Lf.retb HRE.out.symm HG4.out
        · have hb4 := (hg4.block _ (Array.getElem?_eq_some_iff.1 HB3.out).1 (by simp)).trans HB3.out
          have HB4 := Lf.hide hb4
          obtain ⟨p0, p1, p2, p3, p4, p5, p6, p7, p8⟩ := box9 hb4
          have HG4 := Lf.hide (Lf.gbt HG3.out hg4)
          have HO4 := Lf.hide (World.ownsRow.kept HO3.out hg4 (by cases (Value.slice (some ⟨g, 0, none⟩) cs'.length cap).ownBlock <;> simp))
          have HV4 := Lf.hide (World.ownsRow.kept HV3.out hg4 (by cases u5.ownBlock <;> simp))
          obtain ⟨hpl, hpn⟩ := parts_left hn
          have hdl := hc.len
          have hvl := vlength_le x2.args
          have hve := vsize_eq x2
          have hxx := HX2.out
          have hlen9 : cs'.length + ds.length ≤ 50000000 := by omega
          have hW4 : W.heap.size ≤ w4.heap.size := HG4.out.size
          have HHL : Hid (hasP (T2, x2) = (l.all hasP && (!decide (T2.t = 13) || risesF x2.args))) := by
            show _ = _
            rw [HHE.out, HF.out, hn]; rfl
          have HLF := Lf.hide (parts_formed HFM.out HF.out hn)
          have HDS := Lf.hide ho
          have HC := Lf.hide hc
          have HN : Hid (leftP C' + leftP l < μ (u5, .slice (some ⟨g, 0, none⟩) (cs'.length + 1) cap, wr) ∧ M.length + 1 + (leftP C' + leftP l) ≤ x.size) := by
            have h1 := HLE.out
            have h2 := HNN.out
            refine ⟨by omega, by omega⟩
          have HFO : Hid (∀ p ∈ C' ++ l, ∃ d, formedB d p.1 = true) := fun p hp => by
            rcases List.mem_append.1 hp with hp | hp
            · exact HFORM.out p (by simp [hp])
            · exact HLF.out p hp
          clear ho hc hn hg4 hb4 hve hxx hpl hvl m0 m1 m2 m3 m4 m5 m6 m7 m8
          by_cases h13 : T2.t = 13
          · have hul : us.length ≤ 50000000 := by have := HN.out.2; have := HMO.out.len; omega
            have HROW : Hid (∃ a c V, (Value.slice aa2 x2.args.length ac2) = .slice a x2.args.length c ∧ RowVa (fun _ => True) w x2.args a V ∧ vsizes x2.args ≤ 20000000) := ⟨aa2, ac2, _, rfl, HRV2.out, by have := HX2.out; have := vsize_eq x2; omega⟩
            have HNX : Hid (∀ v5 w5 v' w', OwnsV W.heap.size w5 v5 (us ++ [.slice aa2 x2.args.length ac2]) → Gr w4 u5 w5 v5 → OwnsK W.heap.size w' v' (cs' ++ ds) → Gr w5 (.slice (some ⟨g, 0, none⟩) cs'.length cap) w' v' → ∃ m, m < μ (u5, .slice (some ⟨g, 0, none⟩) (cs'.length + 1) cap, wr) ∧ HRel w W T x m v5 v' w') := fun v5 w5 v' w' k1 k2 h1 h2 => by
              have hO5 := World.ownsRow.kept HO4.out k2.1 (own_apart HV4.out HO4.out (by decide))
              refine ⟨leftP (C' ++ l), by rw [leftP_append]; exact HN.out.1, C' ++ l, cs' ++ ds, M ++ [x2.args], us ++ [Value.slice aa2 x2.args.length ac2], h1, ClaimsOk.append HCO.out HC.out, (show OwnsV W.heap.size w' v5 (us ++ [Value.slice aa2 x2.args.length ac2]) from World.ownsRow.kept (show w5.ownsRow W.heap.size 25 1 v5 _ _ from k1) h2.1 (own_apart hO5 (show w5.ownsRow W.heap.size 25 1 v5 _ _ from k1) (by decide))), MapsOk.snoc HROW.out HMO.out, ?_, HFO.out, rfl, ?_, grow_own (grow_own HG4.out HV4.out (Nat.le_refl _) k2.1) hO5 (Nat.le_refl _) h2.1⟩
              · have h := HAP.out _ HHL.out
                rw [HR.out, ← h, List.all_append, List.all_append]
                simp [h13, Bool.and_assoc, Bool.and_comm, Bool.and_left_comm]
              · have := HN.out.2
                rw [leftP_append, List.length_append, List.length_singleton]; omega
            have HKK : Hid (∀ v5 w5, Gr w4 u5 w5 v5 → OwnsK W.heap.size w5 (.slice (some ⟨g, 0, none⟩) cs'.length cap) cs' ∧ SrcAt w5 cv ds.length (flatC ds) ∧ W.heap.size ≤ w5.heap.size) := fun v5 w5 k2 =>
              ⟨World.ownsRow.kept HO4.out k2.1 (own_apart HV4.out HO4.out (by decide)), own_src (World.ownsRow.kept HDS.out k2.1 (own_apart HV4.out HDS.out (by decide))), Nat.le_trans hW4 k2.1.size⟩
            have h13c : (T2.t == 13) = true := by simpa using h13
            clear h13
            go_wp2_with (first
              | (at_builtin; refine appV W.heap.size us aa2 x2.args.length ac2 w4 u5 rfl (.tmp 51) (.tmp 55) rfl rfl rfl rfl HV4.out hW4 hul ?_; intro v5 w5 ho5 hg5; have HV5 := Lf.hide ho5; have HGr5 := Lf.hide hg5; obtain ⟨hk1, hk2, hk3⟩ := HKK.out v5 w5 hg5; have HK1 := Lf.hide hk1; have HK2 := Lf.hide hk2; clear ho5 hg5 hk1 hk2)
              | (at_builtin; refine appK W.heap.size w (C := C') (D := l) (cs := cs') (ds := ds) _ (.slice (some ⟨g, 0, none⟩) cs'.length cap) cv rfl (.tmp 57) (.tmp 58) rfl rfl rfl HK2.out HC.out HK1.out (by assumption) hlen9 ?_; intro v' w6 ho' hg'; have HX6 := Lf.hide (HNX.out _ _ v' w6 HV5.out HGr5.out ho' hg'); clear ho' hg'))
            obtain ⟨m, h1, h2⟩ := HX6.out
            go_roundw
            case rel => exact ⟨m, h2⟩
            case measure => exact Nat.lt_of_le_of_lt (HM.out _ m h2).2 h1
          · have h13b : (T2.t == 13) = false := by simpa using h13
            have HNX : Hid (∀ v' w', OwnsK W.heap.size w' v' (cs' ++ ds) → Gr w4 (.slice (some ⟨g, 0, none⟩) cs'.length cap) w' v' → ∃ m, m < μ (u5, .slice (some ⟨g, 0, none⟩) (cs'.length + 1) cap, wr) ∧ HRel w W T x m u5 v' w') := fun v' w' h1 h2 => by
              refine ⟨leftP (C' ++ l), by rw [leftP_append]; exact HN.out.1, C' ++ l, cs' ++ ds, M, us, h1, ClaimsOk.append HCO.out HC.out, World.ownsRow.kept HV4.out h2.1 (own_apart HO4.out HV4.out (by decide)), HMO.out, ?_, HFO.out, rfl, ?_, grow_own HG4.out HO4.out (Nat.le_refl _) h2.1⟩
              · have h := HAP.out _ HHL.out
                rw [HR.out, ← h, List.all_append]
                simp [h13, Bool.and_assoc]
              · have := HN.out.2
                rw [leftP_append]; omega
            clear h13
            go_wp2_with (at_builtin; refine appK W.heap.size w (C := C') (D := l) (cs := cs') (ds := ds) w4 (.slice (some ⟨g, 0, none⟩) cs'.length cap) cv rfl (.tmp 57) (.tmp 58) rfl rfl rfl (own_src HDS.out) HC.out HO4.out hW4 hlen9 ?_; intro v' w6 ho' hg'; have HX6 := Lf.hide (HNX.out v' w6 ho' hg'); clear ho' hg')
            obtain ⟨m, h1, h2⟩ := HX6.out
            go_roundw
            case rel => exact ⟨m, h2⟩
            case measure => exact Nat.lt_of_le_of_lt (HM.out _ m h2).2 h1

theorem has_no {w : World} {T : Ty} {x : Va} {u v : Value} (hT : LiesT (fun _ => True) w T u) (hV : LiesV (fun _ => True) w x v) (hgd : goodTy T = false) (W : World) (hW : w.grownBy W none) :
    Calls Try.prog 10 #[u, v] W fun e w' => e = .returned (.bool false) ∧ W.grownBy w' none := by
  obtain ⟨k1, n1, a1, s1, aa1, al1, ac1, ta1, tl1, tc1, na1, nl1, nc1, rfl⟩ := hV.vaV
  have HG : Hid (∀ W2, W.grownBy W2 none → Calls Try.prog 29 #[u] W2 fun e w' => e = .returned (.bool false) ∧ W2.grownBy w' none) := fun W2 h2 => by
    have := kgood_any (LiesT.up hT (Lf.gbt hW h2)); rw [hgd] at this; exact this
  obtain ⟨a, c, V, rfl, it, hRT⟩ := hT.inv
  clear hT hV hW hgd hRT it
  unfold tyV vaV at *
  go_enter Try.func10, Try.ntmps10
  go_wp2_with fail
  refine (HG.out _ (Lf.gbt (Lf.gb _) (Lf.gb _))).mono ?_; rintro e w1 ⟨rfl, hg1⟩
  have HG1 := Lf.hide (Lf.gbt (Lf.gbt (Lf.gb _) (Lf.gb _)) hg1)
  clear hg1
  go_wp2_with fail
  go_ret
  exact ⟨rfl, HG1.out⟩

/-- Has, whatever type and value -/
theorem has_any {w : World} {T : Ty} {x : Va} {u v : Value} (hT : LiesT (fun _ => True) w T u) (hV : LiesV (fun _ => True) w x v) (hz : x.size ≤ 20000000) (W : World) (hW : w.grownBy W none) :
    Calls Try.prog 10 #[u, v] W fun e w' => e = .returned (.bool (hasF T x)) ∧ W.grownBy w' none := by
  unfold hasF
  cases hgd : goodTy T with
  | true => rw [Bool.true_and]; exact has_yes hT hV hz hgd W hW
  | false => rw [Bool.false_and]; exact has_no hT hV hgd W hW

end Go.Proofs.Ytmmgihaoahhkjaa
