/- treeOf by its contract: the tree of a value, told with a count. -/
import Derived.Test.YtmmgihaoahhkjaaTellW
import Derived.Test.YtmmgihaoahhkjaaOrd
namespace Go.Proofs.Ytmmgihaoahhkjaa
set_option maxRecDepth 20000
open Go.ChangeShapes Go.WideShapes Go.ChangeAt Go.RowKit
set_option linter.unusedVariables false

theorem own_lt_neW {w : World} {B : Nat} {e : TypeId} {size n : Nat} {v : Value} {xs : List Value} (h : w.ownsRow B e size v n xs) {y : Nat} (hy : y < B) : some y ≠ v.ownBlock := fun e => by have := (World.ownsRow.lt h y e.symm).1; omega

/-- the function that tells, as a value -/
def fnTell (cb tb : Nat) : Value := .func (.func 82) #[] #[.pointer (some ⟨cb, 0, none⟩), .pointer (some ⟨tb, 0, none⟩)]

def TellPost (cb c : Nat) (x : Va) (W : World) (e : Ending) (w' : World) : Prop :=
  W.grownBy w' (some cb) ∧ w'.heap[cb]? = some (.cells #[.int .i64 ((tellV c x).1 : Nat)] 3 (0, 0)) ∧ ∃ u, e = .returned u ∧ Lies (W.heap.size ≤ ·) w' (tellV c x).2 u

def TellOk (cb tb N : Nat) : Prop := ∀ (x : Va) (u : Value) (c : Nat) (W : World), x.size ≤ N → LiesV (· ≠ cb) W x u → W.heap[cb]? = some (.cells #[.int .i64 (c : Nat)] 3 (0, 0)) → W.heap[tb]? = some (.cells #[fnTell cb tb] 67 (0, 0)) → c ≤ 300 → x.size ≤ 20000000 →
  Calls Try.prog 82 #[u, .pointer (some ⟨cb, 0, none⟩), .pointer (some ⟨tb, 0, none⟩)] W (TellPost cb c x W)

structure TInv (W w : World) (cb tb : Nat) (B : Obj) (cj : Nat) (lv : Value) (ts : List Tr) (vs : List Value) : Prop where
  grown : W.grownBy w (some cb)
  blk : w.heap[W.heap.size]? = some B
  res : w.heap[W.heap.size + 1]? = some (.cells #[.int .i64 0, .int .i64 0, .int .i64 0, .string ⟨#[]⟩, .slice none 0 0] 39 (0, 0))
  cnt : w.heap[cb]? = some (.cells #[.int .i64 (cj : Nat)] 3 (0, 0))
  fn : w.heap[tb]? = some (.cells #[fnTell cb tb] 67 (0, 0))
  list : ListOk (W.heap.size + 1 + 1) w lv ts vs
  hz : W.heap.size + 1 + 1 ≤ w.heap.size

theorem lt_of_blk {w : World} {b : Nat} {o : Obj} (h : w.heap[b]? = some o) : b < w.heap.size := (Array.getElem?_eq_some_iff.1 h).1

theorem TInv.call {W w w' : World} {cb tb : Nat} {B : Obj} {cj : Nat} {lv : Value} {ts : List Tr} {vs : List Value} (h : TInv W w cb tb B cj lv ts vs) (hcl : cb < W.heap.size) (hg : w.grownBy w' none) : TInv W w' cb tb B cj lv ts vs :=
  ⟨grow_trans h.grown (grow_any hg), (hg.block _ (lt_of_blk h.blk) (by simp)).trans h.blk, (hg.block _ (lt_of_blk h.res) (by simp)).trans h.res, (hg.block _ (lt_of_blk h.cnt) (by simp)).trans h.cnt, (hg.block _ (lt_of_blk h.fn) (by simp)).trans h.fn, h.list.keep (rb := cb) (grow_any hg) (by omega), Nat.le_trans h.hz hg.size⟩

theorem TInv.told {W w w' : World} {cb tb : Nat} {B : Obj} {cj ck : Nat} {lv : Value} {ts : List Tr} {vs : List Value} (h : TInv W w cb tb B cj lv ts vs) (hcl : cb < W.heap.size) (hne : tb ≠ cb) (hg : w.grownBy w' (some cb)) (hc : w'.heap[cb]? = some (.cells #[.int .i64 (ck : Nat)] 3 (0, 0))) : TInv W w' cb tb B ck lv ts vs :=
  ⟨grow_trans h.grown hg, (hg.block _ (lt_of_blk h.blk) (by simp; omega)).trans h.blk, (hg.block _ (lt_of_blk h.res) (by simp; omega)).trans h.res, hc, (hg.block _ (lt_of_blk h.fn) (by simpa using hne)).trans h.fn, h.list.keep (rb := cb) hg (by omega), Nat.le_trans h.hz hg.size⟩

theorem TInv.push {W w w' : World} {cb tb S : Nat} {B : Obj} {cj : Nat} {lv lv' u : Value} {ts : List Tr} {vs : List Value} {t : Tr} (h : TInv W w cb tb B cj lv ts vs) (hcl : cb < W.heap.size) (htl : tb < W.heap.size) (hS : W.heap.size + 1 + 1 ≤ S) (hvS : ∀ k, lv.ownBlock = some k → k < S) (hL : Lies (S ≤ ·) w t u) (hg : Gr w lv w' lv') (ho : OwnsL (W.heap.size + 1 + 1) w' lv' (vs ++ [u])) : TInv W w' cb tb B cj lv' (ts ++ [t]) (vs ++ [u]) := by
  have key : ∀ {k : Nat} {o : Obj}, w.heap[k]? = some o → k < W.heap.size + 1 + 1 → w'.heap[k]? = some o := fun h1 h2 => (hg.block (lt_of_blk h1) (own_lt_neW h.list.own h2)).trans h1
  refine ⟨?_, key h.blk (by omega), key h.res (by omega), key h.cnt (by omega), key h.fn (by omega), h.list.push hS hvS hL hg ho, Nat.le_trans h.hz hg.1.size⟩
  exact ⟨hg.1.os.trans h.grown.os, hg.1.tape.trans h.grown.tape, hg.1.output.trans h.grown.output, Nat.le_trans h.grown.size hg.1.size, fun i hi hr => (hg.block (by have := h.grown.size; omega) (own_lt_neW h.list.own (by omega))).trans (h.grown.block i hi hr)⟩

theorem TInv.fin {W w0 w4 : World} {cb tb : Nat} {B : Obj} {cj : Nat} {lv : Value} {ts : List Tr} {vs : List Value} (h : TInv W w0 cb tb B cj lv ts vs) (hcl : cb < W.heap.size) (hg : w0.grownBy w4 none) {t : Tr} {ku nu pu : Int} {su : ByteArray} {au : Option Addr} {lu cu : Nat} (hL : Lies (W.heap.size + 1 + 1 ≤ ·) w4 t (nodeV ku nu pu su au lu cu)) :
    W.grownBy (set5 w4 (W.heap.size + 1) (.int .i64 ku) (.int .i64 nu) (.int .i64 pu) (.string su) (.slice au lu cu)) (some cb) ∧ (set5 w4 (W.heap.size + 1) (.int .i64 ku) (.int .i64 nu) (.int .i64 pu) (.string su) (.slice au lu cu)).heap[cb]? = some (.cells #[.int .i64 (cj : Nat)] 3 (0, 0)) ∧
    Lies (W.heap.size ≤ ·) (set5 w4 (W.heap.size + 1) (.int .i64 ku) (.int .i64 nu) (.int .i64 pu) (.string su) (.slice au lu cu)) t (nodeV ku nu pu su au lu cu) ∧ (set5 w4 (W.heap.size + 1) (.int .i64 ku) (.int .i64 nu) (.int .i64 pu) (.string su) (.slice au lu cu)).heap[W.heap.size + 1]? = some (.cells #[.int .i64 ku, .int .i64 nu, .int .i64 pu, .string su, .slice au lu cu] 39 (0, 0)) := by
  have h4 := h.call hcl hg
  have hgs := set5_grow w4 (W.heap.size + 1) (.int .i64 ku) (.int .i64 nu) (.int .i64 pu) (.string su) (.slice au lu cu)
  refine ⟨grow_new h4.grown hgs (by omega), (hgs.block cb (lt_of_blk h4.cnt) (by simp; omega)).trans h4.cnt, ?_, set5_block h4.res _ _ _ _ _⟩
  exact (hL.same (fun b o hb hlt => World.cell?_of_block (hgs.block b hlt (by simp; have : W.heap.size + 1 + 1 ≤ b := hb; omega)))).okMono (fun b _ hb => by have : W.heap.size + 1 + 1 ≤ b := hb; omega)

theorem tellV_eq (c : Nat) (x : Va) : tellV c x = ((tellVs (c + 1) x.args).1, writtenF x (tellVs (c + 1) x.args).2) := by cases x; rw [tellV]; rfl

theorem TInv.slice {W w : World} {cb tb : Nat} {B : Obj} {cj : Nat} {lv : Value} {ts : List Tr} {vs : List Value} (h : TInv W w cb tb B cj lv ts vs) : ∃ la lc, lv = .slice la vs.length lc := by
  obtain ⟨la, lc, _, hh, _, _⟩ := h.list.done
  exact ⟨la, lc, by rw [hh, h.list.len]⟩

/-- the trees are at hand for written -/
theorem TInv.wr {W w : World} {cb tb : Nat} {B : Obj} {cj : Nat} {la : Option Addr} {lc : Nat} {ts : List Tr} {vs : List Value} (h : TInv W w cb tb B cj (.slice la vs.length lc) ts vs) (hl : ts.length ≤ 20000000) (x : Va) (aa : Option Addr) (al ac : Nat) (ta : Option Addr) (tl tc : Nat) (na : Option Addr) (nl nc : Nat) (iN : I64 x.n) (hs : x.s.size ≤ maxLen) :
    Calls Try.prog 83 #[vaV x.k x.n x.a x.s aa al ac ta tl tc na nl nc, .slice la vs.length lc] w (WrPost (W.heap.size + 1 + 1 ≤ ·) w (writtenF x ts)) := by
  obtain ⟨a, c, V, hv, hn, hl2⟩ := h.list.done
  rw [hv]
  exact writ_any x aa al ac ta tl tc na nl nc ⟨by unfold maxLen; omega, hn, hl2⟩ (fun b hb => by have := h.hz; omega) (by omega) iN hs

end Go.Proofs.Ytmmgihaoahhkjaa

/- treeOf's own function by its contract, and treeOf. -/
namespace Go.Proofs.Ytmmgihaoahhkjaa
set_option maxRecDepth 20000
open Go.ChangeShapes Go.WideShapes Go.ChangeAt Go.RowKit
set_option linter.unusedVariables false

theorem grow_ofDrewT {w w' : World} {r : Option Nat} (h : w.drew.grownBy w' r) : w.grownBy w' r := ⟨h.os, h.tape, h.output, h.size, h.block⟩

theorem same_grown {cb : Nat} {w w' : World} (h : w.grownBy w' (some cb)) : Same (· ≠ cb) w w' := fun b o hb hlt => World.cell?_of_block (h.block b hlt (by simpa using hb))

set_option maxRecDepth 100000 in
set_option maxHeartbeats 2000000 in
theorem tell_step {cb tb N : Nat} (IH0 : TellOk cb tb N) : TellOk cb tb (N + 1) := by
  intro x u c W hsz hL hcb htb hc hz20
  obtain ⟨aa, ac, ta, tc, na, nc, V, VT, VN, rfl, ⟨ik, iN, ia, hs, hlc⟩, hRV, hRT, hRN⟩ := hL.inv
  have hcl : cb < W.heap.size := lt_of_blk hcb
  have htl : tb < W.heap.size := lt_of_blk htb
  have hne : tb ≠ cb := ne_of_type htb hcb (by decide)
  have hve := vsize_eq x
  have hvl := vlength_le x.args
  have hlm := hRV.1
  unfold maxLen at hlm
  have hla : x.args.length ≤ 20000000 := by omega
  have IH : Hid (∀ (j : Nat) (h : j < x.args.length) (cj : Nat) (W2 : World), LiesV (· ≠ cb) W2 x.args[j] (V j) → W2.heap[cb]? = some (.cells #[.int .i64 (cj : Nat)] 3 (0, 0)) → W2.heap[tb]? = some (.cells #[fnTell cb tb] 67 (0, 0)) → cj ≤ 300 →
      Calls Try.prog 82 #[V j, .pointer (some ⟨cb, 0, none⟩), .pointer (some ⟨tb, 0, none⟩)] W2 (TellPost cb cj x.args[j] W2)) := fun j h cj W2 h1 h2 h3 h4 => by
    have := vsize_mem (List.getElem_mem h)
    exact IH0 _ _ cj W2 (by omega) h1 h2 h3 h4 (by omega)
  have HRV := Lf.hide hRV
  have c1 := cell_of_one hcb
  have c2 := free_of_one hcb
  let BX : Obj := .cells #[.int .i64 x.k, .int .i64 x.n, .int .i64 x.a, .string x.s, .slice aa x.args.length ac, .slice ta x.types.length tc, .slice na x.code.length nc] 28
  have hI0 : TInv W (((W.setCell ⟨cb, 0, none⟩ (.int .i64 ((c : Int) + 1))).alloc BX).alloc (.cells #[.int .i64 0, .int .i64 0, .int .i64 0, .string ⟨#[]⟩, .slice none 0 0] 39)) cb tb BX (c + 1) (.slice none 0 0) [] [] := by
    have hg1 := grow_set (g := cb) (grow_refl W (some cb)) 0 none (.int .i64 ((c : Int) + 1))
    have hsz1 : (W.setCell ⟨cb, 0, none⟩ (.int .i64 ((c : Int) + 1))).heap.size = W.heap.size := set_size _ _ _
    have k2 : (W.setCell ⟨cb, 0, none⟩ (.int .i64 ((c : Int) + 1))).heap[cb]? = some (.cells #[.int .i64 ((c : Int) + 1)] 3 (0, 0)) := one_setCell hcb
    have k3 := (hg1.block tb htl (by simpa using hne)).trans htb
    generalize W.setCell ⟨cb, 0, none⟩ (.int .i64 ((c : Int) + 1)) = W1 at *
    have hg2 : W1.grownBy ((W1.alloc BX).alloc (.cells #[.int .i64 0, .int .i64 0, .int .i64 0, .string ⟨#[]⟩, .slice none 0 0] 39)) none := Lf.gbt (Lf.gb _) (Lf.gb _)
    have k0 := res_new W1 BX (.cells #[.int .i64 0, .int .i64 0, .int .i64 0, .string ⟨#[]⟩, .slice none 0 0] 39)
    have k1 := new_twoI W1 BX (.cells #[.int .i64 0, .int .i64 0, .int .i64 0, .string ⟨#[]⟩, .slice none 0 0] 39)
    rw [hsz1] at k0 k1
    refine ⟨grow_trans hg1 (grow_any hg2), k0, k1, (hg2.block _ (lt_of_blk k2) (by simp)).trans k2, (hg2.block _ (lt_of_blk k3) (by simp)).trans k3, ListOk.nil _ _, ?_⟩
    rw [World.size_alloc, World.size_alloc, hsz1]; exact Nat.le_refl _
  have HI0 := Lf.hide hI0
  have HTE := Lf.hide (tellV_eq c x)
  have HWRT : Hid (∀ (w : World) (cj : Nat) (la : Option Addr) (lc : Nat) (ts : List Tr) (vs : List Value), TInv W w cb tb BX cj (.slice la vs.length lc) ts vs → ts.length ≤ 20000000 →
      Calls Try.prog 83 #[vaV x.k x.n x.a x.s aa x.args.length ac ta x.types.length tc na x.code.length nc, .slice la vs.length lc] w (WrPost (W.heap.size + 1 + 1 ≤ ·) w (writtenF x ts))) := fun w cj la lc ts vs h1 h2 => h1.wr h2 x aa x.args.length ac ta x.types.length tc na x.code.length nc iN hs
  have hw1 : IntKind.i64.wrap ((c : Int) + 1) = ((c + 1 : Nat) : Int) := by rw [IntKind.wrap_i64]; omega
  clear IH0 hL hRV hRT hRN hI0 hcb htb ik iN ia hs hlc
  unfold vaV at *
  go_enter Try.func82, Try.ntmps82
  go_wp2_with fail
  go_loopw [5, 13] (fun lv iv wr => ∃ (j cj : Nat) (ts : List Tr) (vs : List Value), j ≤ x.args.length ∧ iv = .int .i64 j ∧ TInv W wr cb tb BX cj lv ts vs ∧ tellVs (c + 1) x.args = ((tellVs cj (x.args.drop j)).1, ts ++ (tellVs cj (x.args.drop j)).2) ∧ ts.length = j ∧ cj ≤ 301) (fun _ iv _ => x.args.length - (intOf iv).toNat)
  case atStart =>
    refine ⟨0, c + 1, [], [], Nat.zero_le _, rfl, ?_, by simp, rfl, by omega⟩
    exact HI0.out
  case round =>
    obtain ⟨j, cj, ts, vs, hj, rfl, hI, hte, htl2, hc301⟩ := hrel
    obtain ⟨la, lc, rfl⟩ := hI.slice
    have hvl2 : vs.length = j := by rw [hI.list.len, htl2]
    subst hvl2
    have HTL := Lf.hide htl2
    clear htl2
    have ctn := cell_of_one hI.cnt
    have fns := cell_of_one hI.fn
    unfold fnTell at fns
    have zcb : cb < wr.heap.size := lt_of_blk hI.cnt
    have ztb : tb < wr.heap.size := lt_of_blk hI.fn
    have zbx : W.heap.size < wr.heap.size := lt_of_blk hI.blk
    have zrs : W.heap.size + 1 < wr.heap.size := lt_of_blk hI.res
    by_cases hlt : vs.length < x.args.length
    · obtain ⟨b, o, rfl, hb, k', n', a', s', aa', al', ac', ta', tl', tc', na', nl', nc', hv, h0, h1, h2, h3, h4, h5, h6⟩ := (HRV.out.2.1 vs.length hlt).same (same_grown hI.grown)
      have hdrop : x.args.drop vs.length = x.args[vs.length] :: x.args.drop (vs.length + 1) := List.drop_eq_getElem_cons hlt
      have hbl : b < wr.heap.size := World.block_lt_of_cell? wr _ h0
      by_cases h300 : 300 < cj
      · have h300i : (300 : Int) < (cj : Int) := by omega
        have hend : tellVs (c + 1) x.args = (cj, ts) := by
          rw [hte, hdrop, tellVs, if_pos h300]; simp
        have HI := Lf.hide (hI.call hcl (Lf.gb (.cells #[.int .i64 k', .int .i64 n', .int .i64 a', .string s', .slice aa' al' ac', .slice ta' tl' tc', .slice na' nl' nc'] 28)))
        have HEND := Lf.hide hend
        obtain ⟨q0, q1, q2, q3, q4, q5, q6⟩ := box7 hI.blk
        clear hI hend hte hdrop hv hb IH HI0
        go_wp2_with fail
        refine (HWRT.out _ _ _ _ _ _ HI.out (by have := HTL.out; omega)).mono ?_; rintro e w4 ⟨hg4, u4, rfl, hL4⟩
        obtain ⟨ku, nu, pu, su, au, lu, cu, rfl⟩ := hL4.nodeV
        have HFIN := Lf.hide (HI.out.fin hcl hg4 hL4)
        have hr4 := (hg4.block _ (lt_of_blk HI.out.res) (by simp)).trans HI.out.res
        obtain ⟨r0, r1, r2, r3, r4⟩ := box5 hr4
        obtain ⟨p0, p1, p2, p3, p4⟩ := box5f hr4
        clear hg4 hL4 hr4
        unfold nodeV
        go_wp2_with fail
        change bodyPost _ _ _ _ _ (set5 w4 (W.heap.size + 1) (.int .i64 ku) (.int .i64 nu) (.int .i64 pu) (.string su) (.slice au lu cu))
        obtain ⟨f1, f2, f3, f4⟩ := HFIN.out
        generalize set5 w4 (W.heap.size + 1) (.int .i64 ku) (.int .i64 nu) (.int .i64 pu) (.string su) (.slice au lu cu) = wf at *
        obtain ⟨z0, z1, z2, z3, z4⟩ := box5 f4
        refine bodyPost_ret (v := nodeV ku nu pu su au lu cu) (by simp [results, Try.results82, go_sem, z0, z1, z2, z3, z4, nodeV]) rfl ⟨f1, ?_, _, rfl, ?_⟩
        · rw [HTE.out, HEND.out]; exact f2
        · rw [HTE.out, HEND.out]; exact f3
      · have h300i : ¬ (300 : Int) < (cj : Int) := by omega
        have hI1 := hI.call hcl (Lf.gb (.cells #[.int .i64 k', .int .i64 n', .int .i64 a', .string s', .slice aa' al' ac', .slice ta' tl' tc', .slice na' nl' nc'] 28))
        have hgx := grow_trans hI.grown (grow_any (r := some cb) (Lf.gb (w := wr) (.cells #[.int .i64 k', .int .i64 n', .int .i64 a', .string s', .slice aa' al' ac', .slice ta' tl' tc', .slice na' nl' nc'] 28)))
        have hih := IH.out vs.length hlt cj ((wr.alloc (.cells #[.int .i64 k', .int .i64 n', .int .i64 a', .string s', .slice aa' al' ac', .slice ta' tl' tc', .slice na' nl' nc'] 28))) ((HRV.out.2.2 vs.length hlt).same (same_grown hgx)) hI1.cnt hI1.fn (by omega)
        rw [hv] at hih
        have HIH := Lf.hide hih
        have HI1 := Lf.hide hI1
        have HOB : Hid (∀ k, (Value.slice la vs.length lc).ownBlock = some k → k < wr.heap.size) := fun k hk => (World.ownsRow.lt hI.list.own k hk).2
        have HSZ := Lf.hide hI.hz
        have HTE2 : Hid (tellVs (c + 1) x.args = ((tellVs (tellV cj x.args[vs.length]).1 (x.args.drop (vs.length + 1))).1, ts ++ [(tellV cj x.args[vs.length]).2] ++ (tellVs (tellV cj x.args[vs.length]).1 (x.args.drop (vs.length + 1))).2)) := by
          show _ = _
          rw [hte, hdrop, tellVs, if_neg h300]; simp
        have HM : Hid ((tellV cj x.args[vs.length]).1 ≤ 301) := (tell_most x.args[vs.length] cj (by omega)).2.1
        clear hih hI1 hgx hI hv hb hte hdrop HI0
        unfold vaV at HIH
        go_wp2_with fail
        refine HIH.out.mono ?_; rintro e w3 ⟨hg3, hc3, u, rfl, hLu⟩
        obtain ⟨ku, nu, pu, su, au, lu, cu, rfl⟩ := hLu.nodeV
        have HI3 := Lf.hide (HI1.out.told hcl hne hg3 hc3)
        have HLU := Lf.hide hLu
        clear hg3 hc3 hLu
        unfold nodeV
        go_wp2_with (at_builtin; refine appR (W.heap.size + 1 + 1) vs ku nu pu su au lu cu w3 (.slice la vs.length lc) rfl (.tmp 19) (.tmp 23) rfl rfl rfl rfl HI3.out.list.own HI3.out.hz (by omega) ?_; intro g cap w5 ho5 hg5; have HI5 := Lf.hide (HI3.out.push (S := (wr.alloc (.cells #[.int .i64 k', .int .i64 n', .int .i64 a', .string s', .slice aa' al' ac', .slice ta' tl' tc', .slice na' nl' nc'] 28)).heap.size) hcl htl (by have := HSZ.out; rw [World.size_alloc]; omega) (fun k hk => by have := HOB.out k hk; rw [World.size_alloc]; omega) HLU.out hg5 ho5); clear ho5 hg5)
        refine ⟨⟨vs.length + 1, _, _, _, by omega, by go_num, HI5.out, HTE2.out, by have := HTL.out; simp; omega, HM.out⟩, by simp [intOf]; omega⟩
    · have hje : vs.length = x.args.length := by omega
      have hend : tellVs (c + 1) x.args = (cj, ts) := by
        rw [hte, hje, List.drop_length, tellVs]; simp
      have HI := Lf.hide hI
      have HEND := Lf.hide hend
      obtain ⟨q0, q1, q2, q3, q4, q5, q6⟩ := box7 hI.blk
      have hlti : ¬ (vs.length : Int) < (x.args.length : Int) := by omega
      clear hI hend hte IH HI0 hje
      go_wp2_with fail
      refine (HWRT.out _ _ _ _ _ _ HI.out (by have := HTL.out; omega)).mono ?_; rintro e w4 ⟨hg4, u4, rfl, hL4⟩
      obtain ⟨ku, nu, pu, su, au, lu, cu, rfl⟩ := hL4.nodeV
      have HFIN := Lf.hide (HI.out.fin hcl hg4 hL4)
      have hr4 := (hg4.block _ (lt_of_blk HI.out.res) (by simp)).trans HI.out.res
      obtain ⟨r0, r1, r2, r3, r4⟩ := box5 hr4
      obtain ⟨p0, p1, p2, p3, p4⟩ := box5f hr4
      clear hg4 hL4 hr4
      unfold nodeV
      go_wp2_with fail
      change bodyPost _ _ _ _ _ (set5 w4 (W.heap.size + 1) (.int .i64 ku) (.int .i64 nu) (.int .i64 pu) (.string su) (.slice au lu cu))
      obtain ⟨f1, f2, f3, f4⟩ := HFIN.out
      generalize set5 w4 (W.heap.size + 1) (.int .i64 ku) (.int .i64 nu) (.int .i64 pu) (.string su) (.slice au lu cu) = wf at *
      obtain ⟨z0, z1, z2, z3, z4⟩ := box5 f4
      refine bodyPost_ret (v := nodeV ku nu pu su au lu cu) (by simp [results, Try.results82, go_sem, z0, z1, z2, z3, z4, nodeV]) rfl ⟨f1, ?_, _, rfl, ?_⟩
      · rw [HTE.out, HEND.out]; exact f2
      · rw [HTE.out, HEND.out]; exact f3

theorem new_2of4 (w : World) (o1 o2 o3 o4 : Obj) : ((((w.alloc o1).alloc o2).alloc o3).alloc o4).heap[w.heap.size + 1]? = some o2 := by
  have h1 := new_twoI w o1 o2
  exact heap_keep (heap_keep h1)

theorem tell_all (cb tb : Nat) : ∀ N, TellOk cb tb N
  | 0 => fun x u c W h => by have := vsize_pos x; omega
  | N + 1 => tell_step (tell_all cb tb N)

theorem store_fn (w : World) (fn : Fn) (x y : Array Value) (T : TypeId) : (store ⟨w.heap.size, 0, none⟩ (.func fn x y)).run Try.prog (w.alloc (.cells #[.nilFunc] T)) = .ok () (w.alloc (.cells #[.func fn x y] T)) := by
  rw [run_store _ _ _ _ _ rfl]
  simp [go_sem]

set_option maxRecDepth 100000 in
set_option maxHeartbeats 1000000 in
/-- treeOf, whatever value -/
theorem treeOf_any {W : World} {x : Va} {u : Value} (hL : LiesV (fun _ => True) W x u) (hz : x.size ≤ 20000000) :
    Calls Try.prog 45 #[u] W fun e w' => W.grownBy w' none ∧ ∃ v, e = .returned v ∧ Lies (W.heap.size ≤ ·) w' (toldF x) v := by
  obtain ⟨k1, n1, a1, s1, aa1, al1, ac1, ta1, tl1, tc1, na1, nl1, nc1, rfl⟩ := hL.vaV
  let W4 : World := (((W.alloc (.cells #[.int .i64 k1, .int .i64 n1, .int .i64 a1, .string s1, .slice aa1 al1 ac1, .slice ta1 tl1 tc1, .slice na1 nl1 nc1] 28)).alloc (.cells #[.int .i64 0, .int .i64 0, .int .i64 0, .string ⟨#[]⟩, .slice none 0 0] 39)).alloc (.cells #[.int .i64 0] 3)).alloc (.cells #[fnTell (W.heap.size + 1 + 1) (W.heap.size + 1 + 1 + 1)] 67)
  have hg : W.grownBy W4 none := Lf.gbt (Lf.gbt (Lf.gbt (Lf.gb _) (Lf.gb _)) (Lf.gb _)) (Lf.gb _)
  have hT := tell_all (W.heap.size + 1 + 1) (W.heap.size + 1 + 1 + 1) x.size x _ 0 W4 (Nat.le_refl _) (((hL.okMono (ok' := (· < W.heap.size)) (fun b hb _ => hb)).same (fun b o hb _ => World.cell?_of_block (hg.block b hb (by simp)))).okMono (fun b _ hb => by show b ≠ _; have : b < W.heap.size := hb; omega)) (new_3of4 _ _ _ _ _) (new_4of4 _ _ _ _ _) (by omega) hz
  have hr := new_2of4 W (.cells #[.int .i64 k1, .int .i64 n1, .int .i64 a1, .string s1, .slice aa1 al1 ac1, .slice ta1 tl1 tc1, .slice na1 nl1 nc1] 28) (.cells #[.int .i64 0, .int .i64 0, .int .i64 0, .string ⟨#[]⟩, .slice none 0 0] 39) (.cells #[.int .i64 0] 3) (.cells #[fnTell (W.heap.size + 1 + 1) (W.heap.size + 1 + 1 + 1)] 67)
  have HT := Lf.hide hT
  have HR := Lf.hide hr
  have HG := Lf.hide hg
  have HZ : Hid (W4.heap.size = W.heap.size + 1 + 1 + 1 + 1) := by show _ = _; simp [W4]
  have hst := store_fn (((W.alloc (.cells #[.int .i64 k1, .int .i64 n1, .int .i64 a1, .string s1, .slice aa1 al1 ac1, .slice ta1 tl1 tc1, .slice na1 nl1 nc1] 28)).alloc (.cells #[.int .i64 0, .int .i64 0, .int .i64 0, .string ⟨#[]⟩, .slice none 0 0] 39)).alloc (.cells #[.int .i64 0] 3))
  simp only [World.size_alloc] at hst
  clear hT hr hg hL hz
  unfold vaV at *
  go_enter Try.func45, Try.ntmps45
  go_wp2_with fail
  refine HT.out.mono ?_; rintro e w4 ⟨hg4, _, u4, rfl, hL4⟩
  obtain ⟨ku, nu, pu, su, au, lu, cu, rfl⟩ := hL4.nodeV
  have hr4 := (hg4.block _ (lt_of_blk HR.out) (by simp)).trans HR.out
  obtain ⟨r0, r1, r2, r3, r4⟩ := box5 hr4
  obtain ⟨p0, p1, p2, p3, p4⟩ := box5f hr4
  have HR4 := Lf.hide hr4
  have HG4 := Lf.hide (grow_new HG.out hg4 (by omega))
  have HL4 := Lf.hide hL4
  clear hg4 hL4 hr4
  unfold nodeV
  go_wp2_with fail
  change bodyPost _ _ _ _ _ (set5 w4 (W.heap.size + 1) (.int .i64 ku) (.int .i64 nu) (.int .i64 pu) (.string su) (.slice au lu cu))
  have hb' := set5_block HR4.out (.int .i64 ku) (.int .i64 nu) (.int .i64 pu) (.string su) (.slice au lu cu)
  have hgs := set5_grow w4 (W.heap.size + 1) (.int .i64 ku) (.int .i64 nu) (.int .i64 pu) (.string su) (.slice au lu cu)
  have hg' := grow_new HG4.out hgs (by omega)
  generalize set5 w4 (W.heap.size + 1) (.int .i64 ku) (.int .i64 nu) (.int .i64 pu) (.string su) (.slice au lu cu) = wf at *
  obtain ⟨z0, z1, z2, z3, z4⟩ := box5 hb'
  refine bodyPost_ret (v := nodeV ku nu pu su au lu cu) (by simp [results, Try.results45, go_sem, z0, z1, z2, z3, z4, nodeV]) rfl ⟨hg', _, rfl, ?_⟩
  have h5 := HL4.out
  rw [HZ.out] at h5
  exact (h5.same (fun b o hb hlt => World.cell?_of_block (hgs.block b hlt (by simp; have : W.heap.size + 1 + 1 + 1 + 1 ≤ b := hb; omega)))).okMono (fun b _ hb => by have : W.heap.size + 1 + 1 + 1 + 1 ≤ b := hb; omega)

end Go.Proofs.Ytmmgihaoahhkjaa
