/- What a value's Args must be: oneEach, items and ofArgs by their contracts. -/
import Derived.Test.YtmmgihaoahhkjaaBasis
import Derived.Test.YtmmgihaoahhkjaaValA
import Derived.Test.YtmmgihaoahhkjaaGrowA
import Derived.Deep.RegionHeld3
import Derived.Deep.DeepCutAuto
namespace Go.Proofs.Ytmmgihaoahhkjaa
open Go.ChangeShapes Go.WideShapes Go.ChangeAt Go.RowKit
set_option linter.unusedVariables false

theorem info_cl : (Try.prog.info? 55).map (fun i => (i.zero, i.size, i.bytes)) = some (some (.agg #[.int .i64 0, .slice none 0 0, .int .i64 0, .int .i64 0, .int .i64 0, .string ⟨#[]⟩, .slice none 0 0, .slice none 0 0, .slice none 0 0]), 9, 144) := by kernel_rfl

def aggC : Value → List Value
  | .agg xs => xs.toList
  | _ => []

/-- the cells of claims -/
def flatC (cs : List (Value × Value)) : List Value := cs.flatMap fun p => aggC p.1 ++ aggC p.2

def OwnsK (B : Nat) (w : World) (v : Value) (cs : List (Value × Value)) : Prop := w.ownsRow B 55 9 v cs.length (flatC cs)

/-- each claim's type and value lie in w -/
def ClaimsOk (w : World) : List (Ty × Va) → List (Value × Value) → Prop
  | [], [] => True
  | p :: C, q :: cs => (LiesT (fun _ => True) w p.1 q.1 ∧ LiesV (fun _ => True) w p.2 q.2) ∧ ClaimsOk w C cs
  | [], _ :: _ => False
  | _ :: _, [] => False

theorem flatC_append (a b : List (Value × Value)) : flatC (a ++ b) = flatC a ++ flatC b := by simp [flatC]

theorem ClaimsOk.len {w : World} : ∀ {C : List (Ty × Va)} {cs : List (Value × Value)}, ClaimsOk w C cs → cs.length = C.length
  | [], [], _ => rfl
  | _ :: _, _ :: _, h => by simp [ClaimsOk.len h.2]
  | [], _ :: _, h => h.elim
  | _ :: _, [], h => h.elim

theorem ClaimsOk.append {w : World} : ∀ {C D : List (Ty × Va)} {cs ds : List (Value × Value)}, ClaimsOk w C cs → ClaimsOk w D ds → ClaimsOk w (C ++ D) (cs ++ ds)
  | [], D, [], ds, _, h => h
  | _ :: _, _, _ :: _, _, h, k => ⟨h.1, ClaimsOk.append h.2 k⟩
  | [], _, _ :: _, _, h, _ => h.elim
  | _ :: _, _, [], _, h, _ => h.elim

theorem ClaimsOk.last {w : World} {cs : List (Value × Value)} {q : Value × Value} : ∀ {C : List (Ty × Va)}, ClaimsOk w C (cs ++ [q]) → ∃ C' p, C = C' ++ [p] ∧ ClaimsOk w C' cs ∧ LiesT (fun _ => True) w p.1 q.1 ∧ LiesV (fun _ => True) w p.2 q.2 := by
  induction cs with
  | nil =>
    intro C h
    match C, h with
    | [p], h => exact ⟨[], p, rfl, trivial, h.1.1, h.1.2⟩
    | _ :: _ :: _, h => exact h.2.elim
    | [], h => exact h.elim
  | cons x cs ih =>
    intro C h
    match C, h with
    | r :: C, h =>
      obtain ⟨C', p, rfl, h1, h2⟩ := ih h.2
      exact ⟨r :: C', p, rfl, ⟨h.1, h1⟩, h2⟩
    | [], h => exact h.elim

theorem nine {w : World} {T : Ty} {x : Va} {u v : Value} (h1 : LiesT (fun _ => True) w T u) (h2 : LiesV (fun _ => True) w x v) : (aggC u ++ aggC v).length = 9 ∧ ∀ z ∈ aggC u ++ aggC v, z.oneCell' = true := by
  obtain ⟨a, c, V, rfl, it, hR⟩ := h1.inv
  obtain ⟨k, n, aa, s, p, al, ac, ta, tl, tc, na, nl, nc, rfl⟩ := h2.vaV
  refine ⟨rfl, fun z hz => ?_⟩
  simp [aggC, tyV, vaV] at hz
  rcases hz with rfl | rfl | rfl | rfl | rfl | rfl | rfl | rfl | rfl <;> rfl

theorem flatC_len {w : World} : ∀ {C : List (Ty × Va)} {cs : List (Value × Value)}, ClaimsOk w C cs → (flatC cs).length = cs.length * 9 ∧ ∀ z ∈ flatC cs, z.oneCell' = true
  | [], [], _ => ⟨rfl, fun z hz => by simp [flatC] at hz⟩
  | p :: C, q :: cs, h => by
    obtain ⟨e1, e2⟩ := flatC_len h.2
    obtain ⟨n1, n2⟩ := nine h.1.1 h.1.2
    have e : flatC (q :: cs) = (aggC q.1 ++ aggC q.2) ++ flatC cs := by simp [flatC]
    rw [e]
    refine ⟨by rw [List.length_append, n1, e1, List.length_cons]; omega, fun z hz => ?_⟩
    rcases List.mem_append.1 hz with hz | hz
    · exact n2 z hz
    · exact e2 z hz
  | [], _ :: _, h => h.elim
  | _ :: _, [], h => h.elim

end Go.Proofs.Ytmmgihaoahhkjaa

/- oneEach by its contract. -/
namespace Go.Proofs.Ytmmgihaoahhkjaa
open Go.ChangeShapes Go.WideShapes Go.ChangeAt Go.RowKit
set_option linter.unusedVariables false

/-- types whose list lies in W, and they themselves in w -/
def TysAt (w W : World) (ts : List Ty) (a : Option Addr) (U : Nat → Value) : Prop :=
  ts.length ≤ maxLen ∧ ∀ i (h : i < ts.length), TyAt (fun _ => True) W a i (U i) ∧ LiesT (fun _ => True) w ts[i] (U i)

theorem TysAt.grow {w W W2 : World} {ts : List Ty} {a : Option Addr} {U : Nat → Value} (h : TysAt w W ts a U) (hg : W.grownBy W2 none) : TysAt w W2 ts a U :=
  ⟨h.1, fun i hi => ⟨(h.2 i hi).1.same (sameAll hg), (h.2 i hi).2⟩⟩

theorem TysAt.of {w W : World} {ts : List Ty} {a : Option Addr} {U : Nat → Value} (h : RowT (fun _ => True) w ts a U) (hg : w.grownBy W none) : TysAt w W ts a U :=
  ⟨h.1, fun i hi => ⟨(h.2.1 i hi).same (sameAll hg), h.2.2 i hi⟩⟩

theorem oneEach_no {list : List Va} {ts : List Ty} {la ta : Option Addr} {lc tc : Nat} (hl : list.length ≤ maxLen) (ht : ts.length ≤ maxLen) (hne : list.length ≠ ts.length) (W : World) :
    Calls Try.prog 69 #[.slice la list.length lc, .slice ta ts.length tc] W fun e w' => e = .returned (.tuple #[.slice none 0 0, .bool false]) ∧ w' = W := by
  unfold maxLen at hl ht
  have z1 : ((list.length : Int) == (ts.length : Int)) = false := by rw [beq_eq_false_iff_ne]; omega
  have z2 : ((list.length : Int) != (ts.length : Int)) = true := by rw [bne_iff_ne]; omega
  have z3 : ¬ (list.length : Int) = (ts.length : Int) := by omega
  go_enter Try.func69, Try.ntmps69
  go_wp2_with fail
  go_ret2
  exact ⟨rfl, rfl⟩

set_option maxRecDepth 100000 in
set_option maxHeartbeats 1000000 in
theorem growK_any (n : Nat) (hn : n ≤ 20000000) (W : World) :
    Calls Try.prog 102 #[.slice none 0 0, .int .i64 n] W fun e w' => ∃ v, e = .returned v ∧ w'.ownsRow W.heap.size 55 9 v 0 [] ∧ W.grownBy w' none := by
  have h63 : (n : Int) ≤ 20000000 := by omega
  have h0n : ¬ (n : Int) < 0 := by omega
  by_cases h : n = 0
  · subst h
    go_enter Try.func102, Try.ntmps102
    go_wp2_with fail
    go_ret
    exact ⟨_, rfl, World.ownsRow_nil _ _ _ _, grow_refl _ _⟩
  · obtain ⟨g, cap, w1, hr, ho, hg, hc, hc2⟩ := zeros_own W 57 3 57 55 .i64 .i64 _ 9 144 info_cl Try.underlying57 Try.underlying3 n (by omega) (by decide) rfl (by omega) (by decide)
    have hpos : (n : Int) > 0 := by omega
    have HO := Lf.hide ho
    have HG := Lf.hide hg
    clear ho hg
    go_enter Try.func102, Try.ntmps102
    go_wp2_with (at_builtin; refine Lib.wpList_append_run _ rfl _ _ _ _ rfl _ _ rfl rfl _ _ hr ?_)
    go_ret
    exact ⟨_, rfl, HO.out, HG.out⟩

/-- one claim put behind claims of the call's own, at a step of a region that draws its order -/
theorem stepK {ops : Array Oper} {o : Oper} {a : Act} {K : Act → World → Prop} {Q : Exit → Act → World → Prop} {E : Prop} (B : Nat) (cs : List (Value × Value)) (t : Int) (ta : Option Addr) (tl tc : Nat) (k n aa : Int) (st : ByteArray) (pa : Option Addr) (pl pc : Nat) (ya : Option Addr) (yl yc : Nat) (na : Option Addr) (nl nc : Nat) (w0 : World) (v : Value) (hgd : o.guard = none) (s x : Operand)
    (ho : o.op = .call { callee := .builtin .append, args := #[s, x], argTypes := #[57, 57] }) (hs : a.eval s = v) {H : Nat} (hx : a.eval x = .slice (some ⟨H, 0, none⟩) 1 1) (hH : w0.heap.size = H)
    (hown : OwnsK B w0 v cs) (hB : B ≤ w0.heap.size) (hlen : cs.length ≤ 20000000)
    (h : ∀ v' w', OwnsK B w' v' (cs ++ [(tyV t ta tl tc, vaV k n aa st pa pl pc ya yl yc na nl nc)]) → Gr w0 v w' v' → K (a.put o.dst v') w') :
    if Region.wanted o (yielded ops a.tmps) = true then Oper.wp Try.prog o a (w0.alloc (.cells #[.int .i64 t, .slice ta tl tc, .int .i64 k, .int .i64 n, .int .i64 aa, .string st, .slice pa pl pc, .slice ya yl yc, .slice na nl nc] 55)) K Q else E := by
  subst hH
  refine step_app hgd s x 57 ho B 55 Try.underlying57 info_cl rfl (by decide) v cs.length (flatC cs) hs (World.ownsRow.alloc hown _) _ 1 [.int .i64 t, .slice ta tl tc, .int .i64 k, .int .i64 n, .int .i64 aa, .string st, .slice pa pl pc, .slice ya yl yc, .slice na nl nc] hx rfl (SrcAt.new _ _ _ _ _) ?_ ?_ ?_ ?_ ?_
  · intro u hu; simp at hu; rcases hu with rfl | rfl | rfl | rfl | rfl | rfl | rfl | rfl | rfl <;> rfl
  · unfold maxLen; omega
  · omega
  · simp; omega
  · intro v' w' h1 h2 _
    exact h v' w' (by unfold OwnsK; rw [flatC_append, List.length_append]; exact h1) (Gr.trans (Gr.alloc (Gr.refl w0 v) _) h2)

/-- the same behind the draw: one claim put behind claims of the call's own, at a step of a region that draws its order -/
theorem stepKd {ops : Array Oper} {o : Oper} {a : Act} {K : Act → World → Prop} {Q : Exit → Act → World → Prop} {E : Prop} (B : Nat) (cs : List (Value × Value)) (t : Int) (ta : Option Addr) (tl tc : Nat) (k n aa : Int) (st : ByteArray) (pa : Option Addr) (pl pc : Nat) (ya : Option Addr) (yl yc : Nat) (na : Option Addr) (nl nc : Nat) (w0 : World) (v : Value) (hgd : o.guard = none) (s x : Operand)
    (ho : o.op = .call { callee := .builtin .append, args := #[s, x], argTypes := #[57, 57] }) (hs : a.eval s = v) {H : Nat} (hx : a.eval x = .slice (some ⟨H, 0, none⟩) 1 1) (hH : w0.heap.size = H)
    (hown : OwnsK B w0 v cs) (hB : B ≤ w0.heap.size) (hlen : cs.length ≤ 20000000)
    (h : ∀ v' w', OwnsK B w' v' (cs ++ [(tyV t ta tl tc, vaV k n aa st pa pl pc ya yl yc na nl nc)]) → Gr w0 v w' v' → K (a.put o.dst v') w') :
    if Region.wanted o (yielded ops a.tmps) = true then Oper.wp Try.prog o a (w0.alloc (.cells #[.int .i64 t, .slice ta tl tc, .int .i64 k, .int .i64 n, .int .i64 aa, .string st, .slice pa pl pc, .slice ya yl yc, .slice na nl nc] 55)).drew K Q else E :=
  stepK B cs t ta tl tc k n aa st pa pl pc ya yl yc na nl nc w0.drew v hgd s x ho hs hx hH hown hB hlen (fun v' w' h1 h2 => h v' w' h1 h2.ofDrew)

theorem zip_take_snoc (ts : List Ty) (l : List Va) (j : Nat) (h1 : j < ts.length) (h2 : j < l.length) : (ts.zip l).take (j + 1) = (ts.zip l).take j ++ [(ts[j], l[j])] := by
  rw [List.take_succ_eq_append_getElem (by simp; omega)]
  simp

set_option maxRecDepth 100000 in
set_option maxHeartbeats 2000000 in
theorem oneEach_any {w W : World} {list : List Va} {ts : List Ty} {la ta : Option Addr} {lc tc : Nat} {V U : Nat → Value} (hL : RowVa (fun _ => True) w list la V) (hT : TysAt w W ts ta U) (hW : w.grownBy W none) (heq : list.length = ts.length) (hz : list.length ≤ 20000000) :
    Calls Try.prog 69 #[.slice la list.length lc, .slice ta ts.length tc] W fun e w' => ∃ cv cs, e = .returned (.tuple #[cv, .bool true]) ∧ OwnsK W.heap.size w' cv cs ∧ ClaimsOk w (ts.zip list) cs ∧ W.grownBy w' none := by
  have hl := hL.1
  unfold maxLen at hl
  have HL := Lf.hide hL
  have HT := Lf.hide hT
  have HW := Lf.hide hW
  have HE := Lf.hide heq
  have hZ := hz
  have HGK := Lf.hide (growK_any list.length hz W)
  rw [← heq]
  clear hL hT hW heq
  go_enter Try.func69, Try.ntmps69
  go_wp2_with fail
  refine HGK.out.mono ?_; rintro e w1 ⟨cv0, rfl, hown0, hg0⟩
  have HO0 := Lf.hide hown0
  have HG0 := Lf.hide hg0
  clear hown0 hg0 HGK
  go_wp2_with fail
  go_loopw [6, 19] (fun cv iv wr => ∃ (j : Nat) (cs : List (Value × Value)), j ≤ list.length ∧ iv = .int .i64 j ∧ OwnsK W.heap.size wr cv cs ∧ ClaimsOk w ((ts.zip list).take j) cs ∧ W.grownBy wr none) (fun _ iv _ => list.length - (intOf iv).toNat)
  case atStart => exact ⟨0, [], Nat.zero_le _, rfl, HO0.out, trivial, HG0.out⟩
  case round =>
    obtain ⟨j, cs, hj, rfl, hown, hcl, hgr⟩ := hrel
    by_cases hlt : j < list.length
    · have hgw := Lf.gbt HW.out hgr
      have hltT : j < ts.length := by rw [← HE.out]; exact hlt
      obtain ⟨hTA, hLT⟩ := (HT.out.grow hgr).2 j hltT
      obtain ⟨b0, o0, t0, a0, l0, c0, rfl, _, hv0, t1, t2⟩ := hTA.cells
      have hLV := HL.out.2.2 j hlt
      obtain ⟨b3, o3, rfl, _, k1, n1, a1, s1, aa1, al1, ac1, ta1, tl1, tc1, na1, nl1, nc1, hv1, e0, e1, e2, e3, e4, e5, e6⟩ := (HL.out.2.1 j hlt).same (sameAll hgw)
      rw [hv0] at hLT
      rw [hv1] at hLV
      have q0 : b0 < wr.heap.size := World.block_lt_of_cell? wr _ t1
      have q3 : b3 < wr.heap.size := World.block_lt_of_cell? wr _ e0
      have hlc := hcl.len
      have hlc2 : cs.length ≤ 20000000 := by rw [hlc]; simp; omega
      have hB : W.heap.size ≤ wr.heap.size := hgr.size
      have hj2 : (j : Int) < (list.length : Int) := by omega
      have hb0W : b0 < W.heap.size := by
        obtain ⟨hTA2, _⟩ := HT.out.2 j hltT
        obtain ⟨b0', o0', t0', a0', l0', c0', hae, _, _, t1', _⟩ := hTA2.cells
        simp only [Option.some.injEq, Addr.mk.injEq, and_true] at hae
        obtain ⟨rfl, rfl⟩ := hae
        exact World.block_lt_of_cell? W _ t1'
      have n0 : some b0 ≠ u6.ownBlock := fun e => by have := (World.ownsRow.lt hown b0 e.symm).1; omega
      have n3 : some wr.heap.size ≠ u6.ownBlock := fun e => by have := (World.ownsRow.lt hown wr.heap.size e.symm).2; omega
      have hvb := heap_alloc_new wr (.cells #[.int .i64 k1, .int .i64 n1, .int .i64 a1, .string s1, .slice aa1 al1 ac1, .slice ta1 tl1 tc1, .slice na1 nl1 nc1] 28)
      have hown5 := World.ownsRow.alloc hown (.cells #[.int .i64 k1, .int .i64 n1, .int .i64 a1, .string s1, .slice aa1 al1 ac1, .slice ta1 tl1 tc1, .slice na1 nl1 nc1] 28)
      have hg5 := Lf.gbt hgr (Lf.gb (w := wr) (.cells #[.int .i64 k1, .int .i64 n1, .int .i64 a1, .string s1, .slice aa1 al1 ac1, .slice ta1 tl1 tc1, .slice na1 nl1 nc1] 28))
      have t15 := (World.cell?_of_block (heap_alloc_old (w := wr) (o := (.cells #[.int .i64 k1, .int .i64 n1, .int .i64 a1, .string s1, .slice aa1 al1 ac1, .slice ta1 tl1 tc1, .slice na1 nl1 nc1] 28)) (h := q0))).trans t1
      have t25 := (World.cell?_of_block (heap_alloc_old (w := wr) (o := (.cells #[.int .i64 k1, .int .i64 n1, .int .i64 a1, .string s1, .slice aa1 al1 ac1, .slice ta1 tl1 tc1, .slice na1 nl1 nc1] 28)) (h := q0))).trans t2
      have hsz5 : (wr.alloc (.cells #[.int .i64 k1, .int .i64 n1, .int .i64 a1, .string s1, .slice aa1 al1 ac1, .slice ta1 tl1 tc1, .slice na1 nl1 nc1] 28)).heap.size = wr.heap.size + 1 := by simp
      have hj63 : j < 9223372036854775807 := by omega
      clear hj2 hgw hTA
      go_wp2_with fail
      generalize wr.alloc (.cells #[.int .i64 k1, .int .i64 n1, .int .i64 a1, .string s1, .slice aa1 al1 ac1, .slice ta1 tl1 tc1, .slice na1 nl1 nc1] 28) = w5 at *
      have td1 : ∀ W3 : World, w5.grownBy W3 u6.ownBlock → W3.cell? ⟨b0, o0 + j * 2, none⟩ = some (.int .i64 t0) := fun W3 h => (World.cell?_of_block (h.block b0 (by omega) n0)).trans t15
      have td2 : ∀ W3 : World, w5.grownBy W3 u6.ownBlock → W3.cell? ⟨b0, o0 + j * 2 + 1, none⟩ = some (.slice a0 l0 c0) := fun W3 h => (World.cell?_of_block (h.block b0 (by omega) n0)).trans t25
      have vk : ∀ W3 : World, w5.grownBy W3 u6.ownBlock → W3.heap[wr.heap.size]? = _ := fun W3 h => (h.block wr.heap.size (by omega) n3).trans hvb
      have vd0 : ∀ W3 : World, w5.grownBy W3 u6.ownBlock → W3.cell? ⟨wr.heap.size, 0, none⟩ = some (.int .i64 k1) := fun W3 h => (box7 (vk W3 h)).1
      have vd1 : ∀ W3 : World, w5.grownBy W3 u6.ownBlock → W3.cell? ⟨wr.heap.size, 1, none⟩ = some (.int .i64 n1) := fun W3 h => (box7 (vk W3 h)).2.1
      have vd2 : ∀ W3 : World, w5.grownBy W3 u6.ownBlock → W3.cell? ⟨wr.heap.size, 2, none⟩ = some (.int .i64 a1) := fun W3 h => (box7 (vk W3 h)).2.2.1
      have vd3 : ∀ W3 : World, w5.grownBy W3 u6.ownBlock → W3.cell? ⟨wr.heap.size, 3, none⟩ = some (.string s1) := fun W3 h => (box7 (vk W3 h)).2.2.2.1
      have vd4 : ∀ W3 : World, w5.grownBy W3 u6.ownBlock → W3.cell? ⟨wr.heap.size, 4, none⟩ = some (.slice aa1 al1 ac1) := fun W3 h => (box7 (vk W3 h)).2.2.2.2.1
      have vd5 : ∀ W3 : World, w5.grownBy W3 u6.ownBlock → W3.cell? ⟨wr.heap.size, 5, none⟩ = some (.slice ta1 tl1 tc1) := fun W3 h => (box7 (vk W3 h)).2.2.2.2.2.1
      have vd6 : ∀ W3 : World, w5.grownBy W3 u6.ownBlock → W3.cell? ⟨wr.heap.size, 6, none⟩ = some (.slice na1 nl1 nc1) := fun W3 h => (box7 (vk W3 h)).2.2.2.2.2.2
      clear vk
      have HOD : OwnsK W.heap.size w5.drew u6 cs := hown5
      have HB5 : Hid (W.heap.size ≤ w5.heap.size) := hg5.size
      have HG5 := Lf.hide hg5
      have HO5 := Lf.hide hown5
      have HLT := Lf.hide hLT
      have HLV := Lf.hide hLV
      have HCL := Lf.hide hcl
      have hltL : (j : Int) < (list.length : Int) := by omega
      clear hsz5
      clear hg5 hown5 hLT hLV hcl hown hgr hv0 hv1 e0 e1 e2 e3 e4 e5 e6 t1 t2 t15 t25 hvb
      go_region_held3 (fun w' => w5.grownBy w' u6.ownBlock) (first | assumption | exact grow_drew (grow_refl _ _) | exact grow_trans (by assumption) (grow_any (Lf.gb _)) | exact grow_drew (grow_any (Lf.gb _))) (first
        | (refine stepKd W.heap.size cs _ _ _ _ _ _ _ _ _ _ _ _ _ _ _ _ _ w5 u6 rfl (.tmp 24) (.tmp 31) rfl rfl rfl rfl HO5.out HB5.out hlc2 ?_; intro v' w9 ho' hg'; have hS9 : w5.grownBy w9 u6.ownBlock := hg'.1; have HO9 := Lf.hide ho'; clear ho' hg'))
      have HS9 := Lf.hide (grow_own HG5.out HO5.out (Nat.le_refl _) hS9)
      clear hS9
      go_wp2_with fail
      go_roundw
      case rel =>
        refine ⟨j + 1, _, by omega, by go_num, HO9.out, ?_, HS9.out⟩
        rw [zip_take_snoc ts list j hltT hlt]
        exact ClaimsOk.append HCL.out ⟨⟨HLT.out, HLV.out⟩, trivial⟩
      case measure => simp [intOf]; omega
    · have hje : (ts.zip list).take j = ts.zip list := List.take_of_length_le (by have := HE.out; simp; omega)
      rw [hje] at hcl
      have HO := Lf.hide hown
      have HCL := Lf.hide hcl
      have HGR := Lf.hide hgr
      have hj3 : ¬ (j : Int) < (list.length : Int) := by omega
      clear hown hcl hgr hje
      go_wp2_with fail
      go_ret2
      exact ⟨_, rfl, _, HO.out, HCL.out, HGR.out⟩

end Go.Proofs.Ytmmgihaoahhkjaa

/- items by its contract. -/
namespace Go.Proofs.Ytmmgihaoahhkjaa
open Go.ChangeShapes Go.WideShapes Go.ChangeAt Go.RowKit
set_option linter.unusedVariables false

/-- what oneEach, items and ofArgs answer -/
def OfPost (w W : World) (ps : Option (List (Ty × Va))) (e : Ending) (w' : World) : Prop :=
  ((ps = none ∧ e = .returned (.tuple #[.slice none 0 0, .bool false])) ∨ ∃ l cv cs, ps = some l ∧ e = .returned (.tuple #[cv, .bool true]) ∧ OwnsK W.heap.size w' cv cs ∧ ClaimsOk w l cs) ∧ W.grownBy w' none

theorem oneEach_all {w W : World} {list : List Va} {ts : List Ty} {la ta : Option Addr} {lc tc : Nat} {V U : Nat → Value} (hL : RowVa (fun _ => True) w list la V) (hT : TysAt w W ts ta U) (hW : w.grownBy W none) (hz : list.length ≤ 20000000) :
    Calls Try.prog 69 #[.slice la list.length lc, .slice ta ts.length tc] W (OfPost w W (if list.length = ts.length then some (ts.zip list) else none)) := by
  by_cases h : list.length = ts.length
  · rw [if_pos h]
    exact (oneEach_any hL hT hW h hz).mono fun e w' ⟨cv, cs, he, ho, hc, hg⟩ => ⟨.inr ⟨_, cv, cs, rfl, he, ho, hc⟩, hg⟩
  · rw [if_neg h]
    exact (oneEach_no hL.1 hT.1 h W).mono fun e w' ⟨he, hw⟩ => ⟨.inl ⟨rfl, he⟩, by rw [hw]; exact grow_refl _ _⟩

theorem OfPost.grown {w W W2 : World} {ps : Option (List (Ty × Va))} {e : Ending} {w' : World} (h : OfPost w W2 ps e w') (hg : W.grownBy W2 none) : OfPost w W ps e w' := by
  refine ⟨?_, Lf.gbt hg h.2⟩
  rcases h.1 with h | ⟨l, cv, cs, h1, h2, h3, h4⟩
  · exact .inl h
  · refine .inr ⟨l, cv, cs, h1, h2, ?_, h4⟩
    have hs := hg.size
    refine ⟨h3.1, ?_⟩
    rcases h3.2 with q | ⟨g, cap, cur, q1, q2, q3⟩
    · exact .inl q
    · exact .inr ⟨g, cap, cur, q1, by omega, q3⟩

theorem OfPost.form {w W : World} {ps : Option (List (Ty × Va))} {e : Ending} {w' : World} (h : OfPost w W ps e w') : ∃ cv bb, e = .returned (.tuple #[cv, .bool bb]) := by
  rcases h.1 with ⟨_, h⟩ | ⟨l, cv, cs, _, h, _⟩
  · exact ⟨_, _, h⟩
  · exact ⟨_, _, h⟩

theorem rep_tys {w W : World} {T : Ty} {t : Int} {a : Option Addr} {l c g n : Nat} (hT : LiesT (fun _ => True) w T (tyV t a l c)) (hn : n ≤ maxLen) (h : RepAt W g n n (.int .i64 t) (.slice a l c)) : TysAt w W (List.replicate n T) (some ⟨g, 0, none⟩) (fun _ => tyV t a l c) := by
  refine ⟨by simpa using hn, fun i hi => ?_⟩
  rw [List.length_replicate] at hi
  obtain ⟨cur, q1, q2, q3, q4⟩ := h
  obtain ⟨e0, e1⟩ := q4 i hi
  refine ⟨⟨g, 0, rfl, trivial, t, a, l, c, rfl, ?_, ?_⟩, by rw [List.getElem_replicate]; exact hT⟩
  · rw [Nat.zero_add]; simp [World.cell?, q1, e0]
  · rw [Nat.zero_add]; simp [World.cell?, q1, e1]

theorem new_twoI (w : World) (o o' : Obj) : ((w.alloc o).alloc o').heap[w.heap.size + 1]? = some o' := by
  have := heap_alloc_new (w.alloc o) o'
  rwa [show (w.alloc o).heap.size = w.heap.size + 1 from by simp] at this

set_option maxRecDepth 100000 in
set_option maxHeartbeats 1000000 in
theorem items_any {w W : World} {list : List Va} {la : Option Addr} {lc : Nat} {V : Nat → Value} {T : Ty} {u : Value} (hL : RowVa (fun _ => True) w list la V) (hT : LiesT (fun _ => True) w T u) (hW : w.grownBy W none) :
    Calls Try.prog 70 #[.slice la list.length lc, u] W (OfPost w W (if list.length ≤ 24 then some ((List.replicate list.length T).zip list) else none)) := by
  have hl := hL.1
  unfold maxLen at hl
  obtain ⟨a, c, V', rfl, it, hR⟩ := hT.inv
  by_cases h24 : list.length ≤ 24
  · rw [if_pos h24]
    have h24' : ¬ (24 : Int) < (list.length : Int) := by omega
    have HRep := Lf.hide (repeat_any T.t a T.args.length c)
    have HL := Lf.hide hL
    have HT := Lf.hide hT
    have HW := Lf.hide hW
    have HOne : Hid (∀ (W2 : World) (g c' : Nat), W.grownBy W2 none → RepAt W2 g list.length list.length (.int .i64 T.t) (.slice a T.args.length c) → Calls Try.prog 69 #[.slice la list.length lc, .slice (some ⟨g, 0, none⟩) list.length c'] W2 (OfPost w W2 (some ((List.replicate list.length T).zip list)))) := fun W2 g c' hg hrep => by
      have h := oneEach_all (lc := lc) (tc := c') HL.out (rep_tys HT.out (by unfold maxLen; omega) hrep) (Lf.gbt HW.out hg) (by omega)
      rw [List.length_replicate, if_pos rfl] at h
      exact h
    clear hL hT hW hR it HL HT HW
    unfold tyV
    go_enter Try.func70, Try.ntmps70
    go_wp2_with fail
    refine (HRep.out _ _ _ (by omega) _ (cell0_of (new_twoI _ _ _)) (cell1_of (new_twoI _ _ _))).mono ?_; rintro e w1 ⟨g, c', rfl, hgs, hrep, hg⟩
    have HP := Lf.hide hrep
    have HG := Lf.hide (Lf.gbt (Lf.gbt (Lf.gb _) (Lf.gb _)) hg)
    clear hg hrep
    go_wp2_with fail
    refine (HOne.out _ _ _ HG.out HP.out).mono ?_; rintro e w2 hpost
    have hp := OfPost.grown hpost HG.out
    clear hpost
    rcases hp with ⟨⟨hn, rfl⟩ | ⟨l, cv, cs, hn, rfl, ho, hc⟩, hg2⟩
    · cases hn
    · have HO := Lf.hide ho
      have HC := Lf.hide hc
      have HN := Lf.hide hn
      have HG2 := Lf.hide hg2
      clear ho hc hn hg2
      go_wp2_with fail
      go_ret2
      exact ⟨.inr ⟨l, cv, cs, HN.out, rfl, HO.out, HC.out⟩, HG2.out⟩
  · rw [if_neg h24]
    have h24' : (24 : Int) < (list.length : Int) := by omega
    clear hL hT hW hR it
    unfold tyV
    go_enter Try.func70, Try.ntmps70
    go_wp2_with fail
    go_ret2
    exact ⟨.inl ⟨rfl, rfl⟩, Lf.gb _⟩

end Go.Proofs.Ytmmgihaoahhkjaa

/- ofArgs by its contract. -/
namespace Go.Proofs.Ytmmgihaoahhkjaa
open Go.ChangeShapes Go.WideShapes Go.ChangeAt Go.RowKit
set_option linter.unusedVariables false

/-- what must be so of T for ofArgs -/
structure ArgsOk (T : Ty) (x : Va) : Prop where
  len : (T.args.length : Int) = partsF T.t
  side : T.t = 12 → x.n = 0 ∨ x.n = 1

set_option maxRecDepth 100000 in
set_option maxHeartbeats 2000000 in
theorem ofArgs_any {w : World} {T : Ty} {x : Va} {u v : Value} (hT : LiesT (fun _ => True) w T u) (hV : LiesV (fun _ => True) w x v) (hok : ArgsOk T x) (hz : x.size ≤ 20000000) (W : World) (hW : w.grownBy W none) :
    Calls Try.prog 31 #[u, v] W (OfPost w W (partsOf T x)) := by
  obtain ⟨a, c, V, rfl, it, hRT⟩ := hT.inv
  obtain ⟨aa, ac, ta, tc, na, nc, VV, VT, VN, rfl, ⟨ik, iN, ia, hs, hlc⟩, hRV, hRY, hRN⟩ := hV.inv
  have hll := vlength_le x.args
  have hsz := vsize_eq x
  have hla := hRV.1
  have hlt := hRT.1
  unfold maxLen at hla hlt
  have HCAP := Lf.hide hT.cap
  have HRV := Lf.hide hRV
  have HRY := Lf.hide hRY
  have HRT := Lf.hide hRT
  have HW := Lf.hide hW
  have HGB : Hid (∀ o1 o2 : Obj, W.grownBy ((W.alloc o1).alloc o2) none) := fun o1 o2 => Lf.gbt (Lf.gb _) (Lf.gb _)
  have HLEN := Lf.hide hok.len
  have HZ : Hid (x.args.length ≤ 20000000) := by show _ ≤ _; omega
  by_cases h8 : T.t = 8
  · have hp : partsOf T x = if x.args.length = x.types.length then some (x.types.zip x.args) else none := by
      simp only [partsOf, argTys]; rw [if_pos h8]; split <;> rfl
    have HC : Hid (∀ W2, W.grownBy W2 none → Calls Try.prog 69 #[.slice aa x.args.length ac, .slice ta x.types.length tc] W2 (OfPost w W2 (partsOf T x))) := fun W2 hg => by
      rw [hp]; exact oneEach_all HRV.out (TysAt.of HRY.out (Lf.gbt HW.out hg)) (Lf.gbt HW.out hg) HZ.out
    generalize partsOf T x = ps at *
    clear hp hT hV hok hz hW it ik iN ia hs hlc hRV hRY hRN hRT hll hsz HRV HRY HRT HW HLEN HZ
    rw [h8]
    clear h8
    unfold tyV vaV
    go_enter Try.func31, Try.ntmps31
    go_wp2_with fail
    refine (HC.out _ (HGB.out _ _)).mono ?_; rintro e w2 hpost
    have hp := OfPost.grown hpost (HGB.out _ _)
    clear hpost
    rcases hp with ⟨⟨hn, rfl⟩ | ⟨l, cv, cs, hn, rfl, ho, hc⟩, hg2⟩
    · have HN := Lf.hide hn
      have HG2 := Lf.hide hg2
      clear hn hg2
      go_wp2_with fail
      go_ret2
      exact ⟨.inl ⟨HN.out, rfl⟩, HG2.out⟩
    · have HO := Lf.hide ho
      have HCC := Lf.hide hc
      have HN := Lf.hide hn
      have HG2 := Lf.hide hg2
      clear ho hc hn hg2
      go_wp2_with fail
      go_ret2
      exact ⟨.inr ⟨l, cv, cs, HN.out, rfl, HO.out, HCC.out⟩, HG2.out⟩
  have b8 : (T.t == 8) = false := by simpa using h8
  by_cases h9 : T.t = 9 ∧ x.args.length = 0
  · have hp : partsOf T x = some [] := by
      simp only [partsOf, argTys]; rw [if_neg h8, if_pos h9]; rfl
    obtain ⟨h9, h0⟩ := h9
    rw [hp, h9, h0]
    clear hp hT hV hok hz hW it ik iN ia hs hlc hRV hRY hRN hRT hll hsz HRV HRY HRT HW HLEN HZ h8 b8 h9 h0
    unfold tyV vaV
    go_enter Try.func31, Try.ntmps31
    go_wp2_with fail
    go_ret2
    exact ⟨.inr ⟨[], .slice none 0 0, [], rfl, rfl, World.ownsRow_nil _ _ _ _, trivial⟩, HGB.out _ _⟩
  by_cases h10 : T.t = 10
  · have hp : partsOf T x = if x.args.length ≤ 24 then some ((List.replicate x.args.length (tyAt T.args 0)).zip x.args) else none := by
      simp only [partsOf, argTys]; rw [if_neg h8, if_neg h9, if_pos h10]; split <;> rfl
    have hl1 : T.args.length = 1 := by have := HLEN.out; rw [h10] at this; simp [partsF] at this; omega
    obtain ⟨y, hy⟩ := List.length_eq_one_iff.1 hl1
    have hyt : tyAt T.args 0 = y := by simp [tyAt, hy]
    obtain ⟨b0, o0, t0, a0, l0, c0, rfl, _, hv0, t1, t2⟩ := ((HRT.out.2.1 0 (by omega)).same (sameAll HW.out)).cells
    have hLy := HRT.out.2.2 0 (by omega)
    rw [hv0] at hLy
    simp only [hy, List.getElem_cons_zero] at hLy
    rw [Nat.zero_mul, Nat.add_zero] at t1 t2
    have q0 : b0 < W.heap.size := World.block_lt_of_cell? W _ t1
    have HC : Hid (∀ W2, W.grownBy W2 none → Calls Try.prog 70 #[.slice aa x.args.length ac, tyV t0 a0 l0 c0] W2 (OfPost w W2 (partsOf T x))) := fun W2 hg => by
      rw [hp, hyt]; exact items_any HRV.out hLy (Lf.gbt HW.out hg)
    generalize partsOf T x = ps at *
    clear hp hT hV hok hz hW it ik iN ia hs hlc hRV hRY hRN hRT hll hsz HRV HRY HRT HW HLEN HZ hyt hy hv0 hLy b8
    rw [h10, hl1]
    clear h10 h8 h9 hl1 hlt
    have HC2 : Hid (∀ w5 : World, W.grownBy w5 none → ∀ W2, w5.grownBy W2 none → Calls Try.prog 70 #[.slice aa x.args.length ac, .agg #[.int .i64 t0, .slice a0 l0 c0]] W2 (OfPost w w5 ps)) := fun w5 h5 W2 h2 => (HC.out W2 (Lf.gbt h5 h2)).mono fun e w' h => h.grown h2
    clear HC
    unfold tyV vaV
    go_enter Try.func31, Try.ntmps31
    go_wp2_with fail
    have hb0 := res_new W (.cells #[.int .i64 10, .slice (some ⟨b0, o0, none⟩) 1 c] 24) (.cells #[.int .i64 x.k, .int .i64 x.n, .int .i64 x.a, .string x.s, .slice aa x.args.length ac, .slice ta x.types.length tc, .slice na x.code.length nc] 28)
    have hb1 := new_twoI W (.cells #[.int .i64 10, .slice (some ⟨b0, o0, none⟩) 1 c] 24) (.cells #[.int .i64 x.k, .int .i64 x.n, .int .i64 x.a, .string x.s, .slice aa x.args.length ac, .slice ta x.types.length tc, .slice na x.code.length nc] 28)
    have HG5 := Lf.hide (Lf.gbt (Lf.gb (w := W) (.cells #[.int .i64 10, .slice (some ⟨b0, o0, none⟩) 1 c] 24)) (Lf.gb (.cells #[.int .i64 x.k, .int .i64 x.n, .int .i64 x.a, .string x.s, .slice aa x.args.length ac, .slice ta x.types.length tc, .slice na x.code.length nc] 28)))
    have hu1 := (World.cell?_of_block (HG5.out.block b0 q0 (by simp))).trans t1
    have hu2 := (World.cell?_of_block (HG5.out.block b0 q0 (by simp))).trans t2
    have hq5 : b0 < ((W.alloc (.cells #[.int .i64 10, .slice (some ⟨b0, o0, none⟩) 1 c] 24)).alloc (.cells #[.int .i64 x.k, .int .i64 x.n, .int .i64 x.a, .string x.s, .slice aa x.args.length ac, .slice ta x.types.length tc, .slice na x.code.length nc] 28)).heap.size := by simp; omega
    generalize (W.alloc (.cells #[.int .i64 10, .slice (some ⟨b0, o0, none⟩) 1 c] 24)).alloc (.cells #[.int .i64 x.k, .int .i64 x.n, .int .i64 x.a, .string x.s, .slice aa x.args.length ac, .slice ta x.types.length tc, .slice na x.code.length nc] 28) = w5 at *
    have k0 : ∀ W3 : World, w5.grownBy W3 none → W3.heap[W.heap.size]? = _ := fun W3 h => (h.block _ (Array.getElem?_eq_some_iff.1 hb0).1 (by simp)).trans hb0
    have k1 : ∀ W3 : World, w5.grownBy W3 none → W3.heap[W.heap.size + 1]? = _ := fun W3 h => (h.block _ (Array.getElem?_eq_some_iff.1 hb1).1 (by simp)).trans hb1
    have f1 : ∀ W3 : World, w5.grownBy W3 none → W3.cell? ⟨W.heap.size, 1, none⟩ = some (.slice (some ⟨b0, o0, none⟩) 1 c) := fun W3 h => cell1_of (k0 W3 h)
    have f2 : ∀ W3 : World, w5.grownBy W3 none → W3.cell? ⟨W.heap.size + 1, 4, none⟩ = some (.slice aa x.args.length ac) := fun W3 h => (box7 (k1 W3 h)).2.2.2.2.1
    have f3 : ∀ W3 : World, w5.grownBy W3 none → W3.cell? ⟨W.heap.size + 1, 1, none⟩ = some (.int .i64 x.n) := fun W3 h => (box7 (k1 W3 h)).2.1
    have f4 : ∀ W3 : World, w5.grownBy W3 none → W3.cell? ⟨b0, o0, none⟩ = some (.int .i64 t0) := fun W3 h => (World.cell?_of_block (h.block b0 hq5 (by simp))).trans hu1
    have f5 : ∀ W3 : World, w5.grownBy W3 none → W3.cell? ⟨b0, o0 + 1, none⟩ = some (.slice a0 l0 c0) := fun W3 h => (World.cell?_of_block (h.block b0 hq5 (by simp))).trans hu2
    clear k0 k1 hb0 hb1 hu1 hu2 hq5 q0 t1 t2
    go_region_held3 (fun w' => w5.grownBy w' none) (first | assumption | exact grow_drew (grow_refl _ _) | exact grow_drew (Lf.gb _) | exact Lf.gbt (by assumption) (Lf.gb _)) (first
      | (go_at_call 70; refine (HC2.out w5 HG5.out _ (by assumption)).mono ?_; rintro e w2 hpost; obtain ⟨cv, bb, rfl⟩ := hpost.form; have hS := Lf.gbt (grow_refl w5 none) hpost.2; have HPO := Lf.hide hpost; clear hpost))
    all_goals
      clear hS
      go_wp2_with fail
      go_ret2
      exact HPO.out.grown HG5.out
  have b10 : (T.t == 10) = false := by simpa using h10
  by_cases h13 : T.t = 13
  · have hp : partsOf T x = if x.args.length ≤ 24 then some ((List.replicate x.args.length (.nd 11 T.args)).zip x.args) else none := by
      simp only [partsOf, argTys]; rw [if_neg h8, if_neg h9, if_neg h10, if_pos h13]; split <;> rfl
    have HC : Hid (∀ W2, W.grownBy W2 none → Calls Try.prog 70 #[.slice aa x.args.length ac, tyV 11 a T.args.length c] W2 (OfPost w W2 (partsOf T x))) := fun W2 hg => by
      rw [hp]; exact items_any HRV.out (LiesT.of ⟨by decide, by decide⟩ HRT.out HCAP.out) (Lf.gbt HW.out hg)
    generalize partsOf T x = ps at *
    clear hp hT hV hok hz hW it ik iN ia hs hlc hRV hRY hRN hRT hll hsz HRV HRY HRT HW HLEN HZ b8 b10
    rw [h13]
    clear h13 h8 h9 h10
    unfold tyV at HC
    unfold tyV vaV
    go_enter Try.func31, Try.ntmps31
    go_wp2_with fail
    refine (HC.out _ (HGB.out _ _)).mono ?_; rintro e w2 hpost
    have hp := OfPost.grown hpost (HGB.out _ _)
    clear hpost
    rcases hp with ⟨⟨hn, rfl⟩ | ⟨l, cv, cs, hn, rfl, ho, hc⟩, hg2⟩
    · have HN := Lf.hide hn
      have HG2 := Lf.hide hg2
      clear hn hg2
      go_wp2_with fail
      go_ret2
      exact ⟨.inl ⟨HN.out, rfl⟩, HG2.out⟩
    · have HO := Lf.hide ho
      have HCC := Lf.hide hc
      have HN := Lf.hide hn
      have HG2 := Lf.hide hg2
      clear ho hc hn hg2
      go_wp2_with fail
      go_ret2
      exact ⟨.inr ⟨l, cv, cs, HN.out, rfl, HO.out, HCC.out⟩, HG2.out⟩
  have b13 : (T.t == 13) = false := by simpa using h13
  by_cases h12 : T.t = 12
  · have hl2 : T.args.length = 2 := by have := HLEN.out; rw [h12] at this; simp [partsF] at this; omega
    rcases hok.side h12 with hn | hn
    · have hp : partsOf T x = if x.args.length = ([T.args[0]'(by omega)] : List Ty).length then some (([T.args[0]'(by omega)] : List Ty).zip x.args) else none := by
        simp only [partsOf, argTys]; rw [if_neg h8, if_neg h9, if_neg h10, if_neg h13, if_pos h12, hn]
        have e1 : tyAt T.args ((0 : Int).toNat) = T.args[0]'(by omega) := by
          show tyAt T.args 0 = _
          unfold tyAt; rw [List.getElem?_eq_getElem (by omega)]; rfl
        rw [e1]
        by_cases h0 : x.args.length = 1
        · rw [if_pos h0, if_pos (by simpa using h0)]; rfl
        · rw [if_neg h0, if_neg (by simpa using h0)]; rfl
      obtain ⟨b0, o0, t0, a0, l0, c0, rfl, _, hv0, t1, t2⟩ := ((HRT.out.2.1 0 (by omega)).same (sameAll HW.out)).cells
      have hLy := HRT.out.2.2 0 (by omega)
      rw [hv0] at hLy
      rw [Nat.zero_mul, Nat.add_zero] at t1 t2
      have q0 : b0 < W.heap.size := World.block_lt_of_cell? W _ t1
      have HC2 : Hid (∀ w5 : World, W.grownBy w5 none → ∀ H, w5.heap.size = H → Calls Try.prog 69 #[.slice aa x.args.length ac, .slice (some ⟨H, 0, none⟩) 1 1] (w5.alloc (.cells #[.int .i64 t0, .slice a0 l0 c0] 24)).drew (OfPost w w5 (partsOf T x))) := fun w5 h5 H hH => by
        subst hH
        have hb : (w5.alloc (.cells #[.int .i64 t0, .slice a0 l0 c0] 24)).drew.heap[w5.heap.size]? = some (.cells #[.int .i64 t0, .slice a0 l0 c0] 24) := heap_alloc_new w5 _
        have hg : w5.grownBy (w5.alloc (.cells #[.int .i64 t0, .slice a0 l0 c0] 24)).drew none := grow_drew (Lf.gb _)
        rw [hp]
        refine (oneEach_all (ts := [T.args[0]'(by omega)]) (U := fun _ => tyV t0 a0 l0 c0) HRV.out ⟨by simp [maxLen], fun i hi => ?_⟩ (Lf.gbt HW.out (Lf.gbt h5 hg)) HZ.out).mono fun e w' h => h.grown hg
        have : i = 0 := by simpa using hi
        subst this
        exact ⟨⟨w5.heap.size, 0, rfl, trivial, t0, a0, l0, c0, rfl, cell0_of hb, cell1_of hb⟩, hLy⟩
      generalize partsOf T x = ps at *
      clear hp hT hV hok hz hW it ik iN ia hs hlc hRV hRY hRN hRT hll hsz HRV HRY HRT HW HLEN HZ hv0 hLy b8 b10 b13
      rw [h12, hl2, hn]
      clear h12 h8 h9 h10 h13 hl2 hlt hn
      unfold tyV vaV
      go_enter Try.func31, Try.ntmps31
      go_wp2_with fail
      have hb0 := res_new W (.cells #[.int .i64 12, .slice (some ⟨b0, o0, none⟩) 2 c] 24) (.cells #[.int .i64 x.k, .int .i64 0, .int .i64 x.a, .string x.s, .slice aa x.args.length ac, .slice ta x.types.length tc, .slice na x.code.length nc] 28)
      have hb1 := new_twoI W (.cells #[.int .i64 12, .slice (some ⟨b0, o0, none⟩) 2 c] 24) (.cells #[.int .i64 x.k, .int .i64 0, .int .i64 x.a, .string x.s, .slice aa x.args.length ac, .slice ta x.types.length tc, .slice na x.code.length nc] 28)
      have HG5 := Lf.hide (Lf.gbt (Lf.gb (w := W) (.cells #[.int .i64 12, .slice (some ⟨b0, o0, none⟩) 2 c] 24)) (Lf.gb (.cells #[.int .i64 x.k, .int .i64 0, .int .i64 x.a, .string x.s, .slice aa x.args.length ac, .slice ta x.types.length tc, .slice na x.code.length nc] 28)))
      have hu1 := (World.cell?_of_block (HG5.out.block b0 q0 (by simp))).trans t1
      have hu2 := (World.cell?_of_block (HG5.out.block b0 q0 (by simp))).trans t2
      have hq5 : b0 < ((W.alloc (.cells #[.int .i64 12, .slice (some ⟨b0, o0, none⟩) 2 c] 24)).alloc (.cells #[.int .i64 x.k, .int .i64 0, .int .i64 x.a, .string x.s, .slice aa x.args.length ac, .slice ta x.types.length tc, .slice na x.code.length nc] 28)).heap.size := by simp; omega
      generalize (W.alloc (.cells #[.int .i64 12, .slice (some ⟨b0, o0, none⟩) 2 c] 24)).alloc (.cells #[.int .i64 x.k, .int .i64 0, .int .i64 x.a, .string x.s, .slice aa x.args.length ac, .slice ta x.types.length tc, .slice na x.code.length nc] 28) = w5 at *
      have k0 : ∀ W3 : World, w5.grownBy W3 none → W3.heap[W.heap.size]? = _ := fun W3 h => (h.block _ (Array.getElem?_eq_some_iff.1 hb0).1 (by simp)).trans hb0
      have k1 : ∀ W3 : World, w5.grownBy W3 none → W3.heap[W.heap.size + 1]? = _ := fun W3 h => (h.block _ (Array.getElem?_eq_some_iff.1 hb1).1 (by simp)).trans hb1
      have f1 : ∀ W3 : World, w5.grownBy W3 none → W3.cell? ⟨W.heap.size, 1, none⟩ = some (.slice (some ⟨b0, o0, none⟩) 2 c) := fun W3 h => cell1_of (k0 W3 h)
      have f2 : ∀ W3 : World, w5.grownBy W3 none → W3.cell? ⟨W.heap.size + 1, 4, none⟩ = some (.slice aa x.args.length ac) := fun W3 h => (box7 (k1 W3 h)).2.2.2.2.1
      have f3 : ∀ W3 : World, w5.grownBy W3 none → W3.cell? ⟨W.heap.size + 1, 1, none⟩ = some (.int .i64 0) := fun W3 h => (box7 (k1 W3 h)).2.1
      have f4 : ∀ W3 : World, w5.grownBy W3 none → W3.cell? ⟨b0, o0, none⟩ = some (.int .i64 t0) := fun W3 h => (World.cell?_of_block (h.block b0 hq5 (by simp))).trans hu1
      have f5 : ∀ W3 : World, w5.grownBy W3 none → W3.cell? ⟨b0, o0 + 1, none⟩ = some (.slice a0 l0 c0) := fun W3 h => (World.cell?_of_block (h.block b0 hq5 (by simp))).trans hu2
      clear k0 k1 hb0 hb1 hu1 hu2 hq5 q0 t1 t2
      go_region_held3 (fun w' => w5.grownBy w' none) (first | assumption | exact grow_drew (grow_refl _ _) | exact grow_drew (Lf.gb _) | exact Lf.gbt (by assumption) (Lf.gb _)) (first
        | (go_at_call 69; refine (HC2.out w5 HG5.out _ rfl).mono ?_; rintro e w2 hpost; obtain ⟨cv, bb, rfl⟩ := hpost.form; have hS := Lf.gbt (grow_refl w5 none) hpost.2; have HPO := Lf.hide hpost; clear hpost))
      all_goals
        clear hS
        go_wp2_with fail
        go_ret2
        exact HPO.out.grown HG5.out
    · have hp : partsOf T x = if x.args.length = ([T.args[1]'(by omega)] : List Ty).length then some (([T.args[1]'(by omega)] : List Ty).zip x.args) else none := by
        simp only [partsOf, argTys]; rw [if_neg h8, if_neg h9, if_neg h10, if_neg h13, if_pos h12, hn]
        have e1 : tyAt T.args ((1 : Int).toNat) = T.args[1]'(by omega) := by
          show tyAt T.args 1 = _
          unfold tyAt; rw [List.getElem?_eq_getElem (by omega)]; rfl
        rw [e1]
        by_cases h0 : x.args.length = 1
        · rw [if_pos h0, if_pos (by simpa using h0)]; rfl
        · rw [if_neg h0, if_neg (by simpa using h0)]; rfl
      obtain ⟨b0, o0, t0, a0, l0, c0, rfl, _, hv0, t1, t2⟩ := ((HRT.out.2.1 1 (by omega)).same (sameAll HW.out)).cells
      have hLy := HRT.out.2.2 1 (by omega)
      rw [hv0] at hLy
      have q0 : b0 < W.heap.size := World.block_lt_of_cell? W _ t1
      have HC2 : Hid (∀ w5 : World, W.grownBy w5 none → ∀ H, w5.heap.size = H → Calls Try.prog 69 #[.slice aa x.args.length ac, .slice (some ⟨H, 0, none⟩) 1 1] (w5.alloc (.cells #[.int .i64 t0, .slice a0 l0 c0] 24)).drew (OfPost w w5 (partsOf T x))) := fun w5 h5 H hH => by
        subst hH
        have hb : (w5.alloc (.cells #[.int .i64 t0, .slice a0 l0 c0] 24)).drew.heap[w5.heap.size]? = some (.cells #[.int .i64 t0, .slice a0 l0 c0] 24) := heap_alloc_new w5 _
        have hg : w5.grownBy (w5.alloc (.cells #[.int .i64 t0, .slice a0 l0 c0] 24)).drew none := grow_drew (Lf.gb _)
        rw [hp]
        refine (oneEach_all (ts := [T.args[1]'(by omega)]) (U := fun _ => tyV t0 a0 l0 c0) HRV.out ⟨by simp [maxLen], fun i hi => ?_⟩ (Lf.gbt HW.out (Lf.gbt h5 hg)) HZ.out).mono fun e w' h => h.grown hg
        have : i = 0 := by simpa using hi
        subst this
        exact ⟨⟨w5.heap.size, 0, rfl, trivial, t0, a0, l0, c0, rfl, cell0_of hb, cell1_of hb⟩, hLy⟩
      generalize partsOf T x = ps at *
      clear hp hT hV hok hz hW it ik iN ia hs hlc hRV hRY hRN hRT hll hsz HRV HRY HRT HW HLEN HZ hv0 hLy b8 b10 b13
      rw [h12, hl2, hn]
      clear h12 h8 h9 h10 h13 hl2 hlt hn
      unfold tyV vaV
      go_enter Try.func31, Try.ntmps31
      go_wp2_with fail
      have hb0 := res_new W (.cells #[.int .i64 12, .slice (some ⟨b0, o0, none⟩) 2 c] 24) (.cells #[.int .i64 x.k, .int .i64 1, .int .i64 x.a, .string x.s, .slice aa x.args.length ac, .slice ta x.types.length tc, .slice na x.code.length nc] 28)
      have hb1 := new_twoI W (.cells #[.int .i64 12, .slice (some ⟨b0, o0, none⟩) 2 c] 24) (.cells #[.int .i64 x.k, .int .i64 1, .int .i64 x.a, .string x.s, .slice aa x.args.length ac, .slice ta x.types.length tc, .slice na x.code.length nc] 28)
      have HG5 := Lf.hide (Lf.gbt (Lf.gb (w := W) (.cells #[.int .i64 12, .slice (some ⟨b0, o0, none⟩) 2 c] 24)) (Lf.gb (.cells #[.int .i64 x.k, .int .i64 1, .int .i64 x.a, .string x.s, .slice aa x.args.length ac, .slice ta x.types.length tc, .slice na x.code.length nc] 28)))
      have hu1 := (World.cell?_of_block (HG5.out.block b0 q0 (by simp))).trans t1
      have hu2 := (World.cell?_of_block (HG5.out.block b0 q0 (by simp))).trans t2
      have hq5 : b0 < ((W.alloc (.cells #[.int .i64 12, .slice (some ⟨b0, o0, none⟩) 2 c] 24)).alloc (.cells #[.int .i64 x.k, .int .i64 1, .int .i64 x.a, .string x.s, .slice aa x.args.length ac, .slice ta x.types.length tc, .slice na x.code.length nc] 28)).heap.size := by simp; omega
      generalize (W.alloc (.cells #[.int .i64 12, .slice (some ⟨b0, o0, none⟩) 2 c] 24)).alloc (.cells #[.int .i64 x.k, .int .i64 1, .int .i64 x.a, .string x.s, .slice aa x.args.length ac, .slice ta x.types.length tc, .slice na x.code.length nc] 28) = w5 at *
      have k0 : ∀ W3 : World, w5.grownBy W3 none → W3.heap[W.heap.size]? = _ := fun W3 h => (h.block _ (Array.getElem?_eq_some_iff.1 hb0).1 (by simp)).trans hb0
      have k1 : ∀ W3 : World, w5.grownBy W3 none → W3.heap[W.heap.size + 1]? = _ := fun W3 h => (h.block _ (Array.getElem?_eq_some_iff.1 hb1).1 (by simp)).trans hb1
      have f1 : ∀ W3 : World, w5.grownBy W3 none → W3.cell? ⟨W.heap.size, 1, none⟩ = some (.slice (some ⟨b0, o0, none⟩) 2 c) := fun W3 h => cell1_of (k0 W3 h)
      have f2 : ∀ W3 : World, w5.grownBy W3 none → W3.cell? ⟨W.heap.size + 1, 4, none⟩ = some (.slice aa x.args.length ac) := fun W3 h => (box7 (k1 W3 h)).2.2.2.2.1
      have f3 : ∀ W3 : World, w5.grownBy W3 none → W3.cell? ⟨W.heap.size + 1, 1, none⟩ = some (.int .i64 1) := fun W3 h => (box7 (k1 W3 h)).2.1
      have f4 : ∀ W3 : World, w5.grownBy W3 none → W3.cell? ⟨b0, o0 + 1 * 2, none⟩ = some (.int .i64 t0) := fun W3 h => (World.cell?_of_block (h.block b0 hq5 (by simp))).trans hu1
      have f5 : ∀ W3 : World, w5.grownBy W3 none → W3.cell? ⟨b0, o0 + 1 * 2 + 1, none⟩ = some (.slice a0 l0 c0) := fun W3 h => (World.cell?_of_block (h.block b0 hq5 (by simp))).trans hu2
      clear k0 k1 hb0 hb1 hu1 hu2 hq5 q0 t1 t2
      go_region_held3 (fun w' => w5.grownBy w' none) (first | assumption | exact grow_drew (grow_refl _ _) | exact grow_drew (Lf.gb _) | exact Lf.gbt (by assumption) (Lf.gb _)) (first
        | (go_at_call 69; refine (HC2.out w5 HG5.out _ rfl).mono ?_; rintro e w2 hpost; obtain ⟨cv, bb, rfl⟩ := hpost.form; have hS := Lf.gbt (grow_refl w5 none) hpost.2; have HPO := Lf.hide hpost; clear hpost))
      all_goals
        clear hS
        go_wp2_with fail
        go_ret2
        exact HPO.out.grown HG5.out
  have b12 : (T.t == 12) = false := by simpa using h12
  by_cases h14 : T.t = 14
  · have hp : partsOf T x = if x.args.length = ([] : List Ty).length then some (([] : List Ty).zip x.args) else none := by
      simp only [partsOf, argTys]; rw [if_neg h8, if_neg h9, if_neg h10, if_neg h13, if_neg h12, if_pos h14]
      by_cases h0 : x.args.length = 0
      · rw [if_pos h0, if_pos (by simpa using h0)]; rfl
      · rw [if_neg h0, if_neg (by simpa using h0)]; rfl
    have HC : Hid (∀ W2, W.grownBy W2 none → Calls Try.prog 69 #[.slice aa x.args.length ac, .slice none 0 0] W2 (OfPost w W2 (partsOf T x))) := fun W2 hg => by
      rw [hp]; exact oneEach_all (ts := []) (U := fun _ => .int .i64 0) HRV.out ⟨by simp [maxLen], fun i hi => by simp at hi⟩ (Lf.gbt HW.out hg) HZ.out
    generalize partsOf T x = ps at *
    clear hp hT hV hok hz hW it ik iN ia hs hlc hRV hRY hRN hRT hll hsz HRV HRY HRT HW HLEN HZ b8 b10 b13 b12
    rw [h14]
    clear h14 h8 h9 h10 h13 h12
    unfold tyV vaV
    go_enter Try.func31, Try.ntmps31
    go_wp2_with fail
    refine (HC.out _ (HGB.out _ _)).mono ?_; rintro e w2 hpost
    have hp := OfPost.grown hpost (HGB.out _ _)
    clear hpost
    rcases hp with ⟨⟨hn, rfl⟩ | ⟨l, cv, cs, hn, rfl, ho, hc⟩, hg2⟩
    · have HN := Lf.hide hn
      have HG2 := Lf.hide hg2
      clear hn hg2
      go_wp2_with fail
      go_ret2
      exact ⟨.inl ⟨HN.out, rfl⟩, HG2.out⟩
    · have HO := Lf.hide ho
      have HCC := Lf.hide hc
      have HN := Lf.hide hn
      have HG2 := Lf.hide hg2
      clear ho hc hn hg2
      go_wp2_with fail
      go_ret2
      exact ⟨.inr ⟨l, cv, cs, HN.out, rfl, HO.out, HCC.out⟩, HG2.out⟩
  have b14 : (T.t == 14) = false := by simpa using h14
  have hp : partsOf T x = if x.args.length = T.args.length then some (T.args.zip x.args) else none := by
    simp only [partsOf, argTys]; rw [if_neg h8, if_neg h9, if_neg h10, if_neg h13, if_neg h12, if_neg h14]; split <;> rfl
  have HC : Hid (∀ W2, W.grownBy W2 none → Calls Try.prog 69 #[.slice aa x.args.length ac, .slice a T.args.length c] W2 (OfPost w W2 (partsOf T x))) := fun W2 hg => by
    rw [hp]; exact oneEach_all HRV.out (TysAt.of HRT.out (Lf.gbt HW.out hg)) (Lf.gbt HW.out hg) HZ.out
  generalize partsOf T x = ps at *
  clear hp hT hV hok hz hW it ik iN ia hs hlc hRV hRY hRN hRT hll hsz HRV HRY HRT HW HLEN HZ
  by_cases h99 : T.t = 9
  · have h0 : ¬ x.args.length = 0 := fun e => h9 ⟨h99, e⟩
    have z1 : ¬ (x.args.length : Int) = 0 := by omega
    have z2 : ((x.args.length : Int) == 0) = false := by rw [beq_eq_false_iff_ne]; exact z1
    clear h9 b8 b10 b13 b12 b14 h8 h10 h13 h12 h14 h0
    rw [h99]
    clear h99
    unfold tyV vaV
    go_enter Try.func31, Try.ntmps31
    go_wp2_with fail
    refine (HC.out _ (HGB.out _ _)).mono ?_; rintro e w2 hpost
    have hp := OfPost.grown hpost (HGB.out _ _)
    clear hpost
    rcases hp with ⟨⟨hn, rfl⟩ | ⟨l, cv, cs, hn, rfl, ho, hc⟩, hg2⟩
    · have HN := Lf.hide hn
      have HG2 := Lf.hide hg2
      clear hn hg2
      go_wp2_with fail
      go_ret2
      exact ⟨.inl ⟨HN.out, rfl⟩, HG2.out⟩
    · have HO := Lf.hide ho
      have HCC := Lf.hide hc
      have HN := Lf.hide hn
      have HG2 := Lf.hide hg2
      clear ho hc hn hg2
      go_wp2_with fail
      go_ret2
      exact ⟨.inr ⟨l, cv, cs, HN.out, rfl, HO.out, HCC.out⟩, HG2.out⟩
  · have b9 : (T.t == 9) = false := by simpa using h99
    clear h9
    unfold tyV vaV
    go_enter Try.func31, Try.ntmps31
    go_wp2_with fail
    refine (HC.out _ (HGB.out _ _)).mono ?_; rintro e w2 hpost
    have hp := OfPost.grown hpost (HGB.out _ _)
    clear hpost
    rcases hp with ⟨⟨hn, rfl⟩ | ⟨l, cv, cs, hn, rfl, ho, hc⟩, hg2⟩
    · have HN := Lf.hide hn
      have HG2 := Lf.hide hg2
      clear hn hg2
      go_wp2_with fail
      go_ret2
      exact ⟨.inl ⟨HN.out, rfl⟩, HG2.out⟩
    · have HO := Lf.hide ho
      have HCC := Lf.hide hc
      have HN := Lf.hide hn
      have HG2 := Lf.hide hg2
      clear ho hc hn hg2
      go_wp2_with fail
      go_ret2
      exact ⟨.inr ⟨l, cv, cs, HN.out, rfl, HO.out, HCC.out⟩, HG2.out⟩

end Go.Proofs.Ytmmgihaoahhkjaa
