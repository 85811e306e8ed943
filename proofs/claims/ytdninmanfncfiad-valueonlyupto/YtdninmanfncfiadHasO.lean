/- oneEach by its contract. -/
import Derived.Test.YtdninmanfncfiadHasE
namespace Go.Proofs.Ytdninmanfncfiad
open Go.ChangeShapes Go.WideShapes Go.ChangeAt Go.RowKit
set_option linter.unusedVariables false

/-- types whose list lies in W, and they themselves in w -/
def TysAt (w W : World) (ts : List Ty) (a : Option Addr) (U : Nat → Value) : Prop :=
  ts.length ≤ maxLen ∧ ∀ i (h : i < ts.length), TyAt (fun _ => True) W a i (U i) ∧ LiesT (fun _ => True) w ts[i] (U i)

theorem TysAt.grow {w W W2 : World} {ts : List Ty} {a : Option Addr} {U : Nat → Value} (h : TysAt w W ts a U) (hg : W.grownBy W2 none) : TysAt w W2 ts a U :=
  ⟨h.1, fun i hi => ⟨(h.2 i hi).1.same (sameAll hg), (h.2 i hi).2⟩⟩

theorem TysAt.of {w W : World} {ts : List Ty} {a : Option Addr} {U : Nat → Value} (h : RowT (fun _ => True) w ts a U) (hg : w.grownBy W none) : TysAt w W ts a U :=
  ⟨h.1, fun i hi => ⟨(h.2.1 i hi).same (sameAll hg), h.2.2 i hi⟩⟩

theorem oneEach_no {list : List Va} {ts : List Ty} {la ta : Option Addr} {lc tc : Nat} (hl : list.length ≤ maxLen) (ht : ts.length ≤ maxLen) (hne : list.length ≠ ts.length) (W : World) :
    Calls Try.prog 54 #[.slice la list.length lc, .slice ta ts.length tc] W fun e w' => e = .returned (.tuple #[.slice none 0 0, .bool false]) ∧ w' = W := by
  unfold maxLen at hl ht
  have z1 : ((list.length : Int) == (ts.length : Int)) = false := by rw [beq_eq_false_iff_ne]; omega
  have z2 : ((list.length : Int) != (ts.length : Int)) = true := by rw [bne_iff_ne]; omega
  have z3 : ¬ (list.length : Int) = (ts.length : Int) := by omega
  go_enter Try.func54, Try.ntmps54
  go_wp2_with fail
  go_ret2
  exact ⟨rfl, rfl⟩

/-- one claim put behind claims of the call's own, at a step of a region that draws its order -/
theorem stepK {ops : Array Oper} {o : Oper} {a : Act} {K : Act → World → Prop} {Q : Exit → Act → World → Prop} {E : Prop} (B : Nat) (cs : List (Value × Value)) (t : Int) (ta : Option Addr) (tl tc : Nat) (k n aa : Int) (st : ByteArray) (pa : Option Addr) (pl pc : Nat) (ya : Option Addr) (yl yc : Nat) (na : Option Addr) (nl nc : Nat) (w0 : World) (v : Value) (hgd : o.guard = none) (s x : Operand)
    (ho : o.op = .call { callee := .builtin .append, args := #[s, x], argTypes := #[55, 55] }) (hs : a.eval s = v) {H : Nat} (hx : a.eval x = .slice (some ⟨H, 0, none⟩) 1 1) (hH : w0.heap.size = H)
    (hown : OwnsK B w0 v cs) (hB : B ≤ w0.heap.size) (hlen : cs.length ≤ 20000000)
    (h : ∀ v' w', OwnsK B w' v' (cs ++ [(tyV t ta tl tc, vaV k n aa st pa pl pc ya yl yc na nl nc)]) → Gr w0 v w' v' → K (a.put o.dst v') w') :
    if Region.wanted o (yielded ops a.tmps) = true then Oper.wp Try.prog o a (w0.alloc (.cells #[.int .i64 t, .slice ta tl tc, .int .i64 k, .int .i64 n, .int .i64 aa, .string st, .slice pa pl pc, .slice ya yl yc, .slice na nl nc] 53)) K Q else E := by
  subst hH
  refine step_app hgd s x 55 ho B 53 Try.underlying55 info_cl rfl (by decide) v cs.length (flatC cs) hs (World.ownsRow.alloc hown _) _ 1 [.int .i64 t, .slice ta tl tc, .int .i64 k, .int .i64 n, .int .i64 aa, .string st, .slice pa pl pc, .slice ya yl yc, .slice na nl nc] hx rfl (SrcAt.new _ _ _ _ _) ?_ ?_ ?_ ?_ ?_
  · intro u hu; simp at hu; rcases hu with rfl | rfl | rfl | rfl | rfl | rfl | rfl | rfl | rfl <;> rfl
  · unfold maxLen; omega
  · omega
  · simp; omega
  · intro v' w' h1 h2 _
    exact h v' w' (by unfold OwnsK; rw [flatC_append, List.length_append]; exact h1) (Gr.trans (Gr.alloc (Gr.refl w0 v) _) h2)

/-- the same behind the draw: one claim put behind claims of the call's own, at a step of a region that draws its order -/
theorem stepKd {ops : Array Oper} {o : Oper} {a : Act} {K : Act → World → Prop} {Q : Exit → Act → World → Prop} {E : Prop} (B : Nat) (cs : List (Value × Value)) (t : Int) (ta : Option Addr) (tl tc : Nat) (k n aa : Int) (st : ByteArray) (pa : Option Addr) (pl pc : Nat) (ya : Option Addr) (yl yc : Nat) (na : Option Addr) (nl nc : Nat) (w0 : World) (v : Value) (hgd : o.guard = none) (s x : Operand)
    (ho : o.op = .call { callee := .builtin .append, args := #[s, x], argTypes := #[55, 55] }) (hs : a.eval s = v) {H : Nat} (hx : a.eval x = .slice (some ⟨H, 0, none⟩) 1 1) (hH : w0.heap.size = H)
    (hown : OwnsK B w0 v cs) (hB : B ≤ w0.heap.size) (hlen : cs.length ≤ 20000000)
    (h : ∀ v' w', OwnsK B w' v' (cs ++ [(tyV t ta tl tc, vaV k n aa st pa pl pc ya yl yc na nl nc)]) → Gr w0 v w' v' → K (a.put o.dst v') w') :
    if Region.wanted o (yielded ops a.tmps) = true then Oper.wp Try.prog o a (w0.alloc (.cells #[.int .i64 t, .slice ta tl tc, .int .i64 k, .int .i64 n, .int .i64 aa, .string st, .slice pa pl pc, .slice ya yl yc, .slice na nl nc] 53)).drew K Q else E :=
  stepK B cs t ta tl tc k n aa st pa pl pc ya yl yc na nl nc w0.drew v hgd s x ho hs hx hH hown hB hlen (fun v' w' h1 h2 => h v' w' h1 h2.ofDrew)

theorem zip_take_snoc (ts : List Ty) (l : List Va) (j : Nat) (h1 : j < ts.length) (h2 : j < l.length) : (ts.zip l).take (j + 1) = (ts.zip l).take j ++ [(ts[j], l[j])] := by
  rw [List.take_succ_eq_append_getElem (by simp; omega)]
  simp

set_option maxRecDepth 100000 in
set_option maxHeartbeats 2000000 in
theorem oneEach_any {w W : World} {list : List Va} {ts : List Ty} {la ta : Option Addr} {lc tc : Nat} {V U : Nat → Value} (hL : RowVa (fun _ => True) w list la V) (hT : TysAt w W ts ta U) (hW : w.grownBy W none) (heq : list.length = ts.length) (hz : list.length ≤ 20000000) :
    Calls Try.prog 54 #[.slice la list.length lc, .slice ta ts.length tc] W fun e w' => ∃ cv cs, e = .returned (.tuple #[cv, .bool true]) ∧ OwnsK W.heap.size w' cv cs ∧ ClaimsOk w (ts.zip list) cs ∧ W.grownBy w' none := by
  have hl := hL.1
  unfold maxLen at hl
  have HL := Lf.hide hL
  have HT := Lf.hide hT
  have HW := Lf.hide hW
  have HE := Lf.hide heq
  have hZ := hz
  rw [← heq]
  clear hL hT hW heq
  go_enter Try.func54, Try.ntmps54
  go_wp2_with fail
  go_loopw [6, 16] (fun cv iv wr => ∃ (j : Nat) (cs : List (Value × Value)), j ≤ list.length ∧ iv = .int .i64 j ∧ OwnsK W.heap.size wr cv cs ∧ ClaimsOk w ((ts.zip list).take j) cs ∧ W.grownBy wr none) (fun _ iv _ => list.length - (intOf iv).toNat)
  case atStart => exact ⟨0, [], Nat.zero_le _, rfl, World.ownsRow_nil _ _ _ _, trivial, grow_refl _ _⟩
  case round =>
    obtain ⟨j, cs, hj, rfl, hown, hcl, hgr⟩ := hrel
    by_cases hlt : j < list.length
    · have hgw := Lf.gbt HW.out hgr
      have hltT : j < ts.length := by rw [← HE.out]; exact hlt
      obtain ⟨hTA, hLT⟩ := (HT.out.grow hgr).2 j hltT
      obtain ⟨b0, o0, t0, a0, l0, c0, rfl, _, hv0, t1, t2⟩ := hTA.cells
      have hLV := HL.out.2.2 j hlt
      obtain ⟨b3, o3, rfl, _, k1, n1, a1, s1, aa1, al1, ac1, ta1, tl1, tc1, na1, nl1, nc1, hv1, e0, e1, e2, e3, e4, e5, e6⟩ := (HL.out.2.1 j hlt).same (sameAll hgw)
      rw [hv0] at hLT
      rw [hv1] at hLV
      have q0 : b0 < wr.heap.size := World.block_lt_of_cell? wr _ t1
      have q3 : b3 < wr.heap.size := World.block_lt_of_cell? wr _ e0
      have hlc := hcl.len
      have hlc2 : cs.length ≤ 20000000 := by rw [hlc]; simp; omega
      have hB : W.heap.size ≤ wr.heap.size := hgr.size
      have hj2 : (j : Int) < (list.length : Int) := by omega
      have hb0W : b0 < W.heap.size := by
        obtain ⟨hTA2, _⟩ := HT.out.2 j hltT
        obtain ⟨b0', o0', t0', a0', l0', c0', hae, _, _, t1', _⟩ := hTA2.cells
        simp only [Option.some.injEq, Addr.mk.injEq, and_true] at hae
        obtain ⟨rfl, rfl⟩ := hae
        exact World.block_lt_of_cell? W _ t1'
      have n0 : some b0 ≠ u6.ownBlock := fun e => by have := (World.ownsRow.lt hown b0 e.symm).1; omega
      have n3 : some wr.heap.size ≠ u6.ownBlock := fun e => by have := (World.ownsRow.lt hown wr.heap.size e.symm).2; omega
      have hvb := heap_alloc_new wr (.cells #[.int .i64 k1, .int .i64 n1, .int .i64 a1, .string s1, .slice aa1 al1 ac1, .slice ta1 tl1 tc1, .slice na1 nl1 nc1] 30)
      have hown5 := World.ownsRow.alloc hown (.cells #[.int .i64 k1, .int .i64 n1, .int .i64 a1, .string s1, .slice aa1 al1 ac1, .slice ta1 tl1 tc1, .slice na1 nl1 nc1] 30)
      have hg5 := Lf.gbt hgr (Lf.gb (w := wr) (.cells #[.int .i64 k1, .int .i64 n1, .int .i64 a1, .string s1, .slice aa1 al1 ac1, .slice ta1 tl1 tc1, .slice na1 nl1 nc1] 30))
      have t15 := (World.cell?_of_block (heap_alloc_old (w := wr) (o := (.cells #[.int .i64 k1, .int .i64 n1, .int .i64 a1, .string s1, .slice aa1 al1 ac1, .slice ta1 tl1 tc1, .slice na1 nl1 nc1] 30)) (h := q0))).trans t1
      have t25 := (World.cell?_of_block (heap_alloc_old (w := wr) (o := (.cells #[.int .i64 k1, .int .i64 n1, .int .i64 a1, .string s1, .slice aa1 al1 ac1, .slice ta1 tl1 tc1, .slice na1 nl1 nc1] 30)) (h := q0))).trans t2
      have hsz5 : (wr.alloc (.cells #[.int .i64 k1, .int .i64 n1, .int .i64 a1, .string s1, .slice aa1 al1 ac1, .slice ta1 tl1 tc1, .slice na1 nl1 nc1] 30)).heap.size = wr.heap.size + 1 := by simp
      have hj63 : j < 9223372036854775807 := by omega
      clear hj2 hgw hTA
      go_wp2_with fail
      generalize wr.alloc (.cells #[.int .i64 k1, .int .i64 n1, .int .i64 a1, .string s1, .slice aa1 al1 ac1, .slice ta1 tl1 tc1, .slice na1 nl1 nc1] 30) = w5 at *
      have td1 : ∀ W3 : World, w5.grownBy W3 u6.ownBlock → W3.cell? ⟨b0, o0 + j * 2, none⟩ = some (.int .i64 t0) := fun W3 h => (World.cell?_of_block (h.block b0 (by omega) n0)).trans t15
      have td2 : ∀ W3 : World, w5.grownBy W3 u6.ownBlock → W3.cell? ⟨b0, o0 + j * 2 + 1, none⟩ = some (.slice a0 l0 c0) := fun W3 h => (World.cell?_of_block (h.block b0 (by omega) n0)).trans t25
      have vk : ∀ W3 : World, w5.grownBy W3 u6.ownBlock → W3.heap[wr.heap.size]? = _ := fun W3 h => (h.block wr.heap.size (by omega) n3).trans hvb
      have vd0 : ∀ W3 : World, w5.grownBy W3 u6.ownBlock → W3.cell? ⟨wr.heap.size, 0, none⟩ = some (.int .i64 k1) := fun W3 h => (box7 (vk W3 h)).1
      have vd1 : ∀ W3 : World, w5.grownBy W3 u6.ownBlock → W3.cell? ⟨wr.heap.size, 1, none⟩ = some (.int .i64 n1) := fun W3 h => (box7 (vk W3 h)).2.1
      have vd2 : ∀ W3 : World, w5.grownBy W3 u6.ownBlock → W3.cell? ⟨wr.heap.size, 2, none⟩ = some (.int .i64 a1) := fun W3 h => (box7 (vk W3 h)).2.2.1
      have vd3 : ∀ W3 : World, w5.grownBy W3 u6.ownBlock → W3.cell? ⟨wr.heap.size, 3, none⟩ = some (.string s1) := fun W3 h => (box7 (vk W3 h)).2.2.2.1
      have vd4 : ∀ W3 : World, w5.grownBy W3 u6.ownBlock → W3.cell? ⟨wr.heap.size, 4, none⟩ = some (.slice aa1 al1 ac1) := fun W3 h => (box7 (vk W3 h)).2.2.2.2.1
      have vd5 : ∀ W3 : World, w5.grownBy W3 u6.ownBlock → W3.cell? ⟨wr.heap.size, 5, none⟩ = some (.slice ta1 tl1 tc1) := fun W3 h => (box7 (vk W3 h)).2.2.2.2.2.1
      have vd6 : ∀ W3 : World, w5.grownBy W3 u6.ownBlock → W3.cell? ⟨wr.heap.size, 6, none⟩ = some (.slice na1 nl1 nc1) := fun W3 h => (box7 (vk W3 h)).2.2.2.2.2.2
      clear vk
      have HOD : OwnsK W.heap.size w5.drew u6 cs := hown5
      have HB5 : Hid (W.heap.size ≤ w5.heap.size) := hg5.size
      have HG5 := Lf.hide hg5
      have HO5 := Lf.hide hown5
      have HLT := Lf.hide hLT
      have HLV := Lf.hide hLV
      have HCL := Lf.hide hcl
      have hltL : (j : Int) < (list.length : Int) := by omega
      clear hsz5
      clear hg5 hown5 hLT hLV hcl hown hgr hv0 hv1 e0 e1 e2 e3 e4 e5 e6 t1 t2 t15 t25 hvb
      go_region_held3 (fun w' => w5.grownBy w' u6.ownBlock) (first | assumption | exact grow_drew (grow_refl _ _) | exact grow_trans (by assumption) (grow_any (Lf.gb _)) | exact grow_drew (grow_any (Lf.gb _))) (first
        | (refine stepKd W.heap.size cs _ _ _ _ _ _ _ _ _ _ _ _ _ _ _ _ _ w5 u6 rfl (.tmp 21) (.tmp 28) rfl rfl rfl rfl HO5.out HB5.out hlc2 ?_; intro v' w9 ho' hg'; have hS9 : w5.grownBy w9 u6.ownBlock := hg'.1; have HO9 := Lf.hide ho'; clear ho' hg'))
      have HS9 := Lf.hide (grow_own HG5.out HO5.out (Nat.le_refl _) hS9)
      clear hS9
      go_wp2_with fail
      go_roundw
      case rel =>
        refine ⟨j + 1, _, by omega, by go_num, HO9.out, ?_, HS9.out⟩
        rw [zip_take_snoc ts list j hltT hlt]
        exact ClaimsOk.append HCL.out ⟨⟨HLT.out, HLV.out⟩, trivial⟩
      case measure => simp [intOf]; omega
    · have hje : (ts.zip list).take j = ts.zip list := List.take_of_length_le (by have := HE.out; simp; omega)
      rw [hje] at hcl
      have HO := Lf.hide hown
      have HCL := Lf.hide hcl
      have HGR := Lf.hide hgr
      have hj3 : ¬ (j : Int) < (list.length : Int) := by omega
      clear hown hcl hgr hje
      go_wp2_with fail
      go_ret2
      exact ⟨_, rfl, _, HO.out, HCL.out, HGR.out⟩

end Go.Proofs.Ytdninmanfncfiad
