/- tree.putNumber, putNode, putArgs and Encode by their contracts. -/
import Derived.Test.YtdninmanfncfiadGood
import Derived.Test.YtdninmanfncfiadBit
namespace Go.Proofs.Ytdninmanfncfiad
open Go.ChangeShapes Go.WideShapes Go.ChangeAt Go.RowKit

theorem info5 : (Try.prog.info? 5).map (fun i => (i.zero, i.size, i.bytes)) = some (some (.int .u8 0), 1, 1) := by kernel_rfl

/-- bytes as cells -/
def cs (l : List UInt8) : List Value := l.map fun b => Value.int .u8 b.toNat

theorem cs_length (l : List UInt8) : (cs l).length = l.length := by simp [cs]
theorem cs_append (a b : List UInt8) : cs (a ++ b) = cs a ++ cs b := by simp [cs]

/-- the slice v is the call's own and holds the bytes l -/
def Owns (B : Nat) (w : World) (v : Value) (l : List UInt8) : Prop := w.ownsRow B 5 1 v l.length (cs l)

theorem Owns.drew {B : Nat} {w : World} {v : Value} {l : List UInt8} (h : Owns B w v l) : Owns B w.drew v l := h

theorem Gr.below {B : Nat} {w w1 : World} {v v1 : Value} {l : List UInt8} (h : Gr w v w1 v1) (ho : Owns B w v l) (hB : B ≤ w.heap.size) : Below B w w1 :=
  (Below.refl B w).grown h.1 hB (fun k hk => (World.ownsRow.lt ho k hk).1)

/-- one byte put behind a slice of the call's own -/
theorem app1 {ops : Array Oper} {rest : List Oper} {o : Oper} {a : Act} {Q : Exit → Act → World → Prop} (B : Nat) (pre : List UInt8) (b : UInt8) (z : Int) (w0 : World) (v : Value) (hgd : o.guard = none) (s x : Operand)
    (ho : o.op = .call { callee := .builtin .append, args := #[s, x], argTypes := #[126, 126] }) (hs : a.eval s = v) {H : Nat} (hx : a.eval x = .slice (some ⟨H, 0, none⟩) 1 1) (hH : w0.heap.size = H)
    (hz : z = b.toNat) (hown : Owns B w0 v pre) (hB : B ≤ w0.heap.size) (hlen : pre.length ≤ 10000000)
    (h : ∀ v' w', Owns B w' v' (pre ++ [b]) → Gr w0 v w' v' → wpList Try.prog ops Q rest (a.put o.dst v') w') : wpList Try.prog ops Q (o :: rest) a (w0.alloc (.cells #[.int .u8 z] 5)) := by
  obtain ⟨i0, hi, hz0, hz1, hz2⟩ := info_parts info5
  subst hz
  subst hH
  refine wpList_append_lies _ hgd s x 126 ho B 5 i0 (.int .u8 0) 1 1 Try.underlying126 hi hz0 hz1 hz2 rfl (by decide) v pre.length (cs pre) hs (World.ownsRow.alloc hown _) ⟨w0.heap.size, 0, none⟩ 1 1 [.int .u8 b.toNat] hx rfl ?_ ?_ (by decide) ?_ ?_ ?_ _ rfl ?_
  · intro j u hj
    match j, hj with
    | 0, hj => simp at hj; subst hj; simp [Addr.add]
  · intro u hu; simp at hu; subst hu; rfl
  · unfold maxLen; omega
  · omega
  · simp; omega
  · intro g cap w' h1 h2 h3 _
    refine h _ w' ?_ ?_
    · unfold Owns; rw [cs_append, List.length_append]; exact h1
    · refine Gr.trans (Gr.alloc (Gr.refl w0 v) _) ⟨h2, ?_⟩
      rcases h3 with h3 | h3
      · exact .inl h3.symm
      · exact .inr ⟨g, rfl, by omega⟩

theorem cs_str (s : ByteArray) : Lib.strCells s = cs s.data.toList := rfl

/-- a text put behind a slice of the call's own that holds something -/
theorem run_append_str (B : Nat) (ty : TypeId) (v : Value) (pre : List UInt8) (s : ByteArray) (w : World) (hown : Owns B w v pre) (hp : 0 < pre.length) (hlen : pre.length + s.size ≤ 10000000) (hB : B ≤ w.heap.size) :
    ∃ v' w', (Builtin.append_ #[126, 9] ty #[v, .string s]).run Try.prog w = .ok v' w' ∧ Owns B w' v' (pre ++ s.data.toList) ∧ Gr w v w' v' := by
  obtain ⟨i0, hi, hz0, hz1, hz2⟩ := info_parts info5
  obtain ⟨v', w', hr, h1, h2, _⟩ := Lib.run_append_own_string (P := Try.prog) w B 126 9 ty 5 i0 Try.underlying126 Try.underlying9 hi hz0 hz1 hz2 v pre.length (cs pre) hown s (by unfold maxLen; omega) (by omega) hB
  refine ⟨v', w', hr, ?_, h2, ?_⟩
  · unfold Owns
    rw [cs_append, List.length_append, ← cs_str]
    exact h1
  · have ho := hown
    unfold Owns at ho
    rcases ho.2 with ⟨rfl, h0⟩ | ⟨g, cap, cur, rfl, hbg, hg, hnc, hcm, hcs, htake⟩
    · omega
    · by_cases hroom : pre.length + s.size ≤ cap
      · have hr' := Lib.run_append_room_string (P := Try.prog) w 126 9 ty 5 i0 Try.underlying126 Try.underlying9 hi hz1 g pre.length cap cur hg s hroom (by omega)
        rw [hr] at hr'
        injection hr' with e1 e2
        subst e1
        exact .inl rfl
      · have holds : ∀ j u, (cs pre)[j]? = some u → w.cell? ((⟨g, 0, none⟩ : Addr).add j) = some u := World.ownsRow.cells ho (g := g) rfl
        have hr' := Lib.run_append_grow_string (P := Try.prog) w 126 9 ty 5 i0 (.int .u8 0) Try.underlying126 Try.underlying9 hi hz0 ⟨g, 0, none⟩ pre.length cap (cs pre) (by rw [hz1, cs_length, Nat.mul_one]) holds s (by omega) (by omega) (by rw [hz2]; exact growslice_fits (by omega) (by omega))
        rw [hr] at hr'
        injection hr' with e1 e2
        subst e1
        exact .inr ⟨_, rfl, Nat.le_refl _⟩

/-- .. at a step of a region that draws its order -/
theorem step_append_str {ops : Array Oper} {o : Oper} {a : Act} {K : Act → World → Prop} {Q : Exit → Act → World → Prop} {E : Prop} (B : Nat) (pre : List UInt8) (s : ByteArray) (w : World) (v : Value) (hgd : o.guard = none) (sl x : Operand)
    (ho : o.op = .call { callee := .builtin .append, args := #[sl, x], argTypes := #[126, 9] }) (hs : a.eval sl = v) (hx : a.eval x = .string s)
    (hown : Owns B w v pre) (hp : 0 < pre.length) (hlen : pre.length + s.size ≤ 10000000) (hB : B ≤ w.heap.size)
    (h : ∀ v' w', Owns B w' v' (pre ++ s.data.toList) → Gr w v w' v' → K (a.put o.dst v') w') :
    if Region.wanted o (yielded ops a.tmps) = true then Oper.wp Try.prog o a w K Q else E := by
  have hw : Region.wanted o (yielded ops a.tmps) = true := by simp [Region.wanted, hgd]
  rw [if_pos hw]
  obtain ⟨v', w', hr, h2, h3⟩ := run_append_str B o.type v pre s w hown hp hlen hB
  unfold Oper.wp execOp
  simp only [ho, resolve, invoke, builtin, Sem.run_bind, Sem.run_pure, Result.andThen_ok, List.map_toArray, List.map_cons, List.map_nil, hs, hx, hr]
  exact h v' w' h2 h3

set_option maxHeartbeats 400000 in
set_option maxRecDepth 20000 in
theorem putNumber_any (B : Nat) (n : Int) (hn : I64 n) (hn2 : -9223372036854775808 < n) (v : Value) (xs : List UInt8) (w : World) (hown : Owns B w v xs) (hB : B ≤ w.heap.size) (hlen : xs.length ≤ 1000000) :
    Calls Try.prog 98 #[v, .int .i64 n] w fun e w' => ∃ v', e = .returned v' ∧ Owns B w' v' (xs ++ encN n) ∧ Gr w v w' v' := by
  obtain ⟨n1, n2⟩ := hn
  obtain ⟨i0, hi, hz0, hz1, hz2⟩ := info_parts info5
  have hst : ∃ last m : Nat, last < 128 ∧ m < 9223372036854775808 ∧ encN n = encT last m ∧ (n < 0 → bits .or .i64 64 (bits .and .i64 (-n) 63) = (last : Int) ∧ -n / 64 = (m : Int)) ∧ (¬ n < 0 → bits .or .i64 0 (bits .and .i64 n 63) = (last : Int) ∧ n / 64 = (m : Int)) := by
    refine ⟨_, _, ?_, ?_, rfl, fun h => ?_, fun h => ?_⟩
    · split <;> omega
    · omega
    · have e : -n = (n.natAbs : Int) := by omega
      rw [e, and63 _ (by omega), or64 _ (by omega), if_pos h]; exact ⟨rfl, by omega⟩
    · have e : n = (n.natAbs : Int) := by omega
      rw [e, and63 _ (by omega), or0 _ (by omega), if_neg (by omega)]; exact ⟨by simp, by omega⟩
  obtain ⟨last0, m0, hl, hm, he, hn1, hn0⟩ := hst
  have HE := Lf.hide he
  clear he
  have hL := encN_len n ⟨n1, n2⟩
  rw [HE.out] at hL ⊢
  rcases (show (n < 0 ∧ bits .or .i64 64 (bits .and .i64 (-n) 63) = (last0 : Int) ∧ -n / 64 = (m0 : Int)) ∨ (0 ≤ n ∧ bits .or .i64 0 (bits .and .i64 n 63) = (last0 : Int) ∧ n / 64 = (m0 : Int)) from by
    by_cases h : n < 0
    · exact .inl ⟨h, hn1 h⟩
    · exact .inr ⟨by omega, hn0 h⟩) with ⟨hneg, h1, h2⟩ | ⟨hneg, h1, h2⟩
  all_goals
    clear hn1 hn0
    go_enter Try.func98, Try.ntmps98
    go_wp2_with fail
    clear h1 h2 HE
    go_loopw [0, 6, 1] (fun vr l n wr => ∃ (pre : List UInt8) (last m : Nat), last < 128 ∧ m < 9223372036854775808 ∧ l = .int .i64 last ∧ n = .int .i64 m ∧ pre ++ encT last m = xs ++ encT last0 m0 ∧ Owns B wr vr pre ∧ Gr w v wr vr) (fun _ _ n _ => (intOf n).toNat)
    case atStart => exact ⟨xs, _, _, hl, hm, rfl, rfl, rfl, hown, Gr.refl _ _⟩
    case round =>
      obtain ⟨pre, last, m, hl1, hm1, rfl, rfl, heq, hown1, hb⟩ := hrel
      have hlen1 := congrArg List.length heq
      simp only [List.length_append] at hlen1
      have hz := hb.1.size
      have HQ := Lf.hide heq
      have HO := Lf.hide hown1
      have HB := Lf.hide hb
      clear heq hown1 hb hown
      by_cases hm0 : m = 0
      · have hm0' : ¬ (0 : Int) < (m : Int) := by omega
        have hl2 := (encT_len m last).1
        have hu : ((last : Nat) : Int) = (last.toUInt8).toNat := by rw [show last.toUInt8.toNat = last % 256 from rfl, Nat.mod_eq_of_lt (by omega)]
        have HU := Lf.hide hu
        clear hu
        go_wp2_with (at_builtin; refine app1 B pre last.toUInt8 _ wr _ rfl _ _ rfl rfl rfl rfl HU.out HO.out (by omega) (by omega) ?_; intro v' w1 hown1 hb1)
        go_ret
        refine ⟨v', rfl, ?_, HB.out.trans hb1⟩
        have := HQ.out
        rw [encT, if_pos hm0] at this
        rw [← this]
        exact hown1
      · have hm0' : (0 : Int) < (m : Int) := by omega
        have ho := or128 last hl1
        have ha := and127 m hm1
        have hl2 := (encT_len m last).1
        have hu : (128 + (last : Nat) : Int) = ((128 + last).toUInt8).toNat := by rw [show (128 + last).toUInt8.toNat = (128 + last) % 256 from rfl, Nat.mod_eq_of_lt (by omega)]; rfl
        have HU := Lf.hide hu
        clear hu
        go_wp2_with (at_builtin; refine app1 B pre (128 + last).toUInt8 _ wr _ rfl _ _ rfl rfl rfl rfl HU.out HO.out (by omega) (by omega) ?_; intro v' w1 hown1 hb1)
        go_roundw
        case rel => exact ⟨pre ++ [(128 + last).toUInt8], m % 128, m / 128, by omega, by omega, by go_num, by go_num, by have := HQ.out; rw [encT, if_neg hm0] at this; simpa using this, hown1, HB.out.trans hb1⟩
        case measure => simp [intOf]; omega
end Go.Proofs.Ytdninmanfncfiad
