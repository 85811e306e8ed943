import Derived.Test.YtamohjlhndedhadGreatRRRKindB
import Derived.Test.YtamohjlhndedhadGreatRRRValA
import Derived.Test.YtamohjlhndedhadGreatRRRGrowA
import Derived.Deep.RegionHeld3
import Derived.Deep.DeepCutAuto
import Derived.Test.YtamohjlhndedhadGreatRRRRows
import Derived.WalkKit
import Derived.ProofKit
namespace Go.Proofs.YtamohjlhndedhadGreatRRR
set_option maxRecDepth 100000
set_option maxHeartbeats 4000000
open Go.ChangeShapes Go.WideShapes Go.ChangeAt Go.RowKit
set_option linter.unusedVariables false
theorem RowT.drop {ok : Nat -> Prop} {w : World} {ts : List Ty} {b o : Nat} {V : Nat -> Value} (h : RowT ok w ts (some ⟨b, o, none⟩) V) (k : Nat) : RowT ok w (ts.drop k) (some ⟨b, o + k * 2, none⟩) (fun i => V (i + k)) := by
 refine ⟨by have := h.1; simp; omega, fun i hi => ?_, fun i hi => ?_⟩
 ·have hi2 : i + k < ts.length := by simp at hi; omega
  obtain ⟨b', o', e, hb, t, a', l, c, hv, h0, h1⟩ := h.2.1 (i + k) hi2
  simp only [Option.some.injEq, Addr.mk.injEq, and_true] at e
  obtain ⟨rfl, rfl⟩ := e
  refine ⟨b, o + k * 2, rfl, hb, t, a', l, c, hv, ?_, ?_⟩
  ·rw [show o + k * 2 + i * 2 = o + (i + k) * 2 from by omega]; exact h0
  ·rw [show o + k * 2 + i * 2 + 1 = o + (i + k) * 2 + 1 from by omega]; exact h1
 ·have hi2 : i + k < ts.length := by simp at hi; omega
  have := h.2.2 (i + k) hi2
  rw [List.getElem_drop]
  simpa [Nat.add_comm] using this
theorem RowT.take {ok : Nat -> Prop} {w : World} {ts : List Ty} {a : Option Addr} {V : Nat -> Value} (h : RowT ok w ts a V) (k : Nat) : RowT ok w (ts.take k) a V := by
 refine ⟨by have := h.1; simp; omega, fun i hi => h.2.1 i (by simp at hi; omega), fun i hi => ?_⟩
 rw [List.getElem_take]
 exact h.2.2 i (by simp at hi; omega)
theorem RowT.base {ok : Nat -> Prop} {w : World} {ts : List Ty} {a : Option Addr} {V : Nat -> Value} (h : RowT ok w ts a V) (hl : 0 < ts.length) : ∃ b o, a = some ⟨b, o, none⟩ := by
 obtain ⟨b, o, e, _⟩ := h.2.1 0 hl
 exact ⟨b, o, e⟩
theorem LiesT.ofRow {ok : Nat -> Prop} {w : World} {t : Int} {args : List Ty} {a : Option Addr} {c : Nat} {V : Nat -> Value} (it : I64 t) (hlc : args.length <= c) (h : RowT ok w args a V) : LiesT ok w (.nd t args) (Go.Proofs.YtamohjlhndedhadGreatRRR.tyV t a args.length c) :=
 .mk V h.1 hlc it h.2.1 h.2.2
def RowC (w : World) (ts : List Ty) (u : Value) : Prop := ∃ a c V, u = .slice a ts.length c /\ ts.length <= c /\ RowT (fun _ => True) w ts a V
theorem RowC.grow {w W : World} {ts : List Ty} {u : Value} (h : RowC w ts u) (hg : w.grownBy W none) : RowC W ts u := by
 obtain ⟨a, c, V, e, h1, h2⟩ := h
 exact ⟨a, c, V, e, h1, h2.same (sAl hg)⟩
theorem RowC.nil (w : World) (a : Option Addr) (c : Nat) : RowC w [] (.slice a 0 c) := ⟨a, c, fun _ => .int .i64 0, rfl, Nat.zero_le _, RowT.nil _ _ _ _⟩
theorem LiesT.args {w : World} {T : Ty} {t : Int} {a : Option Addr} {l c : Nat} (h : LiesT (fun _ => True) w T (Go.Proofs.YtamohjlhndedhadGreatRRR.tyV t a l c)) : T.t = t /\ RowC w T.args (.slice a l c) := by
 have hc := h.cap
 obtain ⟨a', c', V, e, _, hr⟩ := h.inv
 simp only [Go.Proofs.YtamohjlhndedhadGreatRRR.tyV, Value.agg.injEq, Array.mk.injEq, List.cons.injEq, Value.int.injEq, Value.slice.injEq, true_and, and_true] at e
 obtain ⟨e1, rfl, rfl, rfl⟩ := e
 exact ⟨e1.symm, _, _, V, rfl, hc, hr⟩
theorem LiesT.ofC {w : World} {t : Int} {args : List Ty} {a : Option Addr} {l c : Nat} (it : I64 t) (h : RowC w args (.slice a l c)) : LiesT (fun _ => True) w (.nd t args) (Go.Proofs.YtamohjlhndedhadGreatRRR.tyV t a l c) := by
 obtain ⟨a', c', V, e, h1, hr⟩ := h
 simp only [Value.slice.injEq] at e
 obtain ⟨rfl, rfl, rfl⟩ := e
 exact LiesT.ofRow it h1 hr
theorem RowC.cons {w : World} {T : Ty} {ts : List Ty} {u : Value} (h : RowC w (T :: ts) u) : ∃ b o c t a l k, u = .slice (some ⟨b, o, none⟩) (ts.length + 1) c /\ ts.length + 1 <= c /\ w.cell? ⟨b, o, none⟩ = some (.int .i64 t) /\ w.cell? ⟨b, o + 1, none⟩ = some (.slice a l k) /\ LiesT (fun _ => True) w T (Go.Proofs.YtamohjlhndedhadGreatRRR.tyV t a l k) := by
 obtain ⟨a', c, V, e, h1, hr⟩ := h
 obtain ⟨b, o, rfl, _, t, a, l, k, hv, h0, h2⟩ := hr.2.1 0 (by simp)
 have hL := hr.2.2 0 (by simp)
 rw [hv] at hL
 exact ⟨b, o, c, t, a, l, k, e, by simpa using h1, by simpa using h0, by simpa using h2, hL⟩
theorem RowC.len {w : World} {ts : List Ty} {a : Option Addr} {l c : Nat} (h : RowC w ts (.slice a l c)) : l = ts.length /\ ts.length <= c /\ ts.length <= maxLen := by
 obtain ⟨a', c', V, e, h1, hr⟩ := h
 simp only [Value.slice.injEq] at e
 obtain ⟨rfl, rfl, rfl⟩ := e
 exact ⟨rfl, h1, hr.1⟩
theorem RowC.form {w : World} {ts : List Ty} {u : Value} (h : RowC w ts u) : ∃ a c, u = .slice a ts.length c /\ ts.length <= c /\ ts.length <= 9223372036854775807 := by
 obtain ⟨a', c', V, e, h1, hr⟩ := h
 exact ⟨a', c', e, h1, by have := hr.1; unfold maxLen at this; omega⟩
theorem RowC.form3 {w : World} {ts : List Ty} {u : Value} (h : RowC w ts u) : ∃ a l c, u = .slice a l c := by
 obtain ⟨a, c, _, e, _⟩ := h
 exact ⟨a, _, c, e⟩
theorem RowC.drop {w : World} {ts : List Ty} {b o l c : Nat} (h : RowC w ts (.slice (some ⟨b, o, none⟩) l c)) (k : Nat) (hk : k <= ts.length) : RowC w (ts.drop k) (.slice (some ⟨b, o + k * 2, none⟩) (l - k) (c - k)) := by
 obtain ⟨a', c', V, e, h1, hr⟩ := h
 simp only [Value.slice.injEq] at e
 obtain ⟨rfl, rfl, rfl⟩ := e
 exact ⟨_, _, _, by rw [List.length_drop], by rw [List.length_drop]; omega, hr.drop k⟩
theorem RowC.dropAll {w : World} {ts : List Ty} {a : Option Addr} {l c : Nat} (h : RowC w ts (.slice a l c)) (k : Nat) (hk : ts.length <= k) (a' : Option Addr) (c' : Nat) : RowC w (ts.drop k) (.slice a' 0 c') := by
 rw [List.drop_of_length_le hk]; exact RowC.nil _ _ _
theorem RowC.take {w : World} {ts : List Ty} {a : Option Addr} {l c : Nat} (h : RowC w ts (.slice a l c)) (k c' : Nat) (hk : k <= ts.length) (hc : k <= c') : RowC w (ts.take k) (.slice a k c') := by
 obtain ⟨a', c2, V, e, h1, hr⟩ := h
 simp only [Value.slice.injEq] at e
 obtain ⟨rfl, rfl, rfl⟩ := e
 exact ⟨_, _, V, by rw [List.length_take, Nat.min_eq_left hk], by rw [List.length_take]; omega, hr.take k⟩
theorem RowC.one {w : World} {b : Nat} {t : Int} {a : Option Addr} {l k : Nat} {T : Ty} (hb : w.heap[b]? = some (.cells #[.int .i64 t, .slice a l k] 44 (0, 0))) (hL : LiesT (fun _ => True) w T (Go.Proofs.YtamohjlhndedhadGreatRRR.tyV t a l k)) : RowC w [T] (.slice (some ⟨b, 0, none⟩) 1 1) := by
 refine ⟨_, _, fun _ => Go.Proofs.YtamohjlhndedhadGreatRRR.tyV t a l k, rfl, by simp, by simp [maxLen], fun i hi => ?_, fun i hi => ?_⟩
 ·have : i = 0 := by simpa using hi
  subst this
  exact ⟨b, 0, rfl, trivial, t, a, l, k, rfl, cell0_of hb, cell1_of hb⟩
 ·have : i = 0 := by simpa using hi
  subst this
  exact hL
theorem RowC.two {w : World} {b : Nat} {t t2 : Int} {a a2 : Option Addr} {l k l2 k2 : Nat} {T U : Ty} (hb : w.heap[b]? = some (.cells #[.int .i64 t, .slice a l k, .int .i64 t2, .slice a2 l2 k2] 44 (0, 0))) (hL : LiesT (fun _ => True) w T (Go.Proofs.YtamohjlhndedhadGreatRRR.tyV t a l k)) (hU : LiesT (fun _ => True) w U (Go.Proofs.YtamohjlhndedhadGreatRRR.tyV t2 a2 l2 k2)) : RowC w [T, U] (.slice (some ⟨b, 0, none⟩) 2 2) := by
 refine ⟨_, _, fun i => if i = 0 then Go.Proofs.YtamohjlhndedhadGreatRRR.tyV t a l k else Go.Proofs.YtamohjlhndedhadGreatRRR.tyV t2 a2 l2 k2, rfl, by simp, by simp [maxLen], fun i hi => ?_, fun i hi => ?_⟩
 ·rcases (show i = 0 \/ i = 1 by simp at hi; omega) with rfl | rfl
  ·exact ⟨b, 0, rfl, trivial, t, a, l, k, rfl, by simp [World.cell?, hb], by simp [World.cell?, hb]⟩
  ·exact ⟨b, 0, rfl, trivial, t2, a2, l2, k2, rfl, by simp [World.cell?, hb], by simp [World.cell?, hb]⟩
 ·rcases (show i = 0 \/ i = 1 by simp at hi; omega) with rfl | rfl
  ·exact hL
  ·exact hU
theorem addr_add (b o j : Nat) : (⟨b, o, none⟩ : Addr).add j = ⟨b, o + j, none⟩ := by
 unfold Addr.add
 by_cases h : j = 0
 ·subst h; rfl
 ·rw [if_neg h]
theorem RowT.src {w : World} {ts : List Ty} {a : Option Addr} {V : Nat -> Value} (h : RowT (fun _ => True) w ts a V) (c : Nat) : ∃ vs : List Value, vs.length = ts.length /\ SrcAt w (.slice a ts.length c) ts.length (flatT vs) /\ (flatT vs).length = ts.length * 2 /\ (∀ u ∈ flatT vs, u.oneCell' = true) /\ ∀ (i : Nat) (t : Ty) (u : Value), ts[i]? = some t -> vs[i]? = some u -> LiesT (fun _ => True) w t u := by
 let vs := (List.range ts.length).map V
 have hlen : vs.length = ts.length := by simp [vs]
 have hget : ∀ i, i < ts.length -> vs[i]? = some (V i) := fun i hi => by simp [vs, hi]
 have hty : ∀ i, i < ts.length -> ∃ t a' l k, V i = Go.Proofs.YtamohjlhndedhadGreatRRR.tyV t a' l k := fun i hi => by
  obtain ⟨_, _, _, _, t, a', l, k, hv, _⟩ := h.2.1 i hi
  exact ⟨t, a', l, k, hv⟩
 have h2 : ∀ u ∈ vs, ∃ t a' l k, u = Go.Proofs.YtamohjlhndedhadGreatRRR.tyV t a' l k := fun u hu => by
  simp only [vs, List.mem_map, List.mem_range] at hu
  obtain ⟨i, hi, rfl⟩ := hu
  exact hty i hi
 have h2x : ∀ u ∈ vs, (tyCells u).length = 2 := fun u hu => by obtain ⟨t, a', l, k, rfl⟩ := h2 u hu; rfl
 have hfl : ∀ (us : List Value), (∀ u ∈ us, (tyCells u).length = 2) -> (flatT us).length = us.length * 2 := fun us => by
  induction us with
  | nil => intro _; rfl
  | cons x us ih =>
   intro hx
   have e1 := hx x (by simp)
   have e2 := ih (fun u hu => hx u (by simp [hu]))
   simp only [flatT, List.flatMap_cons, List.length_append, List.length_cons] at e2 ⊢
   omega
 refine ⟨vs, hlen, ?_, by rw [hfl vs h2x, hlen], fun u hu => ?_, fun i t u ht hu => ?_⟩
 ·cases a with
  | none =>
   have h0 : ts.length = 0 := by
    rcases Nat.eq_zero_or_pos ts.length with e | e
    ·exact e
    ·obtain ⟨b, o, e2⟩ := h.base e; cases e2
   exact .inl ⟨c, by rw [h0], h0, by rw [List.eq_nil_of_length_eq_zero (hlen.trans h0)]; rfl⟩
  | some ad =>
   refine .inr ⟨ad, c, rfl, fun j u hu => ?_⟩
   have hj : j < (flatT vs).length := (List.getElem?_eq_some_iff.1 hu).1
   rw [hfl vs h2x, hlen] at hj
   have hi : j / 2 < ts.length := by omega
   obtain ⟨b, o, e, _, t, a', l, k, hv, c0, c1⟩ := h.2.1 (j / 2) hi
   have hf := flatT_get vs h2x (j / 2) (j % 2) (V (j / 2)) (hget _ hi) (by omega)
   rw [show j / 2 * 2 + j % 2 = j from by omega, hu, hv] at hf
   simp only [Option.some.injEq] at e
   subst e
   rcases (show j % 2 = 0 \/ j % 2 = 1 by omega) with q | q
   ·rw [q] at hf
    simp [tyCells, Go.Proofs.YtamohjlhndedhadGreatRRR.tyV] at hf
    rw [hf, ← c0]
    rw [addr_add, show o + j = o + j / 2 * 2 from by omega]
   ·rw [q] at hf
    simp [tyCells, Go.Proofs.YtamohjlhndedhadGreatRRR.tyV] at hf
    rw [hf, ← c1]
    rw [addr_add, show o + j = o + j / 2 * 2 + 1 from by omega]
 ·simp only [flatT, List.mem_flatMap] at hu
  obtain ⟨x, hx, hu⟩ := hu
  obtain ⟨t, a', l, k, rfl⟩ := h2 x hx
  simp [tyCells, Go.Proofs.YtamohjlhndedhadGreatRRR.tyV] at hu
  rcases hu with rfl | rfl <;> rfl
 ·have hi : i < ts.length := (List.getElem?_eq_some_iff.1 ht).1
  rw [hget i hi] at hu
  rw [List.getElem?_eq_getElem hi] at ht
  simp only [Option.some.injEq] at ht hu
  subst ht; subst hu
  exact h.2.2 i hi
theorem SrcAt.grow {w w' : World} {xv : Value} {m : Nat} {news : List Value} (h : SrcAt w xv m news) (hg : w.grownBy w' none) : SrcAt w' xv m news := by
 rcases h with h | ⟨ad, c, rfl, h⟩
 ·exact .inl h
 ·refine .inr ⟨ad, c, rfl, fun j u hu => ?_⟩
  have h1 := h j u hu
  exact (World.cell?_of_block (hg.block _ (World.block_lt_of_cell? w _ h1) (by simp))).trans h1
structure CatOk (W w : World) (v : Value) (ts : List Ty) (vs : List Value) : Prop where
 own : OwnsT W.heap.size w v vs
 len : vs.length = ts.length
 lies : ∀ (i : Nat) (t : Ty) (u : Value), ts[i]? = some t -> vs[i]? = some u -> LiesT (fun _ => True) W t u
theorem CatOk.more {W w w' : World} {v v' : Value} {ts us : List Ty} {vs ns : List Value} (h : CatOk W w v ts vs) (ho : OwnsT W.heap.size w' v' (vs ++ ns)) (hl : ns.length = us.length) (hu : ∀ (i : Nat) (t : Ty) (u : Value), us[i]? = some t -> ns[i]? = some u -> LiesT (fun _ => True) W t u) : CatOk W w' v' (ts ++ us) (vs ++ ns) := by
 refine ⟨ho, by simp [h.len, hl], fun i t u ht hv => ?_⟩
 by_cases hi : i < ts.length
 ·rw [List.getElem?_append_left hi] at ht
  rw [List.getElem?_append_left (by rw [h.len]; exact hi)] at hv
  exact h.lies i t u ht hv
 ·rw [List.getElem?_append_right (by omega)] at ht
  rw [List.getElem?_append_right (by rw [h.len]; omega), h.len] at hv
  exact hu _ t u ht hv
theorem CatOk.done {W w : World} {v : Value} {ts : List Ty} {vs : List Value} (h : CatOk W w v ts vs) (hg : W.grownBy w none) : RowC w ts v := by
 have hl := h.len
 have hk : ListOkT 0 w v ts vs := by
  refine ⟨?_, h.len, fun i t u ht hu => ?_⟩
  ·obtain ⟨h1, h2⟩ := h.own
   refine ⟨h1, ?_⟩
   rcases h2 with h2 | ⟨g, cap, cur, e, _, h3⟩
   ·exact .inl h2
   ·exact .inr ⟨g, cap, cur, e, Nat.zero_le _, h3⟩
  ·have hb := (h.lies i t u ht hu).okMono (ok' := (· < W.heap.size)) (fun b hb _ => hb)
   refine (hb.same (w' := w) (fun b o hb _ => World.cell?_of_block (hg.block b hb (by simp)))).okMono (fun b _ hb => ⟨Nat.zero_le _, fun e => ?_⟩)
   have h3 := (World.ownsRow.lt h.own b e.symm).1
   have : b < W.heap.size := hb
   omega
 obtain ⟨a, c, V, e, h1, h2⟩ := hk.done
 have hm : ts.length <= maxLen /\ ts.length <= c := by
  rcases h.own.2 with ⟨e2, h0⟩ | ⟨g, cap, cur, e2, _, _, h4, h5, _⟩
  ·rw [hl] at h0; rw [h0]; exact ⟨Nat.zero_le _, Nat.zero_le _⟩
  ·rw [e2] at e
   simp only [Value.slice.injEq] at e
   obtain ⟨_, e3, e4⟩ := e
   exact ⟨by omega, by omega⟩
 exact ⟨a, c, V, e, hm.2, hm.1, fun i hi => (h1 i hi).okMono (fun _ _ _ => trivial), fun i hi => (h2 i hi).okMono (fun _ _ _ => trivial)⟩
theorem growT_any (n : Nat) (hn : n <= 20000000) (W : World) :
 Calls Tryz.prog 72 #[.slice none 0 0, .int .i64 n] W fun e w' => ∃ v, e = .returned v /\ w'.ownsRow W.heap.size 44 2 v 0 [] /\ W.grownBy w' none := by
 have h63 : (n : Int) <= 20000000 := by omega
 have h0n : ¬ (n : Int) < 0 := by omega
 by_cases h : n = 0
 ·subst h
  go_enter Tryz.func72, Tryz.ntmps72
  go_wp2_with fail
  go_ret
  exact ⟨_, rfl, World.ownsRow_nil _ _ _ _, gRf _ _⟩
 ·obtain ⟨g, cap, w1, hr, ho, hg, hc, hc2⟩ := zeros_own W 25 3 25 44 .i64 .i64 _ 2 32 info_ty Tryz.underlying25 Tryz.underlying3 n (by omega) (by decide) rfl (by omega) (by decide)
  have hpos : (n : Int) > 0 := by omega
  have HO := jh ho
  have HG := jh hg
  clear ho hg
  go_enter Tryz.func72, Tryz.ntmps72
  go_wp2_with (at_builtin; refine Lib.wpList_append_run _ rfl _ _ _ _ rfl _ _ rfl rfl _ _ hr ?_)
  go_ret
  exact ⟨_, rfl, HO.out, HG.out⟩
theorem concat_any {W : World} {x y : List Ty} {xv yv : Value} {b : Nat} (hb : W.heap[b]? = some (.cells #[xv, yv] 25 (0, 0))) (hx : RowC W x xv) (hy : RowC W y yv) (hn : x.length + y.length <= 20000000) :
 Calls Tryz.prog 55 #[.slice (some ⟨b, 0, none⟩) 2 2] W fun e w' => ∃ v, e = .returned v /\ RowC w' (x ++ y) v /\ W.grownBy w' none := by
 have HX := jh hx
 have HY := jh hy
 obtain ⟨xa, xc, VX, rfl, hxc, hrx⟩ := hx
 obtain ⟨ya, yc, VY, rfl, hyc, hry⟩ := hy
 have HRX := jh hrx
 have HRY := jh hry
 have HB := jh hb
 have c0 := cell0_of hb
 have c1 := cell1_of hb
 have HGR := jh (growT_any (x.length + y.length) hn)
 have hi : (x.length : Int) + (y.length : Int) <= 20000000 := by omega
 have hbl : b < W.heap.size := (Array.getElem?_eq_some_iff.1 hb).1
 clear hrx hry hb
 go_enter Tryz.func55, Tryz.ntmps55
 go_wp2_with fail
 go_loopw [3, 11] (fun sv iv wr => wr = W /\ ((iv = .int .i64 0 /\ sv = .int .i64 0) \/ (iv = .int .i64 1 /\ sv = .int .i64 x.length) \/ (iv = .int .i64 2 /\ sv = .int .i64 ((x.length + y.length : Nat) : Int)))) (fun _ iv _ => 2 - (intOf iv).toNat)
 case atStart => exact ⟨rfl, .inl ⟨rfl, rfl⟩⟩
 case round =>
  obtain ⟨hw, hh⟩ := hrel
  replace hw := hw.symm
  subst hw
  rcases hh with ⟨rfl, rfl⟩ | ⟨rfl, rfl⟩ | ⟨rfl, rfl⟩
  ·go_wp2_with fail
   go_roundw
   case rel => exact ⟨by trivial, .inr (.inl ⟨rfl, by go_num⟩)⟩
   case measure => simp [intOf]
  ·go_wp2_with fail
   go_roundw
   case rel => exact ⟨by trivial, .inr (.inr ⟨rfl, by go_num⟩)⟩
   case measure => simp [intOf]
  ·go_wp2_with fail
   refine (HGR.out _).mono ?_; rintro e w1 ⟨v0, rfl, hown0, hg0⟩
   have HO0 : Hid (CatOk W w1 v0 [] []) := ⟨hown0, rfl, fun i t u h => by simp at h⟩
   have HG0 := jh hg0
   clear hown0 hg0 HGR c0 c1
   go_wp2_with fail
   go_loopw [6, 27] (fun nv iv wx => W.grownBy wx none /\ ((iv = .int .i64 0 /\ ∃ vs, CatOk W wx nv [] vs) \/ (iv = .int .i64 1 /\ ∃ vs, CatOk W wx nv x vs) \/ (iv = .int .i64 2 /\ ∃ vs, CatOk W wx nv (x ++ y) vs))) (fun _ iv _ => 2 - (intOf iv).toNat)
   case atStart => exact ⟨HG0.out, .inl ⟨rfl, [], HO0.out⟩⟩
   case round =>
    obtain ⟨hgx, hh⟩ := hrel
    have hb2 := (hgx.block _ hbl (by simp)).trans HB.out
    have c0 := cell0_of hb2
    have c1 := cell1_of hb2
    have HGX := jh hgx
    clear hb2 hgx
    rcases hh with ⟨rfl, vs, hK⟩ | ⟨rfl, vs, hK⟩ | ⟨rfl, vs, hK⟩
    ·obtain ⟨ns, n1, n2, n3, n4, n5⟩ := HRX.out.src xc
     have HK := jh hK
     have HS := jh (n2.grow HGX.out)
     have HN5 := jh n5
     have hvl : vs.length = 0 := hK.len
     clear hK n2 n5
     go_wp2_with (at_builtin; refine wpList_app rfl _ _ 25 rfl W.heap.size 44 Tryz.underlying25 info_ty rfl (by decide) _ vs.length (flatT vs) rfl HK.out.own _ x.length (flatT ns) rfl n3 HS.out n4 (by unfold maxLen; omega) (by omega) HGX.out.size ?_; intro v' w' ho hg _; have HG2 := jh (grow_own HGX.out HK.out.own (Nat.le_refl _) hg.1); have HK2 := jh (HK.out.more (v' := v') (w' := w') (ns := ns) (us := x) (by unfold OwnsT; rw [flatT_append, List.length_append, n1]; exact ho) n1 HN5.out); clear ho hg)
     go_roundw
     case rel => exact ⟨HG2.out, .inr (.inl ⟨rfl, _, HK2.out⟩)⟩
     case measure => simp [intOf]
    ·obtain ⟨ns, n1, n2, n3, n4, n5⟩ := HRY.out.src yc
     have HK := jh hK
     have HS := jh (n2.grow HGX.out)
     have HN5 := jh n5
     have hvl := hK.len
     clear hK n2 n5
     go_wp2_with (at_builtin; refine wpList_app rfl _ _ 25 rfl W.heap.size 44 Tryz.underlying25 info_ty rfl (by decide) _ vs.length (flatT vs) rfl HK.out.own _ y.length (flatT ns) rfl n3 HS.out n4 (by unfold maxLen; omega) (by omega) HGX.out.size ?_; intro v' w' ho hg _; have HG2 := jh (grow_own HGX.out HK.out.own (Nat.le_refl _) hg.1); have HK2 := jh (HK.out.more (v' := v') (w' := w') (ns := ns) (us := y) (by unfold OwnsT; rw [flatT_append, List.length_append, n1]; exact ho) n1 HN5.out); clear ho hg)
     go_roundw
     case rel => exact ⟨HG2.out, .inr (.inr ⟨rfl, _, HK2.out⟩)⟩
     case measure => simp [intOf]
    ·have HD := jh (hK.done HGX.out)
     clear hK
     go_wp2_with fail
     go_ret
     exact ⟨_, rfl, HD.out, HGX.out⟩
section
variable {P : Program} {ops : Array Oper} {Q : Exit -> Act -> World -> Prop} {md : Region.Mode} {S : World -> Prop}
theorem rNq (i : Nat) (d : Tmp) {fuel : Nat} {listed : Array Bool} {a : Act} {w : World} (h : wpAnyH P md ops Q S fuel (listed.setIfInBounds i true) (a.put (some d) undef) w)
 (hi : ∃ oi, ops[i]? = some oi /\ oi.dst = some d /\ Region.wanted oi (yielded ops a.tmps) = false := by exact ⟨_, rfl, rfl, by rfl⟩)
 (hs : Region.noSelect ops = true := by kernel_rfl) (hf : Region.free md ops listed i = true := by kernel_rfl) (hr : (Region.ready md ops listed).contains i = true := by kernel_rfl)
 (hQ : ∀ c a w, Q (.panic c) (a.put (some d) undef) w -> Q (.panic c) a w := by exact fun _ _ _ h => h) (hS : S w := by assumption) : wpAnyH P md ops Q S (fuel + 1) listed a w := by
 obtain ⟨oi, h1, h2, h3⟩ := hi
 rw [← h2] at hQ h
 exact wpAnyH_take h1 hs hf hr hQ (.inr ⟨h3, rfl⟩) hS h
theorem reg_yes (i : Nat) (d : Tmp) {v : Value} {fuel : Nat} {listed : Array Bool} {a : Act} {w : World} (hi : ∃ oi, ops[i]? = some oi /\ oi.dst = some d /\ Region.wanted oi (yielded ops a.tmps) = true /\ ∀ w, S w -> (execOp a.eval oi).run P w = .ok (.value v) w)
 (h : wpAnyH P md ops Q S fuel (listed.setIfInBounds i true) (a.put (some d) v) w)
 (hs : Region.noSelect ops = true := by kernel_rfl) (hf : Region.free md ops listed i = true := by kernel_rfl) (hr : (Region.ready md ops listed).contains i = true := by kernel_rfl)
 (hQ : ∀ c a w, Q (.panic c) (a.put (some d) v) w -> Q (.panic c) a w := by exact fun _ _ _ h => h) (hS : S w := by assumption) : wpAnyH P md ops Q S (fuel + 1) listed a w := by
 obtain ⟨oi, h1, h2, h3, h4⟩ := hi
 rw [← h2] at hQ h
 exact wpAnyH_take h1 hs hf hr hQ (.inl ⟨h3, h4⟩) hS h
end
theorem rGq (i : Nat) (d : Tmp) {P : Program} {ops : Array Oper} {Q : Exit -> Act -> World -> Prop} {md : Region.Mode} {S : World -> Prop} {v : Value} {oi : Oper} {fuel : Nat} {listed : Array Bool} {a : Act} {w : World} (h : wpAnyH P md ops Q S fuel (listed.setIfInBounds i true) (a.put (some d) v) w)
 (h1 : ops[i]? = some oi := by rfl) (h2 : oi.dst = some d := by rfl) (h3 : Region.wanted oi (yielded ops a.tmps) = true := by rfl)
 (h4 : ∀ w, S w -> (execOp a.eval oi).run P w = .ok (.value v) w := by intro w hSw; go_simp; try with_reducible rfl)
 (hs : Region.noSelect ops = true := by kernel_rfl) (hf : Region.free md ops listed i = true := by kernel_rfl) (hr : (Region.ready md ops listed).contains i = true := by kernel_rfl)
 (hQ : ∀ c a w, Q (.panic c) (a.put (some d) v) w -> Q (.panic c) a w := by exact fun _ _ _ h => h) (hS : S w := by assumption) : wpAnyH P md ops Q S (fuel + 1) listed a w :=
 reg_yes i d ⟨oi, h1, h2, h3, h4⟩ h hs hf hr hQ hS
theorem pS {α : Type} : (∀ (l : List α) (i : Nat) (a : α), l.toArray.setIfInBounds i a = (l.set i a).toArray) /\ (∀ (a b : α) (l : List α), (a :: l).set 0 b = b :: l) /\ (∀ (a b : α) (l : List α) (n : Nat), (a :: l).set (n + 1) b = a :: l.set n b) :=
 ⟨fun l i a => List.setIfInBounds_toArray .., fun a b l => List.set_cons_zero .., fun a b l n => List.set_cons_succ ..⟩
end Go.Proofs.YtamohjlhndedhadGreatRRR
