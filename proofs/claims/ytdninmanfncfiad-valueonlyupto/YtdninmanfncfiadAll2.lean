/- kind.all by its contract. -/
import Derived.Test.YtdninmanfncfiadAll
namespace Go.Proofs.Ytdninmanfncfiad
open Go.ChangeShapes Go.WideShapes Go.ChangeAt Go.RowKit
set_option linter.unusedVariables false

theorem ent_all1 : ∀ args w, (callFunc 59 args).run Try.prog w = .ok (.enter 59 args) w := fun args w => by simp [go_sem]

/-- what all has laid ahead of its loop -/
def aw (w : World) (t : Int) (a : Option Addr) (l c kw kf : Nat) : World :=
  (((((w.alloc (.cells #[.int .i64 t, .slice a l c] 24)).alloc (.cells #[.func (.func kw) #[] #[]] 61)).alloc (.cells #[.func (.func kf) #[] #[]] 62)).alloc
    (.cells #[.int .i64 t, .slice a l c] 24)).alloc (.cells #[.slice (some ⟨w.heap.size + 1 + 1 + 1, 0, none⟩) 1 1] 22)).alloc (.cells #[.slice (some ⟨w.heap.size + 1 + 1 + 1 + 1, 0, none⟩) 1 1] 93)

theorem aw_inv (w : World) (t : Int) (a : Option Addr) (l c kw kf : Nat) : AInv w (aw w t a l c kw kf) (w.heap.size + 1) (w.heap.size + 1 + 1 + 1 + 1 + 1) (w.heap.size + 1 + 1) (w.heap.size + 1 + 1 + 1) kw kf #[.int .i64 t, .slice a l c]
    (.slice (some ⟨w.heap.size + 1 + 1 + 1 + 1, 0, none⟩) 1 1) [.slice (some ⟨w.heap.size + 1 + 1 + 1, 0, none⟩) 1 1] := by
  have e1 := heap_alloc_new (w.alloc (.cells #[.int .i64 t, .slice a l c] 24)) (.cells #[.func (.func kw) #[] #[]] 61)
  have e2 := heap_alloc_new ((w.alloc (.cells #[.int .i64 t, .slice a l c] 24)).alloc (.cells #[.func (.func kw) #[] #[]] 61)) (.cells #[.func (.func kf) #[] #[]] 62)
  have e3 := heap_alloc_new (((w.alloc (.cells #[.int .i64 t, .slice a l c] 24)).alloc (.cells #[.func (.func kw) #[] #[]] 61)).alloc (.cells #[.func (.func kf) #[] #[]] 62)) (.cells #[.int .i64 t, .slice a l c] 24)
  have e4 := heap_alloc_new ((((w.alloc (.cells #[.int .i64 t, .slice a l c] 24)).alloc (.cells #[.func (.func kw) #[] #[]] 61)).alloc (.cells #[.func (.func kf) #[] #[]] 62)).alloc (.cells #[.int .i64 t, .slice a l c] 24))
    (.cells #[.slice (some ⟨w.heap.size + 1 + 1 + 1, 0, none⟩) 1 1] 22)
  have e5 := heap_alloc_new (((((w.alloc (.cells #[.int .i64 t, .slice a l c] 24)).alloc (.cells #[.func (.func kw) #[] #[]] 61)).alloc (.cells #[.func (.func kf) #[] #[]] 62)).alloc (.cells #[.int .i64 t, .slice a l c] 24)).alloc
    (.cells #[.slice (some ⟨w.heap.size + 1 + 1 + 1, 0, none⟩) 1 1] 22)) (.cells #[.slice (some ⟨w.heap.size + 1 + 1 + 1 + 1, 0, none⟩) 1 1] 93)
  simp only [World.size_alloc] at e1 e2 e3 e4 e5
  refine ⟨Lf.gbt (Lf.gb _) (Lf.gbt (Lf.gb _) (Lf.gbt (Lf.gb _) (Lf.gbt (Lf.gb _) (Lf.gbt (Lf.gb _) (Lf.gb _))))), by omega, ?_, ?_, e5, ?_, ?_⟩
  · exact heap_keep (heap_keep (heap_keep (heap_keep e1)))
  · exact heap_keep (heap_keep (heap_keep e2))
  · exact heap_keep (heap_keep e3)
  · exact ⟨rfl, .inr ⟨w.heap.size + 1 + 1 + 1 + 1, 1, #[.slice (some ⟨w.heap.size + 1 + 1 + 1, 0, none⟩) 1 1], rfl, by omega, heap_keep e4, by simp, by simp [maxLen], rfl, rfl⟩⟩

/-- where all stands -/
def ARel (w0 W1 : World) (kw kf : Nat) (rc : Array Value) (inn f : Int → Bool) (T : Ty) (n : Nat) (wr : World) : Prop :=
  ∃ (v : Value) (vs : List Value) (rows : List (List Ty)), AInv w0 wr (w0.heap.size + 1) (w0.heap.size + 1 + 1 + 1 + 1 + 1) (w0.heap.size + 1 + 1) (w0.heap.size + 1 + 1 + 1) kw kf rc v vs ∧
    RowsOk (fun b => b < w0.heap.size ∨ b = w0.heap.size + 1 + 1 + 1) W1 rows vs ∧ leftOf rows = n ∧ n ≤ T.size + 1 ∧ rows.all (allFs inn f) = allF inn f T

def fineAt (f : Int → Bool) (r : List Ty) (i : Nat) : Bool := match r[i]? with
  | some x => f x.t
  | none => true

theorem add_none (g o x : Nat) : (⟨g, o, none⟩ : Addr).add x = ⟨g, o + x, none⟩ := by unfold Addr.add; split <;> simp_all

theorem own_empty {w : World} {B : Nat} {e : TypeId} {size n : Nat} {v : Value} {xs : List Value} (h : w.ownsRow B e size v n xs) (hn : n = 0) : ∃ a c, v = .slice a 0 c := by
  rcases h.2 with ⟨rfl, _⟩ | ⟨g, cap, cur, rfl, _⟩
  · exact ⟨_, _, rfl⟩
  · exact ⟨_, _, by rw [hn]⟩

theorem own_cap {w : World} {B : Nat} {e : TypeId} {size n g cap : Nat} {xs : List Value} (h : w.ownsRow B e size (.slice (some ⟨g, 0, none⟩) n cap) n xs) : n ≤ cap ∧ cap ≤ maxLen := by
  rcases h.2 with ⟨hx, _⟩ | ⟨g', cap', cur, hx, _, _, h3, h4, _⟩
  · simp at hx
  · simp only [Value.slice.injEq, true_and] at hx
    rw [hx.2]; exact ⟨h3, h4⟩

theorem pushes_rows {ok : Nat → Prop} {W : World} {rows : List (List Ty)} {vs : List Value} {inn : Int → Bool} {x : Ty} {a : Option Addr} {c : Nat} {V : Nat → Value} (h : RowsOk ok W rows vs) (hx : RowT ok W x.args a V) :
    RowsOk ok W (rows ++ pushes inn x) (vs ++ if inn x.t = true ∧ 0 < x.args.length then [.slice a x.args.length c] else []) := by
  by_cases hA : inn x.t = true ∧ 0 < x.args.length
  · have e : pushes inn x = [x.args] := by
      obtain ⟨t, args⟩ := x
      have h1 : inn t = true := hA.1
      have h2 : 0 < args.length := hA.2
      cases args with
      | nil => simp at h2
      | cons y l => simp [pushes, rowOf, h1, Ty.args]
    rw [if_pos hA, e]
    exact h.snoc ⟨a, c, V, rfl, hx⟩
  · have e : pushes inn x = [] := by
      obtain ⟨t, args⟩ := x
      cases args with
      | nil => simp [pushes, rowOf]
      | cons y l =>
        have h1 : ¬ inn t = true := fun h => hA ⟨h, by simp [Ty.args]⟩
        simp [pushes, h1]
    rw [if_neg hA, e]
    simpa using h

set_option maxRecDepth 100000 in
set_option maxHeartbeats 1000000 in
theorem all_any {kw kf : Nat} {inn f : Int → Bool} (hw : Within kw inn) (hf : Fine kf f) (ekw : ∀ args w, (callFunc kw args).run Try.prog w = .ok (.enter kw args) w) (ekf : ∀ args w, (callFunc kf args).run Try.prog w = .ok (.enter kf args) w)
    {w0 : World} {T : Ty} {v : Value} (hL : LiesT (· < w0.heap.size) w0 T v) (hz : T.size ≤ 50000000) :
    Calls Try.prog 26 #[v, .func (.func kw) #[] #[], .func (.func kf) #[] #[]] w0 fun e w' => e = .returned (.bool (allF inn f T)) ∧ w0.grownBy w' none := by
  obtain ⟨a, c, V, rfl, it, hR⟩ := hL.inv
  obtain ⟨μ, hμ⟩ := least_of (ARel w0 (aw w0 T.t a T.args.length c kw kf) kw kf #[.int .i64 T.t, .slice a T.args.length c] inn f T)
  have h0 : ARel w0 (aw w0 T.t a T.args.length c kw kf) kw kf #[.int .i64 T.t, .slice a T.args.length c] inn f T (T.size + 1) (aw w0 T.t a T.args.length c kw kf) := by
    have hI := aw_inv w0 T.t a T.args.length c kw kf
    refine ⟨_, _, [[T]], hI, ⟨rfl, ?_⟩, by simp [leftOf, tysizes], Nat.le_refl _, by simp [allFs]⟩
    intro i r u h1 h2
    cases i with
    | zero =>
      simp at h1 h2
      subst h1; subst h2
      refine ⟨some ⟨w0.heap.size + 1 + 1 + 1, 0, none⟩, 1, fun _ => tyV T.t a T.args.length c, rfl, by simp [maxLen], fun i hi => ?_, fun i hi => ?_⟩
      · have : i = 0 := by simpa using hi
        subst this
        exact ⟨_, 0, rfl, .inr rfl, T.t, a, T.args.length, c, rfl, cell0_of hI.row, cell1_of hI.row⟩
      · have : i = 0 := by simpa using hi
        subst this
        have hs : Same (· < w0.heap.size) w0 (aw w0 T.t a T.args.length c kw kf) := fun b o hb _ => World.cell?_of_block (hI.grown.block b hb (by simp))
        exact (hL.same hs).okMono (fun b _ hb => .inl hb)
    | succ i => simp at h1
  have hrl : T.args.length ≤ maxLen := hR.1
  unfold maxLen at hrl
  have H0 := Lf.hide h0
  have HM := Lf.hide hμ
  clear h0 hμ hR hL it
  unfold tyV
  go_enter Try.func26, Try.ntmps26
  go_wp2_with fail
  go_loopw [9] (fun _ wr => ∃ n, ARel w0 (aw w0 T.t a T.args.length c kw kf) kw kf #[.int .i64 T.t, .slice a T.args.length c] inn f T n wr) (fun _ wr => μ wr)
  case atStart => exact ⟨_, H0.out⟩
  case round =>
    obtain ⟨n0, hn0⟩ := hrel
    obtain ⟨v1, vs, rows, hI, hRows, hn, hle, hall⟩ := (HM.out wr n0 hn0).1
    have c1 := cell_of_one hI.tod
    have f1 := free_of_one hI.tod
    by_cases hv : vs.length = 0
    · obtain ⟨a0, cc0, rfl⟩ := own_empty hI.own hv
      have hres : allF inn f T = true := by
        have h1 := hRows.1
        have h2 : rows = [] := List.length_eq_zero_iff.1 (by omega)
        rw [h2] at hall
        exact hall.symm
      have HR := Lf.hide hres
      have HI := Lf.hide hI
      clear hI hRows hn hle hall hres hn0
      go_wp2_with fail
      go_ret
      exact ⟨by rw [HR.out]; rfl, HI.out.grown⟩
    · obtain ⟨rows', r, vs', u, rfl, rfl, hRows', ar, cr, Vr, rfl, hRT⟩ := hRows.last (by omega)
      have hlv : (vs' ++ [Value.slice ar r.length cr]).length = vs'.length + 1 := by simp
      have hform := World.ownsRow.form hI.own (by omega)
      rw [hlv] at hform
      obtain ⟨g, cap, rfl, _, _⟩ := hform
      have hcap : vs'.length + 1 ≤ cap ∧ cap ≤ maxLen := by
        have ho := hI.own
        unfold OwnsS at ho
        rw [hlv] at ho
        exact own_cap ho
      have hcap1 : vs'.length ≤ cap := by omega
      have hcap2 : ¬ cap = 0 := by omega
      have hcell : wr.cell? ⟨g, vs'.length, none⟩ = some (.slice ar r.length cr) := by
        have := World.ownsRow.cells hI.own (g := g) rfl vs'.length (.slice ar r.length cr) (by simp)
        rw [add_none, Nat.zero_add] at this
        exact this
      have hI2 := hI.pop rfl
      have hb1 : vs'.length + 1 ≤ 50000001 := by
        have h1 := hRows.1
        have h2 := len_left (rows' ++ [r])
        omega
      have hleft : leftOf rows' + (tysizes r + 1) = μ wr := by rw [← hn, leftOf_append, leftOf_single]
      have hE : Calls Try.prog 60 #[.slice ar r.length cr, .func (.func 59) #[] #[.pointer (some ⟨w0.heap.size + 1, 0, none⟩), .pointer (some ⟨w0.heap.size + 1 + 1 + 1 + 1 + 1, 0, none⟩), .pointer (some ⟨w0.heap.size + 1 + 1, 0, none⟩)]]
          (wr.setCell ⟨w0.heap.size + 1 + 1 + 1 + 1 + 1, 0, none⟩ (.slice (some ⟨g, 0, none⟩) vs'.length cap)) fun e w' => (e = .returned (.bool true) ∧ ∃ m, m < μ wr ∧ ARel w0 (aw w0 T.t a T.args.length c kw kf) kw kf #[.int .i64 T.t, .slice a T.args.length c] inn f T m w') ∨
            (e = .returned (.bool false) ∧ allF inn f T = false ∧ w0.grownBy w' none) := by
        refine (every_any 59 _ r.length ar cr Vr (fineAt f r) (fun i w => ∃ v2 vs2, AInv w0 w (w0.heap.size + 1) (w0.heap.size + 1 + 1 + 1 + 1 + 1) (w0.heap.size + 1 + 1) (w0.heap.size + 1 + 1 + 1) kw kf #[.int .i64 T.t, .slice a T.args.length c] v2 vs2 ∧
            RowsOk (fun b => b < w0.heap.size ∨ b = w0.heap.size + 1 + 1 + 1) (aw w0 T.t a T.args.length c kw kf) (rows' ++ (r.take i).flatMap (pushes inn)) vs2) (fun w => w0.grownBy w none) hRT.1 ent_all1 ?_ ?_ ?_ _ ⟨_, vs', hI2, by simpa using hRows'⟩).mono ?_
        · rintro i w hi ⟨v2, vs2, hI3, _⟩
          exact ((hRT.2.1 i hi).same ((aw_inv w0 T.t a T.args.length c kw kf).same hI3)).okMono (fun _ _ _ => trivial)
        · rintro i w o ⟨v2, vs2, hI3, h4⟩
          exact ⟨v2, vs2, hI3.alloc o, h4⟩
        · rintro i w hi ⟨v2, vs2, hI3, h4⟩
          obtain ⟨ax, cx, Vx, hVx, _, hRx⟩ := (hRT.2.2 i hi).inv
          have hlen : vs2.length ≤ 100000000 := by
            have h5 := h4.1
            have h6 := len_left (rows' ++ (r.take i).flatMap (pushes inn))
            have h7 := flatPushes_left inn (r.take i)
            have h8 := tysizes_take_le r i
            rw [leftOf_append] at h6
            omega
          rw [hVx]
          refine (look_any hI3 hw hf hRx.1 hlen ekw ekf).mono ?_
          rintro e w' ⟨rfl, v', hI4⟩
          have hfa : fineAt f r i = f (r[i]).t := by simp [fineAt, List.getElem?_eq_getElem hi]
          rw [hfa]
          refine ⟨rfl, fun _ => ⟨v', _, hI4, ?_⟩, fun _ => hI4.grown⟩
          rw [flatMap_take_succ _ _ _ hi, ← List.append_assoc]
          exact pushes_rows h4 hRx
        · rintro e w' (⟨rfl, ⟨v2, vs2, hI3, h4⟩, hb⟩ | ⟨i, hi, hb, rfl, hg⟩)
          · rw [List.take_length] at h4
            have hyes : ∀ x ∈ r, f x.t = true := by
              intro x hx
              obtain ⟨i, hi, rfl⟩ := List.getElem_of_mem hx
              have := hb i hi
              simpa [fineAt, List.getElem?_eq_getElem hi] using this
            have h7 := flatPushes_left inn r
            refine .inl ⟨rfl, leftOf (rows' ++ r.flatMap (pushes inn)), ?_, v2, vs2, _, hI3, h4, rfl, ?_, ?_⟩
            · rw [leftOf_append]; omega
            · rw [leftOf_append]; omega
            · rw [← hall, List.all_append, List.all_append, ← allFs_pushes inn f r hyes]; simp
          · refine .inr ⟨rfl, ?_, hg⟩
            have hno : f (r[i]).t = false := by simpa [fineAt, List.getElem?_eq_getElem hi] using hb
            rw [← hall, List.all_append]
            simp [allFs_no inn f r i hi hno]
      have HE := Lf.hide hE
      have hvv : (vs'.length : Int) ≤ 4611686018427387904 := by omega
      clear hz hb1 hv hcap hE hI2 hI hRows hRows' hRT hn hle hall hn0 hlv hleft
      go_wp2_with fail
      refine HE.out.mono ?_
      rintro e w2 (⟨rfl, hm⟩ | ⟨rfl, hno, hg⟩)
      · have HM2 := Lf.hide hm
        clear hm
        go_wp2_with fail
        obtain ⟨m, h1, h2⟩ := HM2.out
        go_roundw
        case rel => exact ⟨m, h2⟩
        case measure => exact Nat.lt_of_le_of_lt (HM.out _ m h2).2 h1
      · have HN := Lf.hide hno
        have HG := Lf.hide hg
        clear hno hg
        go_wp2_with fail
        go_ret
        exact ⟨by rw [HN.out]; rfl, HG.out⟩

end Go.Proofs.Ytdninmanfncfiad
