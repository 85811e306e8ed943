/- kind.formed by its contract, by induction. -/
import Derived.Test.YtdninmanfncfiadFormed
namespace Go.Proofs.Ytdninmanfncfiad
open Go.ChangeShapes Go.WideShapes Go.ChangeAt Go.RowKit
set_option linter.unusedVariables false

theorem ent_formed1 : ∀ args w, (callFunc 70 args).run Try.prog w = .ok (.enter 70 args) w := fun args w => by simp [go_sem]

theorem formedAt_nd (d m : Nat) (t : Int) (args : List Ty) (hd : d ≤ 24) (ht : isTypeB t = true) (hp : (args.length : Int) = partsF t) : formedAt d m (.nd t args) = (formedBs (d + 1) args && decide (m + 1 + tysizes args ≤ 300)) := by
  simp only [formedAt, formedB, Ty.size]
  simp [hd, ht, hp, show m + (tysizes args + 1) = m + 1 + tysizes args from by omega]

/-- what formed says of the i-th -/
def fb (d m : Nat) (args : List Ty) (i : Nat) : Bool := match args[i]? with
  | some x => formedAt d (m + tysizes (args.take i)) x
  | none => true

theorem fb_all {d m : Nat} {args : List Ty} (hm : m ≤ 300) (h : ∀ i, i < args.length → fb d m args i = true) : (formedBs d args && decide (m + tysizes args ≤ 300)) = true := by
  have h1 : formedBs d args = true := by
    rw [formedBs_all, List.all_eq_true]
    intro x hx
    obtain ⟨i, hi, rfl⟩ := List.getElem_of_mem hx
    have := h i hi
    simp [fb, List.getElem?_eq_getElem hi, formedAt] at this
    exact this.1
  have h2 : ∀ i, i ≤ args.length → m + tysizes (args.take i) ≤ 300 := by
    intro i
    induction i with
    | zero => intro _; simpa [tysizes] using hm
    | succ i ih =>
      intro hi
      have := h i (by omega)
      simp [fb, List.getElem?_eq_getElem (show i < args.length from by omega), formedAt] at this
      rw [tysizes_take_succ args i (by omega)]; omega
  have h3 := h2 args.length (Nat.le_refl _)
  rw [List.take_length] at h3
  simp [h1, h3]

theorem fb_no {d m : Nat} {args : List Ty} {i : Nat} (hi : i < args.length) (h : fb d m args i = false) : (formedBs d args && decide (m + tysizes args ≤ 300)) = false := by
  cases hq : (formedBs d args && decide (m + tysizes args ≤ 300)) with
  | false => rfl
  | true =>
    simp only [Bool.and_eq_true, decide_eq_true_eq, formedBs_all, List.all_eq_true] at hq
    have h1 := hq.1 args[i] (List.getElem_mem hi)
    have h2 := tysizes_take_succ args i hi
    have h3 := tysizes_take_le args (i + 1)
    simp [fb, List.getElem?_eq_getElem hi, formedAt, h1] at h
    omega

structure FInv (w2 w : World) (cb db pb d m : Nat) : Prop where
  grown : w2.grownBy w (some cb)
  dep : w.heap[db]? = some (.cells #[.int .i64 (d : Int)] 3 (0, 0))
  ptr : w.heap[pb]? = some (.cells #[.pointer (some ⟨cb, 0, none⟩)] 77 (0, 0))
  count : CountAt w cb m
  small : m ≤ 300

theorem FInv.alloc {w2 w : World} {cb db pb d m : Nat} (h : FInv w2 w cb db pb d m) (o : Obj) : FInv w2 (w.alloc o) cb db pb d m :=
  ⟨grow_trans h.grown (grow_any (Lf.gb _)), heap_keep h.dep, heap_keep h.ptr, heap_keep h.count, h.small⟩

theorem FInv.next {w2 w w' : World} {cb db pb d m m' : Nat} (h : FInv w2 w cb db pb d m) (hg : w.grownBy w' (some cb)) (hd : db ≠ cb) (hp : pb ≠ cb) (hc : CountAt w' cb m') (hm : m' ≤ 300) : FInv w2 w' cb db pb d m' :=
  ⟨grow_trans h.grown hg, (hg.block _ (Array.getElem?_eq_some_iff.1 h.dep).1 (by simpa using hd)).trans h.dep, (hg.block _ (Array.getElem?_eq_some_iff.1 h.ptr).1 (by simpa using hp)).trans h.ptr, hc, hm⟩

set_option maxRecDepth 100000 in
set_option maxHeartbeats 1000000 in
theorem formed_any {cb : Nat} {w : World} {T : Ty} {v : Value} (hL : LiesT (· ≠ cb) w T v) : ∀ (d m : Nat) (w2 : World), Same (· ≠ cb) w w2 → w.heap.size ≤ w2.heap.size → CountAt w2 cb m → m ≤ 300 → d ≤ 25 →
    Calls Try.prog 41 #[v, .int .i64 d, .pointer (some ⟨cb, 0, none⟩)] w2 (FormedPost d m T cb w2) := by
  induction hL with
  | @mk t args a c V hl hlc it hc hr ih =>
    intro d m w2 hsame hz hcb hm hd
    by_cases hw : 24 < d ∨ m = 300 ∨ isTypeB t = false ∨ (args.length : Int) ≠ partsF t
    · refine formed_no d m w2 hcb hm hl hd ?_ hw
      simp only [formedAt, formedB, Ty.size]
      rcases hw with h | h | h | h
      · simp [show ¬ d ≤ 24 from by omega]
      · simp [show ¬ m + (tysizes args + 1) ≤ 300 from by omega]
      · simp [h]
      · simp [h]
    have hd24 : d ≤ 24 := by omega
    have hm3 : m + 1 ≤ 300 := by omega
    have hty : isTypeB t = true := by
      cases h : isTypeB t with
      | true => rfl
      | false => exact absurd (.inr (.inr (.inl h))) hw
    have hpa : (args.length : Int) = partsF t := by
      by_cases h : (args.length : Int) = partsF t
      · exact h
      · exact absurd (.inr (.inr (.inr h))) hw
    have hlt : cb < w2.heap.size := (Array.getElem?_eq_some_iff.1 hcb).1
    have hres := formedAt_nd d m t args hd24 hty hpa
    have hI0 : ∀ q, FInv w2 ((fw w2 cb m t a args.length c d).drewN q) cb (w2.heap.size + 1) (w2.heap.size + 1 + 1) d (m + 1 + tysizes (args.take 0)) := fun q => ⟨grow_drewN fw_grown, fw_d, fw_p, fw_count hcb, by simpa [tysizes] using hm3⟩
    have hE : ∀ q, Calls Try.prog 60 #[.slice a args.length c, .func (.func 70) #[] #[.pointer (some ⟨w2.heap.size + 1, 0, none⟩), .pointer (some ⟨w2.heap.size + 1 + 1, 0, none⟩)]] ((fw w2 cb m t a args.length c d).drewN q) (FormedPost d m (.nd t args) cb w2) := by
      intro q
      refine (every_any 70 _ args.length a c V (fb (d + 1) (m + 1) args) (fun i wr => FInv w2 wr cb (w2.heap.size + 1) (w2.heap.size + 1 + 1) d (m + 1 + tysizes (args.take i))) (fun wr => w2.grownBy wr (some cb)) hl ent_formed1 ?_ ?_ ?_ _ (hI0 q)).mono ?_
      · intro i wr hi hI
        exact ((hc i hi).same (hsame.grown hz hI.grown (by simp))).okMono (fun _ _ _ => trivial)
      · intro i wr o hI
        exact hI.alloc o
      · intro i wr hi hI
        obtain ⟨_, _, t', a', l', c', _, _, hv, _, _⟩ := (hc i hi).cells
        have hih := ih i hi (d + 1) (m + 1 + tysizes (args.take i)) (wr.alloc (.cells #[.int .i64 t', .slice a' l' c'] 24)) (hsame.grown hz (grow_trans hI.grown (grow_any (Lf.gb _))) (by simp)) (by have := hI.grown.size; simp; omega) (heap_keep hI.count) hI.small (by omega)
        rw [hv] at hih ⊢
        refine formed1_of hI.dep hI.ptr hd24 (hih.mono ?_)
        rintro e w' ⟨rfl, hg, hcnt⟩
        have hgg : wr.grownBy w' (some cb) := grow_trans (grow_any (Lf.gb _)) hg
        have hfb : fb (d + 1) (m + 1) args i = formedAt (d + 1) (m + 1 + tysizes (args.take i)) args[i] := by simp [fb, List.getElem?_eq_getElem hi]
        rw [hfb]
        refine ⟨rfl, fun h => ?_, fun _ => grow_trans hI.grown hgg⟩
        have h2 := hcnt h
        have h3 := tysizes_take_succ args i hi
        refine hI.next hgg (by omega) (by omega) ?_ ?_
        · rw [h3, ← Nat.add_assoc]; exact h2
        · rw [h3]
          simp [formedAt] at h
          omega
      · rintro e w' (⟨rfl, hI, hb⟩ | ⟨i, hi, hb, rfl, hg⟩)
        · have h := fb_all hm3 hb
          refine ⟨by rw [hres, h], hI.grown, fun _ => ?_⟩
          have := hI.count
          rw [List.take_length] at this
          rw [Ty.size, show m + (tysizes args + 1) = m + 1 + tysizes args from by omega]
          exact this
        · have h := fb_no hi hb
          exact ⟨by rw [hres, h], hg, fun h' => by rw [hres, h] at h'; cases h'⟩
    have HE := Lf.hide hE
    have h1 := isType_any t
    rw [hty] at h1
    have H1 := Lf.hide h1
    have h2' : ((args.length : Int) == partsF t) = true := by simpa using hpa
    have c1 := cell_of_one hcb
    have c2 := free_of_one hcb
    have l2 : cb < w2.heap.size + 1 := by omega
    have l3 : cb < w2.heap.size + 1 + 1 := by omega
    have hd' : (d : Int) ≤ 24 := by omega
    have hm' : (m : Int) + 1 ≤ 300 := by omega
    unfold maxLen at hl
    clear hE h1 hcb hsame ih hc hr hres hI0 hw hpa hty
    unfold tyV
    go_enter Try.func41, Try.ntmps41
    go_wp2_with fail
    go_quiet (first | (go_at_call 39; exact Calls.quiet_of_same (H1.out _)) | (go_at_call 69; exact Calls.quiet_of_same (parts_any _ _)))
    go_wp2_with fail
    refine (HE.out _).mono ?_
    rintro e w' ⟨rfl, hp⟩
    go_wp2_with fail
    go_ret
    exact ⟨rfl, hp⟩

end Go.Proofs.Ytdninmanfncfiad
