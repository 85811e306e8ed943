/- The document's own answers on types: Comparable, Copied, Packed, Stored, each by a contract. -/
import Derived.Test.YtjhhcdiipbjiaabRefKind
namespace Go.Proofs.Ytjhhcdiipbjiaab
open Go.ChangeShapes Go.WideShapes Go.ChangeAt Go.RowKit
set_option linter.unusedVariables false

theorem nums_block {w : World} {ns : List Int} {T : TypeId} : NumsAt (w.alloc (.cells (ns.map (Value.int .i64)).toArray T)) w.heap.size ns := by
  intro i hi
  have h := heap_alloc_new w (.cells (ns.map (Value.int .i64)).toArray T)
  unfold World.cell?
  simp only [h]
  simp [hi]

theorem without_at {w : World} {T : Ty} {v : Value} {ns : List Int} {lam : Bool} (hL : LiesT (fun _ => True) w T v) (hnl : ns.length ≤ 100) :
    Calls Try.prog 50 #[v, .bool lam, .slice (some ⟨w.heap.size, 0, none⟩) ns.length ns.length] (w.alloc (.cells (ns.map (Value.int .i64)).toArray 3)) fun e w' => e = .returned (.bool (allF (innL lam) (notIn ns) T)) ∧ (w.alloc (.cells (ns.map (Value.int .i64)).toArray 3)).grownBy w' none :=
  without_any (by simp) nums_block hnl (hL.same (sameTrue (Lf.gb _))) _ (grow_refl _ _)

theorem allF_congr {inn inn' f f' : Int → Bool} (h1 : ∀ x, inn x = inn' x) (h2 : ∀ x, f x = f' x) (T : Ty) : allF inn f T = allF inn' f' T := by
  rw [show inn = inn' from funext h1, show f = f' from funext h2]

mutual
theorem allF_and (inn f g : Int → Bool) : ∀ T, (allF inn f T && allF inn g T) = allF inn (fun x => f x && g x) T
  | .nd t args => by
    have := allFs_and inn f g args
    simp only [allF]
    rw [← this]
    cases f t <;> cases g t <;> cases inn t <;> simp
theorem allFs_and (inn f g : Int → Bool) : ∀ l, (allFs inn f l && allFs inn g l) = allFs inn (fun x => f x && g x) l
  | [] => rfl
  | t :: ts => by
    simp only [allFs]
    rw [← allF_and inn f g t, ← allFs_and inn f g ts]
    cases allF inn f t <;> cases allF inn g t <;> simp
end

theorem comp_ref (T : Ty) : (allF innAll isTypeB T && allF (innL true) (notIn [8, 10, 13, 14, 15]) T) = compT T := by
  rw [allF_congr (inn := innL true) (inn' := innAll) (fun _ => rfl) (fun _ => rfl) T, allF_and]
  refine allF_congr (fun _ => rfl) (fun x => ?_) T
  rw [Bool.eq_iff_iff]
  simp [isTypeB, notIn, compB]
  omega
theorem copy_ref (T : Ty) : allF (innL false) (notIn [8, 15]) T = copyT T := by
  refine allF_congr (fun x => by simp [innL, innHeld]) (fun x => ?_) T
  rw [Bool.eq_iff_iff]
  simp [notIn, copyB]
  omega
theorem pack_ref (T : Ty) : allF (innL true) (notIn [8, 14, 15]) T = packT T := by
  refine allF_congr (fun x => rfl) (fun x => ?_) T
  rw [Bool.eq_iff_iff]
  simp [notIn, packB]
theorem store_ref (T : Ty) : allF (innL false) (notIn [8]) T = storeT T := by
  refine allF_congr (fun x => by simp [innL, innHeld]) (fun x => ?_) T
  rw [Bool.eq_iff_iff]
  simp [notIn, storeB]

set_option maxHeartbeats 400000 in
theorem rcopy_any {w : World} {T : Ty} {v : Value} (hL : LiesT (fun _ => True) w T v) (w2 : World) (hg : w.grownBy w2 none) :
    Calls Try.prog 25 #[v] w2 fun e w' => e = .returned (.bool (copyT T)) ∧ w2.grownBy w' none := by
  obtain ⟨a, c, V, rfl, it, hR⟩ := hL.inv
  have hW := without_at (lam := false) (ns := [8, 15]) (hL.same (sameTrue (Lf.gbt hg (Lf.gb (.cells #[.int .i64 T.t, .slice a T.args.length c] 39))))) (by simp)
  rw [show ([8, 15] : List Int).length = 2 from rfl, copy_ref] at hW
  simp only [List.map_cons, List.map_nil, World.size_alloc] at hW
  have HW := Lf.hide hW
  clear hL hR it hg hW
  unfold tyV at HW ⊢
  go_enter Try.func25, Try.ntmps25
  go_wp2_with fail
  refine HW.out.mono ?_; rintro e w4 ⟨rfl, hg4⟩
  have HG4 := Lf.hide (Lf.gbt (Lf.gb _) (Lf.gbt (Lf.gb _) hg4))
  clear hg4
  go_wp2_with fail
  go_ret
  exact ⟨rfl, HG4.out⟩

set_option maxHeartbeats 400000 in
theorem rpack_any {w : World} {T : Ty} {v : Value} (hL : LiesT (fun _ => True) w T v) (w2 : World) (hg : w.grownBy w2 none) :
    Calls Try.prog 27 #[v] w2 fun e w' => e = .returned (.bool (packT T)) ∧ w2.grownBy w' none := by
  obtain ⟨a, c, V, rfl, it, hR⟩ := hL.inv
  have hW := without_at (lam := true) (ns := [8, 14, 15]) (hL.same (sameTrue (Lf.gbt hg (Lf.gb (.cells #[.int .i64 T.t, .slice a T.args.length c] 39))))) (by simp)
  rw [show ([8, 14, 15] : List Int).length = 3 from rfl, pack_ref] at hW
  simp only [List.map_cons, List.map_nil, World.size_alloc] at hW
  have HW := Lf.hide hW
  clear hL hR it hg hW
  unfold tyV at HW ⊢
  go_enter Try.func27, Try.ntmps27
  go_wp2_with fail
  refine HW.out.mono ?_; rintro e w4 ⟨rfl, hg4⟩
  have HG4 := Lf.hide (Lf.gbt (Lf.gb _) (Lf.gbt (Lf.gb _) hg4))
  clear hg4
  go_wp2_with fail
  go_ret
  exact ⟨rfl, HG4.out⟩

set_option maxHeartbeats 400000 in
theorem rstore_any {w : World} {T : Ty} {v : Value} (hL : LiesT (fun _ => True) w T v) (w2 : World) (hg : w.grownBy w2 none) :
    Calls Try.prog 29 #[v] w2 fun e w' => e = .returned (.bool (storeT T)) ∧ w2.grownBy w' none := by
  obtain ⟨a, c, V, rfl, it, hR⟩ := hL.inv
  have hW := without_at (lam := false) (ns := [8]) (hL.same (sameTrue (Lf.gbt hg (Lf.gb (.cells #[.int .i64 T.t, .slice a T.args.length c] 39))))) (by simp)
  rw [show ([8] : List Int).length = 1 from rfl, store_ref] at hW
  simp only [List.map_cons, List.map_nil, World.size_alloc] at hW
  have HW := Lf.hide hW
  clear hL hR it hg hW
  unfold tyV at HW ⊢
  go_enter Try.func29, Try.ntmps29
  go_wp2_with fail
  refine HW.out.mono ?_; rintro e w4 ⟨rfl, hg4⟩
  have HG4 := Lf.hide (Lf.gbt (Lf.gb _) (Lf.gbt (Lf.gb _) hg4))
  clear hg4
  go_wp2_with fail
  go_ret
  exact ⟨rfl, HG4.out⟩

set_option maxHeartbeats 400000 in
theorem rcomp_any {w : World} {T : Ty} {v : Value} (hL : LiesT (fun _ => True) w T v) (w2 : World) (hg : w.grownBy w2 none) :
    Calls Try.prog 23 #[v] w2 fun e w' => e = .returned (.bool (compT T)) ∧ w2.grownBy w' none := by
  obtain ⟨a, c, V, rfl, it, hR⟩ := hL.inv
  have hRl := rreal_any hL (w2.alloc (.cells #[.int .i64 T.t, .slice a T.args.length c] 39)) (Lf.gbt hg (Lf.gb _))
  have hcr := comp_ref T
  have HB := Lf.hide (heap_alloc_new w2 (.cells #[.int .i64 T.t, .slice a T.args.length c] 39))
  have HL := Lf.hide hL
  have HG := Lf.hide (Lf.gbt hg (Lf.gb (.cells #[.int .i64 T.t, .slice a T.args.length c] 39)))
  have HCR := Lf.hide hcr
  clear hL hR it hg hcr
  cases hre : allF innAll isTypeB T with
  | false =>
    rw [hre] at hRl
    have HR := Lf.hide hRl
    have hno : compT T = false := by rw [← HCR.out, hre]; rfl
    have HNO := Lf.hide hno
    clear hre hRl hno
    unfold tyV at HR ⊢
    go_enter Try.func23, Try.ntmps23
    go_wp2_with fail
    refine HR.out.mono ?_; rintro e w3 ⟨rfl, hg3⟩
    have HG3 := Lf.hide (Lf.gbt (Lf.gb _) hg3)
    clear hg3
    go_wp2_with fail
    go_ret
    exact ⟨by rw [HNO.out]; rfl, HG3.out⟩
  | true =>
    rw [hre] at hRl
    have HR := Lf.hide hRl
    have hyes : allF (innL true) (notIn [8, 10, 13, 14, 15]) T = compT T := by rw [← HCR.out, hre]; rfl
    have HY := Lf.hide hyes
    clear hre hRl hyes
    unfold tyV at HR HL ⊢
    go_enter Try.func23, Try.ntmps23
    go_wp2_with fail
    refine HR.out.mono ?_; rintro e w3 ⟨rfl, hg3⟩
    have hb := (hg3.block _ (lt_of_block HB.out) (by simp)).trans HB.out
    have x0 := cell0_of hb
    have x1 := cell1_of hb
    have hW := without_at (lam := true) (ns := [8, 10, 13, 14, 15]) (HL.out.same (sameTrue (Lf.gbt HG.out hg3))) (by simp)
    rw [show ([8, 10, 13, 14, 15] : List Int).length = 5 from rfl, HY.out] at hW
    simp only [List.map_cons, List.map_nil] at hW
    have HW := Lf.hide hW
    have HG3 := Lf.hide (Lf.gbt (Lf.gb _) hg3)
    clear hg3 hb hW
    go_wp2_with fail
    refine HW.out.mono ?_; rintro e w4 ⟨rfl, hg4⟩
    have HG4 := Lf.hide (Lf.gbt HG3.out (Lf.gbt (Lf.gb _) hg4))
    clear hg4
    go_wp2_with fail
    go_ret
    exact ⟨by simp, HG4.out⟩

end Go.Proofs.Ytjhhcdiipbjiaab
