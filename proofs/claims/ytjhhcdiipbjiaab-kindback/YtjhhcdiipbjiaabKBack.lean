/- For every type and every tree, KindBack returns true and leaves its arguments as they were: a good type's tree is read as that type and is a good tree; what is read as a type has just that tree. No condition. -/
import Derived.Test.YtjhhcdiipbjiaabRows
import Derived.Test.YtjhhcdiipbjiaabNames
import Derived.Test.YtjhhcdiipbjiaabOpenT
import Derived.Test.YtjhhcdiipbjiaabOpen
import Derived.Test.YtjhhcdiipbjiaabNodeT
import Derived.Test.YtjhhcdiipbjiaabSameT2
import Derived.Test.YtjhhcdiipbjiaabGood
import Derived.Test.YtjhhcdiipbjiaabAlike
namespace Go.Proofs.Ytjhhcdiipbjiaab
open Go.ChangeShapes Go.WideShapes Go.ChangeAt Go.RowKit
set_option linter.unusedVariables false

theorem hkeep {W w' : World} {b : Nat} {o : Obj} (h : W.heap[b]? = some o) (hg : W.grownBy w' none) : w'.heap[b]? = some o := (hg.block b (lt_of_block h) (by simp)).trans h

theorem parse_good {t : Tr} (h : parseB t = true) : goodTy (readT t) = true ∧ writeT (readT t) = t := by
  simp only [parseB, readAt, Bool.and_eq_true, decide_eq_true_eq] at h
  exact ⟨h.2, write_read t h.1.1⟩

theorem write_parse {T : Ty} (h : goodTy T = true) : parseB (writeT T) = true := by
  have hz := (goodTy_formed h).2.1
  simp only [parseB, readAt, prim_write, read_write, h, writeT_size, Bool.true_and, Bool.and_true, decide_eq_true_eq]
  omega

theorem wrong_prim {t : Int} {n : Nat} (h : isTypeB t = true) : Lf.wrongF 2 0 t emptyB n = 0 := by
  have e : emptyB.size = 0 := rfl
  have h2 : 1 ≤ t ∧ t ≤ 15 := by simpa [isTypeB] using h
  have h3 : Lf.isPrimB t = true := by simp [Lf.isPrimB]; omega
  simp [Lf.wrongF, Lf.isKindB, h3, Lf.moreB, e]

mutual
theorem first_write : ∀ (T : Ty) (d : Nat), formedB d T = true → firstW d (writeT T) = 0
  | .nd t args, d => by
    intro h
    simp only [formedB, Bool.and_eq_true, decide_eq_true_eq] at h
    rw [writeT, firstW, if_neg (by omega), if_neg (by simpa using wrong_prim h.1.2.1)]
    exact firsts_write args (d + 1) h.2
theorem firsts_write : ∀ (l : List Ty) (d : Nat), formedBs d l = true → firstWs d (writeTs l) = 0
  | [], d => fun _ => by simp [writeTs, firstWs]
  | t :: ts, d => by
    intro h
    simp only [formedBs, Bool.and_eq_true] at h
    rw [writeTs, firstWs, first_write t d h.1]
    simp [firsts_write ts d h.2]
end

theorem write_good {T : Ty} (h : goodTy T = true) : goodF (writeT T) = 0 := by
  obtain ⟨h1, h2, _⟩ := goodTy_formed h
  simp [goodF, first_write T 1 h1, writeT_size]; omega

end Go.Proofs.Ytjhhcdiipbjiaab

namespace Go.Proofs.Ytjhhcdiipbjiaab.kindBack
open Go.ChangeShapes Go.WideShapes Go.ChangeAt Go.RowKit
set_option linter.unusedVariables false

set_option maxRecDepth 100000 in
set_option maxHeartbeats 2000000 in
theorem walk_yes {w : World} {T : Ty} {v : Value} {tn : Tr} {k n p : Int} {s : ByteArray} {a2 : Option Addr} {l2 c2 : Nat} (hL : LiesT (· < w.heap.size) w T v) (hLN : Lies (· < w.heap.size) w tn (nodeV k n p s a2 l2 c2)) (hgd : goodTy T = true) :
    Calls Try.prog 8 #[v, nodeV k n p s a2 l2 c2] w fun e w' => e = .returned (.bool true) ∧ w.grownBy w' none := by
  obtain ⟨a, c, V, rfl, it, hR⟩ := hL.inv
  have hz : T.size ≤ 300 := (goodTy_formed hgd).2.1
  have hG0 : w.grownBy ((w.alloc (.cells #[.int .i64 T.t, .slice a T.args.length c] 39)).alloc (.cells #[.int .i64 k, .int .i64 n, .int .i64 p, .string s, .slice a2 l2 c2] 24)) none := Lf.gbt (Lf.gb _) (Lf.gb _)
  have eT := heap_alloc_new w (.cells #[.int .i64 T.t, .slice a T.args.length c] 39)
  have eN := heap_alloc_new (w.alloc (.cells #[.int .i64 T.t, .slice a T.args.length c] 39)) (.cells #[.int .i64 k, .int .i64 n, .int .i64 p, .string s, .slice a2 l2 c2] 24)
  rw [World.size_alloc] at eN
  have HBT0 := Lf.hide (heap_keep (o := .cells #[.int .i64 k, .int .i64 n, .int .i64 p, .string s, .slice a2 l2 c2] 24) eT)
  have HBN0 := Lf.hide eN
  have HG0 := Lf.hide hG0
  have hLn := Lf.hide hLN
  have HLT := Lf.hide hL
  have HGD := Lf.hide hgd
  have HWP := Lf.hide (write_parse hgd)
  have HWG := Lf.hide (write_good hgd)
  clear hL hLN hgd it hR hG0 eT eN
  unfold tyV at HLT ⊢
  unfold nodeV at hLn ⊢
  go_enter Try.func8, Try.ntmps8
  go_wp2_with fail
  refine (tnode_any (HLT.out.grow HG0.out)).mono ?_; rintro e w1 ⟨hg, hp⟩
  rcases hp with ⟨_, m0, rfl, hLm⟩ | ⟨hno, rfl⟩
  rotate_left
  · rw [HGD.out] at hno; cases hno
  obtain ⟨km, nm, pm, sm, am, lm, cm, rfl⟩ := hLm.nodeV
  have HG1 := Lf.hide (Lf.gbt HG0.out hg)
  have HBT1 := Lf.hide (hkeep HBT0.out hg)
  have HBN1 := Lf.hide (hkeep HBN0.out hg)
  have HBT2 := Lf.hide (heap_keep (o := .cells #[.int .i64 km, .int .i64 nm, .int .i64 pm, .string sm, .slice am lm cm] 24) HBT1.out)
  have HBN2 := Lf.hide (heap_keep (o := .cells #[.int .i64 km, .int .i64 nm, .int .i64 pm, .string sm, .slice am lm cm] 24) HBN1.out)
  have HBM2 := Lf.hide (heap_alloc_new w1 (.cells #[.int .i64 km, .int .i64 nm, .int .i64 pm, .string sm, .slice am lm cm] 24))
  have HG2 := Lf.hide (Lf.gbt HG1.out (Lf.gb (.cells #[.int .i64 km, .int .i64 nm, .int .i64 pm, .string sm, .slice am lm cm] 24)))
  have HLM := Lf.hide ((hLm.okMono (ok' := (· < w1.heap.size)) (fun b hb _ => hb)).grow (Lf.gb (.cells #[.int .i64 km, .int .i64 nm, .int .i64 pm, .string sm, .slice am lm cm] 24)))
  clear hg hLm
  unfold nodeV at HLM ⊢
  go_wp2_with fail
  refine (names_any _).mono ?_; rintro e w3 ⟨rfl, hg⟩
  have HG3 := Lf.hide (Lf.gbt HG2.out hg)
  have HGM3 := Lf.hide hg
  have HBT3 := Lf.hide (hkeep HBT2.out hg)
  have HBN3 := Lf.hide (hkeep HBN2.out hg)
  have HBM3 := Lf.hide (hkeep HBM2.out hg)
  have Tx0 := cell0_of HBT3.out
  have Tx1 := cell1_of HBT3.out
  have Tlt := lt_of_block HBT3.out
  obtain ⟨Ny0, Ny1, Ny2, Ny3, Ny4⟩ := box5 HBN3.out
  have Nlt := lt_of_block HBN3.out
  obtain ⟨My0, My1, My2, My3, My4⟩ := box5 HBM3.out
  have Mlt := lt_of_block HBM3.out
  clear hg
  go_wp2_with fail
  refine (kgood_any (HLT.out.grow HG3.out)).mono ?_; rintro e w4 ⟨rfl, hg⟩
  rw [HGD.out]
  have HG4 := Lf.hide (Lf.gbt HG3.out hg)
  have HGM4 := Lf.hide (Lf.gbt HGM3.out hg)
  clear Tx0 Tx1 Tlt
  clear Ny0 Ny1 Ny2 Ny3 Ny4 Nlt
  clear My0 My1 My2 My3 My4 Mlt
  have HBT4 := Lf.hide (hkeep HBT3.out hg)
  have HBN4 := Lf.hide (hkeep HBN3.out hg)
  have HBM4 := Lf.hide (hkeep HBM3.out hg)
  have Tx0 := cell0_of HBT4.out
  have Tx1 := cell1_of HBT4.out
  have Tlt := lt_of_block HBT4.out
  obtain ⟨Ny0, Ny1, Ny2, Ny3, Ny4⟩ := box5 HBN4.out
  have Nlt := lt_of_block HBN4.out
  obtain ⟨My0, My1, My2, My3, My4⟩ := box5 HBM4.out
  have Mlt := lt_of_block HBM4.out
  clear hg
  go_wp2_with fail
  refine (parse_any (HLM.out.grow HGM4.out)).mono ?_; rintro e w5 ⟨hg, hp⟩
  rcases hp with ⟨_, u0, rfl, hLu⟩ | ⟨hno, rfl⟩
  rotate_left
  · rw [HWP.out] at hno; cases hno
  rw [read_write] at hLu
  obtain ⟨ku, au, lu, cu, rfl⟩ := hLu.tyV
  have HG5 := Lf.hide (Lf.gbt HG4.out hg)
  have HGM5 := Lf.hide (Lf.gbt HGM4.out hg)
  clear Tx0 Tx1 Tlt
  clear Ny0 Ny1 Ny2 Ny3 Ny4 Nlt
  clear My0 My1 My2 My3 My4 Mlt
  have HBT5 := Lf.hide (hkeep HBT4.out hg)
  have HBN5 := Lf.hide (hkeep HBN4.out hg)
  have HBM5 := Lf.hide (hkeep HBM4.out hg)
  have HBT6 := Lf.hide (heap_keep (o := .cells #[.int .i64 ku, .slice au lu cu] 39) HBT5.out)
  have HBN6 := Lf.hide (heap_keep (o := .cells #[.int .i64 ku, .slice au lu cu] 39) HBN5.out)
  have HBM6 := Lf.hide (heap_keep (o := .cells #[.int .i64 ku, .slice au lu cu] 39) HBM5.out)
  have Tx0 := cell0_of HBT6.out
  have Tx1 := cell1_of HBT6.out
  have Tlt := lt_of_block HBT6.out
  obtain ⟨Ny0, Ny1, Ny2, Ny3, Ny4⟩ := box5 HBN6.out
  have Nlt := lt_of_block HBN6.out
  obtain ⟨My0, My1, My2, My3, My4⟩ := box5 HBM6.out
  have Mlt := lt_of_block HBM6.out
  have Tl5 := lt_of_block HBT5.out
  have Ml5 := lt_of_block HBM5.out
  have t5 := cell0_of HBT5.out
  have t6 := cell1_of HBT5.out
  have HG6 := Lf.hide (Lf.gbt HG5.out (Lf.gb (.cells #[.int .i64 ku, .slice au lu cu] 39)))
  have HGM6 := Lf.hide (Lf.gbt HGM5.out (Lf.gb (.cells #[.int .i64 ku, .slice au lu cu] 39)))
  have HLU := Lf.hide ((hLu.okMono (ok' := (· < w5.heap.size)) (fun b hb _ => hb)).grow (Lf.gb (.cells #[.int .i64 ku, .slice au lu cu] 39)))
  clear hg hLu
  unfold tyV at HLU ⊢
  go_wp2_with fail
  refine (same_any (HLT.out.grow HG6.out) HLU.out (by omega)).mono ?_; rintro e w7 ⟨rfl, hg⟩
  rw [sameT_refl]
  have HG7 := Lf.hide (Lf.gbt HG6.out hg)
  have HGM7 := Lf.hide (Lf.gbt HGM6.out hg)
  clear Tx0 Tx1 Tlt
  clear Ny0 Ny1 Ny2 Ny3 Ny4 Nlt
  clear My0 My1 My2 My3 My4 Mlt
  have HBT7 := Lf.hide (hkeep HBT6.out hg)
  have HBN7 := Lf.hide (hkeep HBN6.out hg)
  have HBM7 := Lf.hide (hkeep HBM6.out hg)
  have Tx0 := cell0_of HBT7.out
  have Tx1 := cell1_of HBT7.out
  have Tlt := lt_of_block HBT7.out
  obtain ⟨Ny0, Ny1, Ny2, Ny3, Ny4⟩ := box5 HBN7.out
  have Nlt := lt_of_block HBN7.out
  obtain ⟨My0, My1, My2, My3, My4⟩ := box5 HBM7.out
  have Mlt := lt_of_block HBM7.out
  clear hg t5 t6 Tl5 Ml5
  go_wp2_with fail
  refine (good_any (HLM.out.grow HGM7.out) (by rw [writeT_size]; omega)).mono ?_; rintro e w8 ⟨rfl, hg⟩
  rw [HWG.out]
  have HG8 := Lf.hide (Lf.gbt HG7.out hg)
  clear Tx0 Tx1 Tlt
  clear Ny0 Ny1 Ny2 Ny3 Ny4 Nlt
  clear My0 My1 My2 My3 My4 Mlt
  have HBT8 := Lf.hide (hkeep HBT7.out hg)
  have HBN8 := Lf.hide (hkeep HBN7.out hg)
  have HBM8 := Lf.hide (hkeep HBM7.out hg)
  obtain ⟨Ny0, Ny1, Ny2, Ny3, Ny4⟩ := box5 HBN8.out
  have Nlt := lt_of_block HBN8.out
  clear hg
  go_wp2_with fail
  refine (parse_any (hLn.out.grow HG8.out)).mono ?_; rintro e z1 ⟨hg, hp⟩
  have HGz1 := Lf.hide (Lf.gbt HG8.out hg)
  have HBNz1 := Lf.hide (hkeep HBN8.out hg)
  rcases hp with ⟨hpb, v, rfl, hLv⟩ | ⟨hpb, rfl⟩
  · obtain ⟨kv, av, lv, cv, rfl⟩ := hLv.tyV
    obtain ⟨hgv, hwv⟩ := parse_good hpb
    have HLV := Lf.hide ((hLv.okMono (ok' := (· < z1.heap.size)) (fun b hb _ => hb)).grow (Lf.gb (.cells #[.int .i64 kv, .slice av lv cv] 39)))
    have HBNz2 := Lf.hide (heap_keep (o := .cells #[.int .i64 kv, .slice av lv cv] 39) HBNz1.out)
    have HGz2 := Lf.hide (Lf.gbt HGz1.out (Lf.gb (.cells #[.int .i64 kv, .slice av lv cv] 39)))
    have HGV := Lf.hide hgv
    have HWV := Lf.hide hwv
    clear hg hpb hLv hgv hwv
    unfold tyV at HLV ⊢
    go_wp2_with fail
    refine (tnode_any HLV.out).mono ?_; rintro e z3 ⟨hg, hp⟩
    rcases hp with ⟨_, kk0, rfl, hLk⟩ | ⟨hno, rfl⟩
    · obtain ⟨kk, nk, pk, sk, ak, lk, ck, rfl⟩ := hLk.nodeV
      rw [HWV.out] at hLk
      have HGz3 := Lf.hide (Lf.gbt HGz2.out hg)
      have HBNz3 := Lf.hide (hkeep HBNz2.out hg)
      have HBNz4 := Lf.hide (heap_keep (o := .cells #[.int .i64 kk, .int .i64 nk, .int .i64 pk, .string sk, .slice ak lk ck] 24) HBNz3.out)
      have HGz4 := Lf.hide (Lf.gbt HGz3.out (Lf.gb (.cells #[.int .i64 kk, .int .i64 nk, .int .i64 pk, .string sk, .slice ak lk ck] 24)))
      have HLK := Lf.hide ((hLk.okMono (ok' := fun _ => True) (fun _ _ _ => trivial)).same (same_none (Lf.gb (.cells #[.int .i64 kk, .int .i64 nk, .int .i64 pk, .string sk, .slice ak lk ck] 24))))
      have HLN4 := Lf.hide ((hLn.out.grow HGz4.out).okMono (ok' := fun _ => True) (fun _ _ _ => trivial))
      obtain ⟨Ny0, Ny1, Ny2, Ny3, Ny4⟩ := box5 HBNz4.out
      have Nlt := lt_of_block HBNz4.out
      have Nlt3 := lt_of_block HBNz3.out
      obtain ⟨q0, q1, q2, q3, q4⟩ := box5 HBNz3.out
      clear hg hLk
      unfold nodeV at HLK HLN4 ⊢
      go_wp2_with fail
      refine (alike_any HLK.out _ _ (grow_refl _ _) HLN4.out).mono ?_; rintro e z5 ⟨rfl, hg⟩
      have HGz5 := Lf.hide (Lf.gbt HGz4.out hg)
      clear hg
      go_wp2_with fail
      go_ret
      exact ⟨rfl, HGz5.out⟩
    · rw [HGV.out] at hno; cases hno
  · clear hg hpb
    unfold tyV
    go_wp2_with fail
    go_ret
    exact ⟨rfl, Lf.gbt HGz1.out (Lf.gb _)⟩

set_option maxRecDepth 100000 in
set_option maxHeartbeats 2000000 in
theorem walk_no {w : World} {T : Ty} {v : Value} {tn : Tr} {k n p : Int} {s : ByteArray} {a2 : Option Addr} {l2 c2 : Nat} (hL : LiesT (· < w.heap.size) w T v) (hLN : Lies (· < w.heap.size) w tn (nodeV k n p s a2 l2 c2)) (hgd : goodTy T = false) :
    Calls Try.prog 8 #[v, nodeV k n p s a2 l2 c2] w fun e w' => e = .returned (.bool true) ∧ w.grownBy w' none := by
  obtain ⟨a, c, V, rfl, it, hR⟩ := hL.inv
  have hG0 : w.grownBy ((w.alloc (.cells #[.int .i64 T.t, .slice a T.args.length c] 39)).alloc (.cells #[.int .i64 k, .int .i64 n, .int .i64 p, .string s, .slice a2 l2 c2] 24)) none := Lf.gbt (Lf.gb _) (Lf.gb _)
  have eT := heap_alloc_new w (.cells #[.int .i64 T.t, .slice a T.args.length c] 39)
  have eN := heap_alloc_new (w.alloc (.cells #[.int .i64 T.t, .slice a T.args.length c] 39)) (.cells #[.int .i64 k, .int .i64 n, .int .i64 p, .string s, .slice a2 l2 c2] 24)
  rw [World.size_alloc] at eN
  have HBT0 := Lf.hide (heap_keep (o := .cells #[.int .i64 k, .int .i64 n, .int .i64 p, .string s, .slice a2 l2 c2] 24) eT)
  have HBN0 := Lf.hide eN
  have HG0 := Lf.hide hG0
  have hLn := Lf.hide hLN
  have HLT := Lf.hide hL
  have HGD := Lf.hide hgd
  clear hL hLN hgd it hR hG0 eT eN
  unfold tyV at HLT ⊢
  unfold nodeV at hLn ⊢
  go_enter Try.func8, Try.ntmps8
  go_wp2_with fail
  refine (tnode_any (HLT.out.grow HG0.out)).mono ?_; rintro e w1 ⟨hg, hp⟩
  rcases hp with ⟨hno, m0, rfl, hLm⟩ | ⟨_, rfl⟩
  · rw [HGD.out] at hno; cases hno
  have HG1 := Lf.hide (Lf.gbt HG0.out hg)
  have HBT1 := Lf.hide (hkeep HBT0.out hg)
  have HBN1 := Lf.hide (hkeep HBN0.out hg)
  have HBT2 := Lf.hide (heap_keep (o := .cells #[.int .i64 0, .int .i64 0, .int .i64 0, .string ⟨#[]⟩, .slice none 0 0] 24) HBT1.out)
  have HBN2 := Lf.hide (heap_keep (o := .cells #[.int .i64 0, .int .i64 0, .int .i64 0, .string ⟨#[]⟩, .slice none 0 0] 24) HBN1.out)
  have HG2 := Lf.hide (Lf.gbt HG1.out (Lf.gb (.cells #[.int .i64 0, .int .i64 0, .int .i64 0, .string ⟨#[]⟩, .slice none 0 0] 24)))
  clear hg
  unfold nodeV
  go_wp2_with fail
  refine (names_any _).mono ?_; rintro e w3 ⟨rfl, hg⟩
  have HG3 := Lf.hide (Lf.gbt HG2.out hg)
  have HBT3 := Lf.hide (hkeep HBT2.out hg)
  have HBN3 := Lf.hide (hkeep HBN2.out hg)
  have Tx0 := cell0_of HBT3.out
  have Tx1 := cell1_of HBT3.out
  have Tlt := lt_of_block HBT3.out
  obtain ⟨Ny0, Ny1, Ny2, Ny3, Ny4⟩ := box5 HBN3.out
  have Nlt := lt_of_block HBN3.out
  clear hg
  go_wp2_with fail
  refine (kgood_any (HLT.out.grow HG3.out)).mono ?_; rintro e w4 ⟨rfl, hg⟩
  rw [HGD.out]
  have HG4 := Lf.hide (Lf.gbt HG3.out hg)
  clear Tx0 Tx1 Tlt
  clear Ny0 Ny1 Ny2 Ny3 Ny4 Nlt
  have HBT4 := Lf.hide (hkeep HBT3.out hg)
  have HBN4 := Lf.hide (hkeep HBN3.out hg)
  obtain ⟨Ny0, Ny1, Ny2, Ny3, Ny4⟩ := box5 HBN4.out
  have Nlt := lt_of_block HBN4.out
  clear hg
  go_wp2_with fail
  refine (parse_any (hLn.out.grow HG4.out)).mono ?_; rintro e z1 ⟨hg, hp⟩
  have HGz1 := Lf.hide (Lf.gbt HG4.out hg)
  have HBNz1 := Lf.hide (hkeep HBN4.out hg)
  rcases hp with ⟨hpb, v, rfl, hLv⟩ | ⟨hpb, rfl⟩
  · obtain ⟨kv, av, lv, cv, rfl⟩ := hLv.tyV
    obtain ⟨hgv, hwv⟩ := parse_good hpb
    have HLV := Lf.hide ((hLv.okMono (ok' := (· < z1.heap.size)) (fun b hb _ => hb)).grow (Lf.gb (.cells #[.int .i64 kv, .slice av lv cv] 39)))
    have HBNz2 := Lf.hide (heap_keep (o := .cells #[.int .i64 kv, .slice av lv cv] 39) HBNz1.out)
    have HGz2 := Lf.hide (Lf.gbt HGz1.out (Lf.gb (.cells #[.int .i64 kv, .slice av lv cv] 39)))
    have HGV := Lf.hide hgv
    have HWV := Lf.hide hwv
    clear hg hpb hLv hgv hwv
    unfold tyV at HLV ⊢
    go_wp2_with fail
    refine (tnode_any HLV.out).mono ?_; rintro e z3 ⟨hg, hp⟩
    rcases hp with ⟨_, kk0, rfl, hLk⟩ | ⟨hno, rfl⟩
    · obtain ⟨kk, nk, pk, sk, ak, lk, ck, rfl⟩ := hLk.nodeV
      rw [HWV.out] at hLk
      have HGz3 := Lf.hide (Lf.gbt HGz2.out hg)
      have HBNz3 := Lf.hide (hkeep HBNz2.out hg)
      have HBNz4 := Lf.hide (heap_keep (o := .cells #[.int .i64 kk, .int .i64 nk, .int .i64 pk, .string sk, .slice ak lk ck] 24) HBNz3.out)
      have HGz4 := Lf.hide (Lf.gbt HGz3.out (Lf.gb (.cells #[.int .i64 kk, .int .i64 nk, .int .i64 pk, .string sk, .slice ak lk ck] 24)))
      have HLK := Lf.hide ((hLk.okMono (ok' := fun _ => True) (fun _ _ _ => trivial)).same (same_none (Lf.gb (.cells #[.int .i64 kk, .int .i64 nk, .int .i64 pk, .string sk, .slice ak lk ck] 24))))
      have HLN4 := Lf.hide ((hLn.out.grow HGz4.out).okMono (ok' := fun _ => True) (fun _ _ _ => trivial))
      obtain ⟨Ny0, Ny1, Ny2, Ny3, Ny4⟩ := box5 HBNz4.out
      have Nlt := lt_of_block HBNz4.out
      have Nlt3 := lt_of_block HBNz3.out
      obtain ⟨q0, q1, q2, q3, q4⟩ := box5 HBNz3.out
      clear hg hLk
      unfold nodeV at HLK HLN4 ⊢
      go_wp2_with fail
      refine (alike_any HLK.out _ _ (grow_refl _ _) HLN4.out).mono ?_; rintro e z5 ⟨rfl, hg⟩
      have HGz5 := Lf.hide (Lf.gbt HGz4.out hg)
      clear hg
      go_wp2_with fail
      go_ret
      exact ⟨rfl, HGz5.out⟩
    · rw [HGV.out] at hno; cases hno
  · clear hg hpb
    unfold tyV
    go_wp2_with fail
    go_ret
    exact ⟨rfl, Lf.gbt HGz1.out (Lf.gb _)⟩

theorem walk {w : World} {T : Ty} {v : Value} {tn : Tr} {v2 : Value} (hL : LiesT (· < w.heap.size) w T v) (hLN : Lies (· < w.heap.size) w tn v2) :
    Calls Try.prog 8 #[v, v2] w fun e w' => e = .returned (.bool true) ∧ w.grownBy w' none := by
  obtain ⟨k, n, p, s, a, l, c, rfl⟩ := hLN.nodeV
  cases h : goodTy T with
  | true => exact walk_yes hL hLN h
  | false => exact walk_no hL hLN h

theorem own : ownKnob Try.prog.godebug = none := by kernel_rfl
theorem laidOut : laidOutB Try.prog = true := by kernel_rfl

theorem below_of {w w' : World} (h : w.grownBy w' none) : Below w.heap.size w w' := ⟨h.os, h.tape, h.output, h.size, fun k hk => h.block k hk (by simp)⟩

set_option maxRecDepth 100000 in
theorem lifted (os : Os) (started : os.Started) (H : Type) (enc : TypeId × Value → H) :
    ReturnsInHanded {} Try.checked os 8 .any (Rows.kindBackSpec.pre6 enc Try.prog Try.f8 Rows.kindBackRow.domain false) (Rows.kindBackSpec.post enc Try.prog Try.f8 false true false false) := by
  refine returnsInHanded_of_change (C := Try.checked) own started (by kernel_rfl) Try.func8
    (ChangeSpec.witness6 (enc := enc) (C := Try.checked) false ⟨#[], #[.agg #[.int .i64 0, .slice none 0 0], .agg #[.int .i64 0, .int .i64 0, .int .i64 0, .string .empty, .slice none 0 0]], []⟩ 8 (by kernel_rfl) (by kernel_rfl) (by kernel_rfl) (by kernel_rfl)) ?_
  intro W base args ds gs before hval0 hW hcnd _
  have hval : ∀ (j : Nat) t v, Try.f8.params[j]? = some t → args[j]? = some v → Value.okWide Try.prog W .any base t v := hval0
  have hW' := hW
  obtain ⟨p, q, hA0, hV, rfl, hfz, hnd⟩ := hW
  have hA : DataW.TrodAll enc Try.prog W 0 (fun _ => true) true Try.f8.params.toList args.toList ds p := hA0
  rw [Try.params8] at hA hval
  obtain ⟨v0, vs0, d0, ds0, p0, q0, hargs, rfl, rfl, h0, r0⟩ := trodAll_cons hA
  obtain ⟨v1, vs1, d1, ds1, p1, q1, hargs1, rfl, rfl, h1, r1⟩ := trodAll_cons r0
  obtain ⟨rfl, rfl, rfl⟩ := trodAll_nil r1
  obtain rfl : args = #[v0, v1] := by cases args; simp_all
  obtain ⟨rfl, rfl⟩ := trodVars_none hV
  obtain ⟨t, hL, _⟩ := open_argT (hval 0 39 v0 rfl rfl) h0
  obtain ⟨tn, hLN, _⟩ := open_arg (hval 1 24 v1 rfl rfl) h1
  clear hA0 hval0
  simp only [List.append_nil] at hW'
  have hlt0 : ∀ x ∈ p0, x.block < W.heap.size := fun x hx => hW'.lt x (by simp [hx])
  have hlt1 : ∀ x ∈ p1, x.block < W.heap.size := fun x hx => hW'.lt x (by simp [hx])
  refine (walk hL hLN).mono fun e W' ⟨he, hg⟩ => ?_
  subst he
  have hB := below_of hg
  exact ⟨_, rfl, _, _, _, [], p0 ++ (p1 ++ []), [], hW', trodAll_cons_mk (shut_bool Try.underlying4 _) trodAll_mk0, trodAll_cons_mk (Below.trod laidOut (by kernel_rfl) (of_decide_eq_true (by kernel_rfl)) h0 hB hlt0) (trodAll_cons_mk (Below.trod laidOut (by kernel_rfl) (of_decide_eq_true (by kernel_rfl)) h1 hB hlt1) trodAll_mk0), rfl, hB.frame _, fun h => by cases h⟩

theorem over : Rows.kindBackRow.holds Try.pinned (OpenSpec.ofChange Rows.kindBackSpec) :=
  OpenClaim.holds_of_wide 8 Try.f8 rfl rfl rfl rfl rfl rfl rfl ⟨rfl, rfl, rfl, rfl, rfl⟩ rfl rfl rfl rfl rfl (by kernel_rfl) Try.func8 (by kernel_rfl)
    (of_decide_eq_true (by kernel_rfl)) (by unfold Func.isWrapper; first | (rw [if_pos (by decide +kernel)]; kernel_rfl) | (rw [if_neg (by decide +kernel)]; exact ⟨rfl, rfl⟩))
    (fun os started H enc _ => lifted os started H enc)

end Go.Proofs.Ytjhhcdiipbjiaab.kindBack

namespace Go.Proofs.Ytjhhcdiipbjiaab
theorem kindBack_holds : Rows.KindBackSaid := kindBack.over
#print axioms kindBack_holds
end Go.Proofs.Ytjhhcdiipbjiaab
