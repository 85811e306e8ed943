/- ValueParses (upto): for every type, tree and text, Parse and Unpack answer exactly what P4.5 and P4.6 say, errors too. Conditions: those that the given statement has itself, no other. -/
import Derived.Test.YthjpngaapflclacGreatRUnA
import Derived.Test.YthjpngaapflclacGreatWorth
import Derived.Test.YthjpngaapflclacGreatRows
import Derived.Test.YthjpngaapflclacGreatOpenA
import Derived.JoinedCond
import Derived.ShutString
namespace Go.Proofs.YthjpngaapflclacGreat
set_option maxRecDepth 100000
set_option maxHeartbeats 4000000
open Go.ChangeShapes Go.WideShapes Go.ChangeAt Go.RowKit
set_option linter.unusedVariables false
theorem worthL_any (W : World) : Calls Tryz.prog 10 #[] W fun e w' => e = .returned (.bool true) /\ W.grownBy w' none := by
 have HP := jh parse5_any
 have HS := jh size1_any
 unfold tyV nodeV vaV at *
 go_enter Tryz.func10, Tryz.ntmps10
 go_wp2_with fail
 refine (HP.out _).mono ?_; rintro e w1 ⟨rfl, hg⟩
 have HG := jh hg
 clear hg
 go_wp2_with fail
 refine (HS.out _).mono ?_; rintro e w2 ⟨rfl, hg⟩
 have HG2 := jh (Lf.gbt (Lf.gbt HG.out (Lf.gb _)) hg)
 clear hg
 go_wp2_with fail
 go_ret
 exact ⟨rfl, HG2.out⟩
theorem parses_walk {W : World} {tv nv : Value} {t0 : Int} {a : Option Addr} {l c : Nat} (htv : tv = tyV t0 a l c) {k1 n1 p1 : Int} {s1 : ByteArray} {na1 : Option Addr} {nl1 nc1 : Nat} (hnv : nv = nodeV k1 n1 p1 s1 na1 nl1 nc1) {sv : ByteArray} {x y : Va} {er ec : Int}
 (HN : Hid (∀ W2, W.grownBy W2 none -> Calls Tryz.prog 11 #[tv, nv] W2 fun e w' => W2.grownBy w' none /\ ∃ u, e = .returned (.tuple #[u, .int .i64 er]) /\ LiesV (W2.heap.size <= ·) w' x u))
 (HR : Hid (∀ W2, W.grownBy W2 none -> Calls Tryz.prog 12 #[tv, nv] W2 fun e w' => W2.grownBy w' none /\ ∃ u, e = .returned (.tuple #[u, .int .i64 er]) /\ LiesV (W2.heap.size <= ·) w' x u))
 (HP : Hid (∀ W2, W.grownBy W2 none -> Calls Tryz.prog 14 #[tv, .string sv] W2 fun e w' => W2.grownBy w' none /\ ∃ u, e = .returned (.tuple #[u, .int .i64 ec]) /\ LiesV (W2.heap.size <= ·) w' y u))
 (HQ : Hid (∀ W2, W.grownBy W2 none -> Calls Tryz.prog 15 #[tv, .string sv] W2 fun e w' => W2.grownBy w' none /\ ∃ u, e = .returned (.tuple #[u, .int .i64 ec]) /\ LiesV (W2.heap.size <= ·) w' y u)) :
 Calls Tryz.prog 4 #[tv, nv, .string sv] W fun e w' => e = .returned (.bool true) /\ W.grownBy w' none := by
 subst htv hnv
 have HWO := jh worthL_any
 let A : Obj := .cells #[.int .i64 t0, .slice a l c] 24
 let B : Obj := .cells #[.int .i64 k1, .int .i64 n1, .int .i64 p1, .string s1, .slice na1 nl1 nc1] 30
 have HA0 := jh (res_new W A B)
 have HB0 := jh (rnew_two W A B)
 have HG0 := jh (Lf.gbt (Lf.gb (w := W) A) (Lf.gb B))
 unfold tyV nodeV at *
 go_enter Tryz.func4, Tryz.ntmps4
 go_wp2_with fail
 refine (HN.out _ HG0.out).mono ?_; rintro e w1 ⟨hg, u, rfl, hLu⟩
 obtain ⟨ku, nu, pu, su, ua, ul, uc, uta, utl, utc, una, unl, unc, rfl⟩ := hLu.vaV
 let C : Obj := .cells #[.int .i64 ku, .int .i64 nu, .int .i64 pu, .string su, .slice ua ul uc, .slice uta utl utc, .slice una unl unc] 28
 have hgC := Lf.gbt hg (Lf.gb C)
 have HG1 := jh (Lf.gbt HG0.out hgC)
 have HA1 := jh (keepB HA0.out hgC)
 have HB1 := jh (keepB HB0.out hgC)
 have HC1 := jh (heap_alloc_new w1 C)
 have HLU := jh (hLu.same (w' := w1.alloc C) (fun b o _ hlt => World.cell?_of_block ((Lf.gb C).block b hlt (by simp))))
 have q0 := cell0_of (keepB HA0.out hg)
 have q1 := cell1_of (keepB HA0.out hg)
 obtain ⟨b0, b1, b2, b3, b4⟩ := box5 (keepB HB0.out hg)
 have la := lt_blk (keepB HA0.out hg)
 have lb := lt_blk (keepB HB0.out hg)
 clear hg hgC hLu
 unfold vaV at HLU ⊢
 go_wp2_with fail
 refine (HR.out _ HG1.out).mono ?_; rintro e w2 ⟨hg, u2, rfl, hL2⟩
 obtain ⟨kr, nr, pr, sr, ra, rl, rc, rta, rtl, rtc, rna, rnl, rnc, rfl⟩ := hL2.vaV
 let D : Obj := .cells #[.int .i64 kr, .int .i64 nr, .int .i64 pr, .string sr, .slice ra rl rc, .slice rta rtl rtc, .slice rna rnl rnc] 28
 have hgD := Lf.gbt hg (Lf.gb D)
 have HG2 := jh (Lf.gbt HG1.out hgD)
 have HA2 := jh (keepB HA1.out hgD)
 have HB2 := jh (keepB HB1.out hgD)
 have HC2 := jh (keepB HC1.out hgD)
 have HD2 := jh (heap_alloc_new w2 D)
 have HLR := jh ((hL2.same (w' := w2.alloc D) (fun b o _ hlt => World.cell?_of_block ((Lf.gb D).block b hlt (by simp)))).okMono (ok' := fun _ => True) fun _ _ _ => trivial)
 have HLU2 := jh ((HLU.out.same (w' := w2.alloc D) (fun b o _ hlt => World.cell?_of_block (hgD.block b hlt (by simp)))).okMono (ok' := fun _ => True) fun _ _ _ => trivial)
 obtain ⟨c0, c1, c2, c3, c4, c5, c6⟩ := box7 (keepB HC1.out hg)
 have lc' := lt_blk (keepB HC1.out hg)
 have hszC : W.heap.size + 1 + 1 <= w1.heap.size := by omega
 have hszD : w1.heap.size + 1 <= w2.heap.size := by omega
 clear hg hgD hL2 q0 q1 b0 b1 b2 b3 b4 la lb HLU
 unfold vaV at HLR ⊢
 go_wp2_with fail
 refine (alikeV_any HLU2.out _ _ HLR.out (grow_refl _ _)).mono ?_; rintro e w3 ⟨rfl, hg⟩
 have HG3 := jh (Lf.gbt HG2.out hg)
 have HA3 := jh (keepB HA2.out hg)
 have HB3 := jh (keepB HB2.out hg)
 have HC3 := jh (keepB HC2.out hg)
 have HD3 := jh (keepB HD2.out hg)
 have q0 := cell0_of HA3.out
 have q1 := cell1_of HA3.out
 clear hg c0 c1 c2 c3 c4 c5 c6 lc' HLR HLU2
 go_wp2_with fail
 refine (HP.out _ HG3.out).mono ?_; rintro e w4 ⟨hg, u3, rfl, hL3⟩
 obtain ⟨kp, np, pp, sp, pa, pl, pc, pta, ptl, ptc, pna, pnl, pnc, rfl⟩ := hL3.vaV
 have hw34 : w3.heap.size <= w4.heap.size := hg.size
 have lD3 : w2.heap.size < w3.heap.size := lt_blk HD3.out
 have HG4 := jh (Lf.gbt HG3.out hg)
 have HA4 := jh (keepB HA3.out hg)
 have HC4 := jh (keepB HC3.out hg)
 have HD4 := jh (keepB HD3.out hg)
 have q0' := cell0_of HA4.out
 have q1' := cell1_of HA4.out
 have lA4 := lt_blk HA4.out
 obtain ⟨c0, c1, c2, c3, c4, c5, c6⟩ := box7 HC4.out
 obtain ⟨y0, y1, y2, y3, y4, y5, y6⟩ := box7f HC4.out
 clear hg q0 q1
 unfold vaV at hL3 ⊢
 go_wp2_with fail
 change Calls _ _ _ (rset7 w4 w1.heap.size (.int .i64 kp) (.int .i64 np) (.int .i64 pp) (.string sp) (.slice pa pl pc) (.slice pta ptl ptc) (.slice pna pnl pnc)) _
 have hgs := rset7_grow w4 w1.heap.size (.int .i64 kp) (.int .i64 np) (.int .i64 pp) (.string sp) (.slice pa pl pc) (.slice pta ptl ptc) (.slice pna pnl pnc)
 have HG5 := jh (grow_new HG4.out hgs (by omega))
 have HA5 := jh ((hgs.block _ (lt_blk HA4.out) (by simp; omega)).trans HA4.out)
 have HD5 := jh ((hgs.block _ (lt_blk HD4.out) (by simp; omega)).trans HD4.out)
 have HC5 := jh (rset7_block HC4.out (.int .i64 kp) (.int .i64 np) (.int .i64 pp) (.string sp) (.slice pa pl pc) (.slice pta ptl ptc) (.slice pna pnl pnc))
 have HLP := jh (hL3.same (w' := rset7 w4 w1.heap.size (.int .i64 kp) (.int .i64 np) (.int .i64 pp) (.string sp) (.slice pa pl pc) (.slice pta ptl ptc) (.slice pna pnl pnc)) (fun b o hb hlt => World.cell?_of_block (hgs.block b hlt (by have h : w3.heap.size <= b := hb; simp; omega))))
 have hw45 : w4.heap.size <= (rset7 w4 w1.heap.size (.int .i64 kp) (.int .i64 np) (.int .i64 pp) (.string sp) (.slice pa pl pc) (.slice pta ptl ptc) (.slice pna pnl pnc)).heap.size := hgs.size
 clear hgs hL3 c0 c1 c2 c3 c4 c5 c6 y0 y1 y2 y3 y4 y5 y6 q0' q1' lA4
 generalize rset7 w4 w1.heap.size (.int .i64 kp) (.int .i64 np) (.int .i64 pp) (.string sp) (.slice pa pl pc) (.slice pta ptl ptc) (.slice pna pnl pnc) = w5 at *
 refine (HQ.out _ HG5.out).mono ?_; rintro e w6 ⟨hg, u4, rfl, hL4⟩
 obtain ⟨kq, nq, pq, sq, qa, ql, qc, qta, qtl, qtc, qna, qnl, qnc, rfl⟩ := hL4.vaV
 have hw56 : w5.heap.size <= w6.heap.size := hg.size
 have HG6 := jh (Lf.gbt HG5.out hg)
 have HC6 := jh (keepB HC5.out hg)
 have HD6 := jh (keepB HD5.out hg)
 have HLP6 := jh (HLP.out.same (w' := w6) (fun b o _ hlt => World.cell?_of_block (hg.block b hlt (by simp))))
 obtain ⟨c0, c1, c2, c3, c4, c5, c6⟩ := box7 HC6.out
 obtain ⟨d0, d1, d2, d3, d4, d5, d6⟩ := box7 HD6.out
 obtain ⟨y0, y1, y2, y3, y4, y5, y6⟩ := box7f HD6.out
 have hne1 : ¬ w1.heap.size = w2.heap.size := by omega
 have hne2 : ¬ w2.heap.size = w1.heap.size := by omega
 clear hg
 unfold vaV at hL4 HLP6 ⊢
 go_wp2_with fail
 change Calls _ _ _ (rset7 w6 w2.heap.size (.int .i64 kq) (.int .i64 nq) (.int .i64 pq) (.string sq) (.slice qa ql qc) (.slice qta qtl qtc) (.slice qna qnl qnc)) _
 have hgs := rset7_grow w6 w2.heap.size (.int .i64 kq) (.int .i64 nq) (.int .i64 pq) (.string sq) (.slice qa ql qc) (.slice qta qtl qtc) (.slice qna qnl qnc)
 have HG7 := jh (grow_new HG6.out hgs (by omega))
 have HLP7 := jh ((HLP6.out.same (w' := rset7 w6 w2.heap.size (.int .i64 kq) (.int .i64 nq) (.int .i64 pq) (.string sq) (.slice qa ql qc) (.slice qta qtl qtc) (.slice qna qnl qnc)) (fun b o hb hlt => World.cell?_of_block (hgs.block b hlt (by have h : w3.heap.size <= b := hb; simp; omega)))).okMono (ok' := fun _ => True) fun _ _ _ => trivial)
 have HLQ7 := jh ((hL4.same (w' := rset7 w6 w2.heap.size (.int .i64 kq) (.int .i64 nq) (.int .i64 pq) (.string sq) (.slice qa ql qc) (.slice qta qtl qtc) (.slice qna qnl qnc)) (fun b o hb hlt => World.cell?_of_block (hgs.block b hlt (by have h : w5.heap.size <= b := hb; simp; omega)))).okMono (ok' := fun _ => True) fun _ _ _ => trivial)
 clear hgs hL4 c0 c1 c2 c3 c4 c5 c6 d0 d1 d2 d3 d4 d5 d6 y0 y1 y2 y3 y4 y5 y6
 generalize rset7 w6 w2.heap.size (.int .i64 kq) (.int .i64 nq) (.int .i64 pq) (.string sq) (.slice qa ql qc) (.slice qta qtl qtc) (.slice qna qnl qnc) = w7 at *
 refine (alikeV_any HLP7.out _ _ HLQ7.out (grow_refl _ _)).mono ?_; rintro e w8 ⟨rfl, hg⟩
 have HG8 := jh (Lf.gbt HG7.out hg)
 clear hg
 go_wp2_with fail
 refine (HWO.out _).mono ?_; rintro e w9 ⟨rfl, hg⟩
 have HG9 := jh (Lf.gbt HG8.out hg)
 clear hg
 go_wp2_with fail
 go_ret
 exact ⟨rfl, HG9.out⟩
end Go.Proofs.YthjpngaapflclacGreat
/- For every type, tree and text whose reading holds at most 1048576 values and letters, ValueParses returns true and leaves its arguments as they were: Parse and Unpack answer as the document's own ParseValue and Unpack do, errors too. Condition: that bound on the reading. -/
namespace Go.Proofs.YthjpngaapflclacGreat.valueParses
set_option maxRecDepth 100000
set_option maxHeartbeats 4000000
open Go.ChangeShapes Go.WideShapes Go.ChangeAt Go.RowKit
open Go.ChangeMaps (open_string shut_string)
set_option linter.unusedVariables false
theorem decode_goodV {l : List UInt8} {t : Tr} (h : pDecode l = .ok t) : goodF t = 0 /\ encTr t = l := by
 unfold pDecode at h
 cases hq : pNode 24 0 l with
 | error e => rw [hq] at h; simp at h
 | ok r =>
  obtain ⟨t', n', l'⟩ := r
  rw [hq] at h
  simp only at h
  by_cases hl' : l' = []
  ·rw [if_pos hl'] at h
   injection h with h
   subst h; subst hl'
   obtain ⟨a1, a2, a3, a4⟩ := pNode_sound 24 (by omega) 0 l t' n' [] (by omega) hq
   rw [show 25 - 24 = 1 from rfl] at a4
   refine ⟨?_, by rw [a1]; simp⟩
   unfold goodF
   rw [if_neg (by simpa using a4), if_neg (by omega)]
  ·rw [if_neg hl'] at h; simp at h
theorem walk {w : World} {T : Ty} {t : Tr} {tv nv : Value} (hT0 : LiesT (· < w.heap.size) w T tv) (hL0 : Lies (· < w.heap.size) w t nv) (l : List UInt8) (hz : t.size <= 1048576) (hl : l.length <= 1048576) :
 Calls Tryz.prog 4 #[tv, nv, .string ⟨l.toArray⟩] w fun e w' => e = .returned (.bool true) /\ w.grownBy w' none := by
 have hT : LiesT (fun _ => True) w T tv := hT0.okMono fun _ _ _ => trivial
 have hL : Lies (fun _ => True) w t nv := hL0.okMono fun _ _ _ => trivial
 have hTW : ∀ W2, w.grownBy W2 none -> LiesT (fun _ => True) W2 T tv := fun W2 hg => LiesT.same hT (sameAll hg)
 have hLW : ∀ W2, w.grownBy W2 none -> Lies (fun _ => True) W2 t nv := fun W2 hg => hL.same (sameAll hg)
 have hdec : ∀ r t, pDecode r = .ok t -> t.size <= 300 := fun r t hd => (goodF_zero (decode_goodV hd).1).2
 have hU : ∀ W2, w.grownBy W2 none -> Calls Tryz.prog 14 #[tv, .string ⟨l.toArray⟩] W2 (UnpackPostN T l W2) := fun W2 hg => unpack_anyN (hTW W2 hg) l (by omega) hdec
 have hV : ∀ W2, w.grownBy W2 none -> Calls Tryz.prog 15 #[tv, .string ⟨l.toArray⟩] W2 (UnpackPostN T l W2) := fun W2 hg => runpack_any (hTW W2 hg) l (by omega) hdec
 have hP : ∀ W2, w.grownBy W2 none -> Calls Tryz.prog 11 #[tv, nv] W2 (ParsePost T t W2) := fun W2 hg => parse_any (hTW W2 hg) (hLW W2 hg) (by omega)
 have hR : ∀ W2, w.grownBy W2 none -> Calls Tryz.prog 12 #[tv, nv] W2 (RParseP T t W2) := fun W2 hg => rparse_any (hTW W2 hg) (hLW W2 hg) hz
 obtain ⟨a, c, VT, htv, it, hRT⟩ := hT.inv
 obtain ⟨k1, n1, p1, s1, na1, nl1, nc1, hnv⟩ := hL.nodeV
 obtain ⟨x, er, hxN, hxR⟩ : ∃ (x : Va) (er : Int), (∀ W2, w.grownBy W2 none -> Calls Tryz.prog 11 #[tv, nv] W2 fun e w' => W2.grownBy w' none /\ ∃ u, e = .returned (.tuple #[u, .int .i64 er]) /\ LiesV (W2.heap.size <= ·) w' x u) /\ (∀ W2, w.grownBy W2 none -> Calls Tryz.prog 12 #[tv, nv] W2 fun e w' => W2.grownBy w' none /\ ∃ u, e = .returned (.tuple #[u, .int .i64 er]) /\ LiesV (W2.heap.size <= ·) w' x u) := by
  cases hp : parseF T t with
  | none =>
   refine ⟨zeroVa, 1, fun W2 hg => (hP W2 hg).mono fun e w' h => ?_, fun W2 hg => (hR W2 hg).mono fun e w' h => ?_⟩
   ·rcases h.2 with ⟨x, v, h1, _⟩ | ⟨_, h1⟩
    ·rw [hp] at h1; cases h1
    ·exact ⟨h.1, _, h1, liesV_zero _ _⟩
   ·rcases h.2 with ⟨x, v, h1, _⟩ | ⟨_, h1⟩
    ·rw [hp] at h1; cases h1
    ·exact ⟨h.1, _, h1, liesV_zero _ _⟩
  | some x =>
   refine ⟨x, 0, fun W2 hg => (hP W2 hg).mono fun e w' h => ?_, fun W2 hg => (hR W2 hg).mono fun e w' h => ?_⟩
   ·rcases h.2 with ⟨x', v, h1, h2, h3⟩ | ⟨h1, _⟩
    ·rw [hp] at h1; obtain rfl := Option.some.inj h1; exact ⟨h.1, v, h2, h3⟩
    ·rw [hp] at h1; cases h1
   ·rcases h.2 with ⟨x', v, h1, h2, h3⟩ | ⟨h1, _⟩
    ·rw [hp] at h1; obtain rfl := Option.some.inj h1; exact ⟨h.1, v, h2, h3⟩
    ·rw [hp] at h1; cases h1
 obtain ⟨y, ec, hyN, hyR⟩ : ∃ (y : Va) (ec : Int), (∀ W2, w.grownBy W2 none -> Calls Tryz.prog 14 #[tv, .string ⟨l.toArray⟩] W2 fun e w' => W2.grownBy w' none /\ ∃ u, e = .returned (.tuple #[u, .int .i64 ec]) /\ LiesV (W2.heap.size <= ·) w' y u) /\ (∀ W2, w.grownBy W2 none -> Calls Tryz.prog 15 #[tv, .string ⟨l.toArray⟩] W2 fun e w' => W2.grownBy w' none /\ ∃ u, e = .returned (.tuple #[u, .int .i64 ec]) /\ LiesV (W2.heap.size <= ·) w' y u) := by
  cases hp : unpackF T l with
  | none =>
   refine ⟨zeroVa, 1, fun W2 hg => (hU W2 hg).mono fun e w' h => ?_, fun W2 hg => (hV W2 hg).mono fun e w' h => ?_⟩
   ·rcases h.2 with ⟨x, v, h1, _⟩ | ⟨_, h1⟩
    ·rw [hp] at h1; cases h1
    ·exact ⟨h.1, _, h1, liesV_zero _ _⟩
   ·rcases h.2 with ⟨x, v, h1, _⟩ | ⟨_, h1⟩
    ·rw [hp] at h1; cases h1
    ·exact ⟨h.1, _, h1, liesV_zero _ _⟩
  | some x =>
   refine ⟨x, 0, fun W2 hg => (hU W2 hg).mono fun e w' h => ?_, fun W2 hg => (hV W2 hg).mono fun e w' h => ?_⟩
   ·rcases h.2 with ⟨x', v, h1, h2, h3⟩ | ⟨h1, _⟩
    ·rw [hp] at h1; obtain rfl := Option.some.inj h1; exact ⟨h.1, v, h2, h3⟩
    ·rw [hp] at h1; cases h1
   ·rcases h.2 with ⟨x', v, h1, h2, h3⟩ | ⟨h1, _⟩
    ·rw [hp] at h1; obtain rfl := Option.some.inj h1; exact ⟨h.1, v, h2, h3⟩
    ·rw [hp] at h1; cases h1
 exact parses_walk htv hnv hxN hxR hyN hyR
theorem own : ownKnob Tryz.prog.godebug = none := by kernel_rfl
theorem laidOut : laidOutB Tryz.prog = true := by kernel_rfl
theorem below_of {w w' : World} (h : w.grownBy w' none) : Below w.heap.size w w' := ⟨h.os, h.tape, h.output, h.size, fun k hk => h.block k hk (by simp)⟩
theorem contract (H : Type) (enc : TypeId × Value -> H) (W : World) (base : Nat) (args : Array Value) (ds gs : List (DataW H)) (before : List MemPlace)
 (hval : ∀ (j : Nat) t v, Tryz.f4.params[j]? = some t -> args[j]? = some v -> Value.okWide Tryz.prog W .any base t v)
 (hW : DataW.Whole enc Tryz.prog Tryz.f4.params.toList Rows.valueParsesSpec.vars false W args.toList ds gs before) (hk : Rows.uptoSmall H (ds ++ gs) = true) :
 Calls Tryz.prog 4 args W fun e W' => ∃ v, e = .returned v /\ Rows.valueParsesSpec.post enc Tryz.prog Tryz.f4 false true false false W args v W' := by
 have hW' := hW
 obtain ⟨p, q, hA0, hV, rfl, hfz, hnd⟩ := hW
 have hA : DataW.TrodAll enc Tryz.prog W 0 (fun _ => true) true Tryz.f4.params.toList args.toList ds p := hA0
 rw [Tryz.params4] at hA hval
 obtain ⟨v0, vs0, d0, ds0, p0, q0, hargs, rfl, rfl, h0, r0⟩ := trodAll_cons hA
 obtain ⟨v1, vs1, d1, ds1, p1, q1, hargs1, rfl, rfl, h1, r1⟩ := trodAll_cons r0
 obtain ⟨v2, vs2, d2, ds2, p2, q2, hargs2, rfl, rfl, h2, r2⟩ := trodAll_cons r1
 obtain ⟨rfl, rfl, rfl⟩ := trodAll_nil r2
 obtain rfl : args = #[v0, v1, v2] := by cases args; simp_all
 obtain ⟨rfl, rfl⟩ := trodVars_none hV
 have hb := of_decide_eq_true hk
 simp only [List.append_nil, Rows.uptoBulkAll] at hb
 obtain ⟨t, hL, hs⟩ := open_argT (hval 0 24 v0 rfl rfl) h0
 obtain ⟨x1, hL1, hs1⟩ := open_arg (hval 1 30 v1 rfl rfl) h1
 obtain ⟨a0, rfl, rfl, rfl, w0⟩ := open_string Tryz.underlying9 (hval 2 9 v2 rfl rfl) h2
 clear hA0
 simp only [List.append_nil] at hW'
 have hlt0 : ∀ x ∈ p0, x.block < W.heap.size := fun x hx => hW'.lt x (by simp [hx])
 have hlt1 : ∀ x ∈ p1, x.block < W.heap.size := fun x hx => hW'.lt x (by simp [hx])
 have hwalk := walk hL hL1 a0.data.toList (by omega) (by simp only [Rows.uptoBulk] at hb; omega)
 rw [show (⟨a0.data.toList.toArray⟩ : ByteArray) = a0 from by simp] at hwalk
 refine hwalk.mono fun e W' ⟨he, hg⟩ => ?_
 subst he
 have hB := below_of hg
 exact ⟨_, rfl, _, _, _, [], p0 ++ (p1 ++ ([] ++ [])), [], hW', trodAll_cons_mk (shut_bool Tryz.underlying4 _) trodAll_mk0, trodAll_cons_mk (Below.trod laidOut (by kernel_rfl) (of_decide_eq_true (by kernel_rfl)) h0 hB hlt0) (trodAll_cons_mk (Below.trod laidOut (by kernel_rfl) (of_decide_eq_true (by kernel_rfl)) h1 hB hlt1) (trodAll_cons_mk (shut_string Tryz.underlying9 w0) trodAll_mk0)), rfl, hB.frame _, fun h => by cases h⟩
theorem lifted (os : Os) (started : os.Started) (H : Type) (enc : TypeId × Value -> H) (F : Stop.Interp) :
 ReturnsInHanded {} Tryz.checked os 4 .any ((Rows.OpenSpec.upto Rows.valueParsesSpec).pre6 enc Tryz.prog Tryz.f4 Rows.valueParsesUptoRow.domain false) (((Rows.OpenSpec.upto Rows.valueParsesSpec).at F).post enc Tryz.prog Tryz.f4 false true false false) := by
 refine returnsInHanded_of_cond (C := Tryz.checked) (s := Rows.OpenSpec.upto Rows.valueParsesSpec) (k := Rows.uptoSmall) rfl own started (by kernel_rfl) Tryz.func4
  (OpenSpec.witness (enc := enc) (C := Tryz.checked) (s := Rows.OpenSpec.upto Rows.valueParsesSpec) (k := Rows.uptoSmall) rfl false ⟨#[], #[.agg #[.int .i64 0, .slice none 0 0], .agg #[.int .i64 0, .int .i64 0, .int .i64 0, .string .empty, .slice none 0 0], .string .empty], []⟩ 8 (by kernel_rfl) (by kernel_rfl) (by kernel_rfl)
   (x := ([.agg [.lit (.int .i64 0), .nil], .agg [.lit (.int .i64 0), .lit (.int .i64 0), .lit (.int .i64 0), .lit (.string []), .nil], .lit (.string [])], [], [])) (by kernel_rfl) rfl (by kernel_rfl)) ?_
 intro W base args ds gs before hval hW _ hk _
 exact contract H enc W base args ds gs before hval hW hk
theorem over : Rows.valueParsesUptoRow.holds Tryz.pinned (Rows.OpenSpec.upto Rows.valueParsesSpec) :=
 OpenClaim.holds_of_cond 4 Tryz.f4 rfl rfl rfl rfl rfl rfl rfl ⟨rfl, rfl, rfl, rfl, rfl⟩ rfl rfl rfl rfl rfl (by kernel_rfl) Tryz.func4 (by kernel_rfl)
  (of_decide_eq_true (by kernel_rfl)) (by unfold Func.isWrapper; first | (rw [if_pos (by decide +kernel)]; kernel_rfl) | (rw [if_neg (by decide +kernel)]; exact ⟨rfl, rfl⟩))
  (fun os started H enc _ F => lifted os started H enc F)
end Go.Proofs.YthjpngaapflclacGreat.valueParses
namespace Go.Proofs.YthjpngaapflclacGreat
set_option maxRecDepth 100000
set_option maxHeartbeats 4000000
theorem valueParses_holds : Rows.ValueParsesUptoSaid := valueParses.over
#print axioms valueParses_holds
end Go.Proofs.YthjpngaapflclacGreat
