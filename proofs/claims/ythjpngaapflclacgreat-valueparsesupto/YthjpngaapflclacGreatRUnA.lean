import Derived.Test.YthjpngaapflclacGreatRParse
import Derived.Test.YthjpngaapflclacGreatRefR
import Derived.Test.YthjpngaapflclacGreatUnpackM
import Derived.Test.YthjpngaapflclacGreatROrd
import Derived.Test.YthjpngaapflclacGreatRefSame
import Derived.Test.YthjpngaapflclacGreatAlikes
namespace Go.Proofs.YthjpngaapflclacGreat
set_option maxRecDepth 100000
set_option maxHeartbeats 4000000
open Go.ChangeShapes Go.WideShapes Go.ChangeAt Go.RowKit
set_option linter.unusedVariables false
theorem unpackF_five {T : Ty} {r : List UInt8} {t : Tr} (h : r.length <= 199) (hd : pDecode r = .ok t) (hk : packT T = true) : unpackF T (5 :: r) = parseF T t := by
 cases hp : parseF T t with
 | none => exact unpackF_none h hd hp
 | some x => rw [unpackF_some h hd hp, if_pos hk]
theorem unpackF_unpacked {T : Ty} (hk : packT T = false) : ∀ l, unpackF T l = none
 | [] => by rw [unpackF]
 | b :: r => by
  by_cases h : b = 5 /\ r.length <= 199
  ·obtain ⟨rfl, h2⟩ := h
   cases hd : pDecode r with
   | error er => exact unpackF_err h2 hd
   | ok t =>
    cases hp : parseF T t with
    | none => exact unpackF_none h2 hd hp
    | some x => rw [unpackF_some h2 hd hp, hk]; simp
  ·exact unpackF_no h
theorem drop_bs (b : UInt8) (r : List UInt8) : ((⟨(b :: r).toArray⟩ : ByteArray).extract 1 (⟨(b :: r).toArray⟩ : ByteArray).size) = bs r := by
 apply ByteArray.ext
 simp [ByteArray.data_extract, bs, ByteArray.size]
theorem runpack_any {W : World} {T : Ty} {tv : Value} (hT : LiesT (fun _ => True) W T tv) (l : List UInt8) (hl : l.length <= 1000000000) (hdec : ∀ r t, pDecode r = .ok t -> t.size <= 300) : Calls Tryz.prog 15 #[tv, .string ⟨l.toArray⟩] W (UnpackPostN T l W) := by
 have HPK : Hid (∀ W2, W.grownBy W2 none -> Calls Tryz.prog 19 #[tv] W2 fun e w' => e = .returned (.bool (packT T)) /\ W2.grownBy w' none) := fun W2 h => rpack_any hT W2 h
 have HTL := jh hT
 obtain ⟨a, c, VT, rfl, it, hRT⟩ := hT.inv
 have HA0 := jh (res_new W (.cells #[.int .i64 T.t, .slice a T.args.length c] 24) (.cells #[.int .i64 0, .int .i64 0, .int .i64 0, .string ⟨#[]⟩, .slice none 0 0, .slice none 0 0, .slice none 0 0] 28))
 have HC0 := jh (rnew_two W (.cells #[.int .i64 T.t, .slice a T.args.length c] 24) (.cells #[.int .i64 0, .int .i64 0, .int .i64 0, .string ⟨#[]⟩, .slice none 0 0, .slice none 0 0, .slice none 0 0] 28))
 have HG0 := jh (Lf.gbt (Lf.gb (w := W) (.cells #[.int .i64 T.t, .slice a T.args.length c] 24)) (Lf.gb (.cells #[.int .i64 0, .int .i64 0, .int .i64 0, .string ⟨#[]⟩, .slice none 0 0, .slice none 0 0, .slice none 0 0] 28)))
 clear hT hRT it
 unfold tyV at *
 obtain ⟨r0, r1, r2, r3, r4, r5, r6⟩ := box7 HC0.out
 obtain ⟨y0, y1, y2, y3, y4, y5, y6⟩ := box7f HC0.out
 rcases l with _ | ⟨b, r⟩
 case nil =>
  have hU : unpackF T [] = none := by rw [unpackF]
  have HU := jh hU
  clear hU
  go_enter Tryz.func15, Tryz.ntmps15
  go_wp2_with fail
  exact bodyPost_ret (v := .tuple #[vaV 0 0 0 ⟨#[]⟩ none 0 0 none 0 0 none 0 0, .int .i64 1]) (by simp [results, Tryz.results15, go_sem, r0, r1, r2, r3, r4, r5, r6, vaV]) rfl ⟨HG0.out, .inr ⟨HU.out, rfl⟩⟩
 have hsz := cons_size b r
 have hem : (⟨(b :: r).toArray⟩ : ByteArray).toList.isEmpty = false := by rw [ByteArray.toList_eq]; rfl
 have h0 : ∀ h : 0 < (⟨(b :: r).toArray⟩ : ByteArray).size, ((((⟨(b :: r).toArray⟩ : ByteArray)[0]'h).toNat : Nat) : Int) = (b.toNat : Int) := fun h => rfl
 have hdr := drop_bs b r
 rw [hsz] at hdr
 simp only [List.length_cons] at hl
 by_cases hb : b = 5
 case neg =>
  have HU := jh (unpackF_no (T := T) (b := b) (r := r) (fun h => hb h.1))
  have hb1 : ((b.toNat : Int) != 5) = true := by
   simp only [bne_iff_ne, ne_eq]
   intro h
   exact hb (UInt8.toNat_inj.1 (by have h5 : (5 : UInt8).toNat = 5 := rfl; omega))
  generalize (b.toNat : Int) = bb at *
  generalize hsv : (⟨(b :: r).toArray⟩ : ByteArray) = sv at *
  clear hsv hb hdr
  go_enter Tryz.func15, Tryz.ntmps15
  go_wp2_with fail
  exact bodyPost_ret (v := .tuple #[vaV 0 0 0 ⟨#[]⟩ none 0 0 none 0 0 none 0 0, .int .i64 1]) (by simp [results, Tryz.results15, go_sem, r0, r1, r2, r3, r4, r5, r6, vaV]) rfl ⟨HG0.out, .inr ⟨HU.out, rfl⟩⟩
 subst hb
 by_cases hr : r.length <= 199
 case neg =>
  have HU := jh (unpackF_no (T := T) (b := 5) (r := r) (fun h => hr h.2))
  have h0' : ∀ h : 0 < (⟨(5 :: r).toArray⟩ : ByteArray).size, ((((⟨(5 :: r).toArray⟩ : ByteArray)[0]'h).toNat : Nat) : Int) = 5 := fun h => rfl
  have hlo : (200 : Int) < ((r.length + 1 : Nat) : Int) := by omega
  have hn2 : (1 : Int) <= ((r.length + 1 : Nat) : Int) := by omega
  have hn3 : 0 < r.length + 1 := by omega
  have hhi : ((r.length + 1 : Nat) : Int) <= 1000000000 := by omega
  generalize r.length + 1 = n at *
  generalize hsv : (⟨(5 :: r).toArray⟩ : ByteArray) = sv at *
  clear hsv hdr hr h0 hl
  go_enter Tryz.func15, Tryz.ntmps15
  go_wp2_with fail
  exact bodyPost_ret (v := .tuple #[vaV 0 0 0 ⟨#[]⟩ none 0 0 none 0 0 none 0 0, .int .i64 1]) (by simp [results, Tryz.results15, go_sem, r0, r1, r2, r3, r4, r5, r6, vaV]) rfl ⟨HG0.out, .inr ⟨HU.out, rfl⟩⟩
 have h0' : ∀ h : 0 < (⟨(5 :: r).toArray⟩ : ByteArray).size, ((((⟨(5 :: r).toArray⟩ : ByteArray)[0]'h).toNat : Nat) : Int) = 5 := fun h => rfl
 have hlo : ¬ (200 : Int) < ((r.length + 1 : Nat) : Int) := by omega
 have hn3 : 0 < r.length + 1 := by omega
 cases hk : packT T with
 | false =>
  have HU := jh (unpackF_unpacked hk (5 :: r))
  rw [hk] at HPK
  have hn2 : (1 : Int) <= ((r.length + 1 : Nat) : Int) := by omega
  generalize r.length + 1 = n at *
  generalize hsv : (⟨(5 :: r).toArray⟩ : ByteArray) = sv at *
  clear hsv hdr hr h0 hl hk
  go_enter Tryz.func15, Tryz.ntmps15
  go_wp2_with fail
  refine (HPK.out _ HG0.out).mono ?_; rintro e w1 ⟨rfl, hg⟩
  have HG1 := jh (Lf.gbt HG0.out hg)
  have HA1 := jh (keepB HA0.out hg)
  have HC1 := jh (keepB HC0.out hg)
  clear hg r0 r1 r2 r3 r4 r5 r6 y0 y1 y2 y3 y4 y5 y6
  obtain ⟨r0, r1, r2, r3, r4, r5, r6⟩ := box7 HC1.out
  obtain ⟨y0, y1, y2, y3, y4, y5, y6⟩ := box7f HC1.out
  have q0 := cell0_of HA1.out
  have q1 := cell1_of HA1.out
  go_wp2_with fail
  change bodyPost _ _ _ _ _ (rset7 w1 (W.heap.size + 1) (.int .i64 0) (.int .i64 0) (.int .i64 0) (.string ⟨#[]⟩) (.slice none 0 0) (.slice none 0 0) (.slice none 0 0))
  have hb' := rset7_block HC1.out (.int .i64 0) (.int .i64 0) (.int .i64 0) (.string ⟨#[]⟩) (.slice none 0 0) (.slice none 0 0) (.slice none 0 0)
  have hg' := grow_new HG1.out (rset7_grow w1 (W.heap.size + 1) (.int .i64 0) (.int .i64 0) (.int .i64 0) (.string ⟨#[]⟩) (.slice none 0 0) (.slice none 0 0) (.slice none 0 0)) (by omega)
  generalize rset7 w1 (W.heap.size + 1) (.int .i64 0) (.int .i64 0) (.int .i64 0) (.string ⟨#[]⟩) (.slice none 0 0) (.slice none 0 0) (.slice none 0 0) = wf at *
  obtain ⟨z0, z1, z2, z3, z4, z5, z6⟩ := box7 hb'
  exact bodyPost_ret (v := .tuple #[vaV 0 0 0 ⟨#[]⟩ none 0 0 none 0 0 none 0 0, .int .i64 1]) (by simp [results, Tryz.results15, go_sem, z0, z1, z2, z3, z4, z5, z6, vaV]) rfl ⟨hg', .inr ⟨HU.out, rfl⟩⟩
 | true =>
  have HUF := jh (fun t h => unpackF_five (T := T) (r := r) (t := t) hr h hk)
  have HUE := jh (fun er h => unpackF_err (T := T) (r := r) (er := er) hr h)
  have HDE : Hid (∀ W2 : World, Calls Tryz.prog 36 #[.string (bs r)] W2 (DecPost r W2)) := fun W2 => rdec_any r (by unfold maxLen; omega) W2
  have HTS := jh (hdec r)
  rw [hk] at HPK
  have hn1 : ((r.length + 1 : Nat) : Int) <= 200 := by omega
  have hn2 : (1 : Int) <= ((r.length + 1 : Nat) : Int) := by omega
  generalize r.length + 1 = n at *
  generalize hsv : (⟨(5 :: r).toArray⟩ : ByteArray) = sv at *
  generalize bs r = sr at *
  clear hsv hr h0 hl hk hdec
  go_enter Tryz.func15, Tryz.ntmps15
  go_wp2_with fail
  refine (HPK.out _ HG0.out).mono ?_; rintro e w1 ⟨rfl, hg⟩
  have HG1 := jh (Lf.gbt HG0.out hg)
  have HA1 := jh (keepB HA0.out hg)
  have HC1 := jh (keepB HC0.out hg)
  clear hg r0 r1 r2 r3 r4 r5 r6 y0 y1 y2 y3 y4 y5 y6
  obtain ⟨r0, r1, r2, r3, r4, r5, r6⟩ := box7 HC1.out
  obtain ⟨y0, y1, y2, y3, y4, y5, y6⟩ := box7f HC1.out
  have q0 := cell0_of HA1.out
  have q1 := cell1_of HA1.out
  go_wp2_with fail
  refine (HDE.out _).mono ?_; rintro e w2 ⟨hg, hp⟩
  cases hq : pDecode r with
  | error er =>
   rw [hq] at hp
   obtain ⟨hx, rfl⟩ := hp
   have HU := jh (HUE.out er hq)
   have hx1 : (er == 0) = false := by simpa using hx
   have hx2 : (er != 0) = true := by simpa using hx
   have HG2 := jh (Lf.gbt HG1.out hg)
   have HC2 := jh (keepB HC1.out hg)
   have hC := keepB HC1.out hg
   clear r0 r1 r2 r3 r4 r5 r6 y0 y1 y2 y3 y4 y5 y6 q0 q1
   obtain ⟨r0, r1, r2, r3, r4, r5, r6⟩ := box7 hC
   obtain ⟨y0, y1, y2, y3, y4, y5, y6⟩ := box7f hC
   have lC := lt_blk hC
   clear hg hC hq hx
   unfold nodeV
   go_wp2_with fail
   change bodyPost _ _ _ _ _ ((rset7 w2 (W.heap.size + 1) (.int .i64 0) (.int .i64 0) (.int .i64 0) (.string ⟨#[]⟩) (.slice none 0 0) (.slice none 0 0) (.slice none 0 0)).alloc (.cells #[.int .i64 0, .int .i64 0, .int .i64 0, .string ⟨#[]⟩, .slice none 0 0] 30))
   have hb' := heap_keep (o := .cells #[.int .i64 0, .int .i64 0, .int .i64 0, .string ⟨#[]⟩, .slice none 0 0] 30) (rset7_block HC2.out (.int .i64 0) (.int .i64 0) (.int .i64 0) (.string ⟨#[]⟩) (.slice none 0 0) (.slice none 0 0) (.slice none 0 0))
   have hg' := Lf.gbt (grow_new HG2.out (rset7_grow w2 (W.heap.size + 1) (.int .i64 0) (.int .i64 0) (.int .i64 0) (.string ⟨#[]⟩) (.slice none 0 0) (.slice none 0 0) (.slice none 0 0)) (by omega)) (Lf.gb (.cells #[.int .i64 0, .int .i64 0, .int .i64 0, .string ⟨#[]⟩, .slice none 0 0] 30))
   generalize (rset7 w2 (W.heap.size + 1) (.int .i64 0) (.int .i64 0) (.int .i64 0) (.string ⟨#[]⟩) (.slice none 0 0) (.slice none 0 0) (.slice none 0 0)).alloc (.cells #[.int .i64 0, .int .i64 0, .int .i64 0, .string ⟨#[]⟩, .slice none 0 0] 30) = wf at *
   obtain ⟨z0, z1, z2, z3, z4, z5, z6⟩ := box7 hb'
   exact bodyPost_ret (v := .tuple #[vaV 0 0 0 ⟨#[]⟩ none 0 0 none 0 0 none 0 0, .int .i64 1]) (by simp [results, Tryz.results15, go_sem, z0, z1, z2, z3, z4, z5, z6, vaV]) rfl ⟨hg', .inr ⟨HU.out, rfl⟩⟩
  | ok t =>
   rw [hq] at hp
   obtain ⟨u, rfl, hLu⟩ := hp
   have HU := jh (HUF.out t hq)
   have hts := HTS.out t hq
   obtain ⟨ku, nu, pu, su, ua, ul, uc, rfl⟩ := hLu.nodeV
   have hgN := Lf.gbt hg (Lf.gb (.cells #[.int .i64 ku, .int .i64 nu, .int .i64 pu, .string su, .slice ua ul uc] 30))
   have HG2 := jh (Lf.gbt HG1.out hgN)
   have HC2 := jh (keepB HC1.out hgN)
   have HCP := jh (rparse_any (T := T) (t := t) (HTL.out.same (sameAll HG2.out)) ((hLu.same (w' := w2.alloc (.cells #[.int .i64 ku, .int .i64 nu, .int .i64 pu, .string su, .slice ua ul uc] 30)) (fun b o _ hlt => World.cell?_of_block ((Lf.gb _).block b hlt (by simp)))).okMono (fun _ _ _ => trivial)) (by omega))
   have hA := keepB HA1.out hg
   clear r0 r1 r2 r3 r4 r5 r6 y0 y1 y2 y3 y4 y5 y6 q0 q1
   have q0 := cell0_of hA
   have q1 := cell1_of hA
   have lA := lt_blk hA
   have lC := lt_blk (keepB HC1.out hg)
   have HSZ : Hid (W.heap.size + 1 < w2.heap.size) := lC
   clear hg hgN hA hLu hq hts
   unfold nodeV at HCP ⊢
   go_wp2_with fail
   refine HCP.out.mono ?_; rintro e w3 ⟨hg, hw⟩
   have HC3 := jh (keepB HC2.out hg)
   have HG3 := jh (Lf.gbt HG2.out hg)
   clear q0 q1
   obtain ⟨r0, r1, r2, r3, r4, r5, r6⟩ := box7 HC3.out
   obtain ⟨y0, y1, y2, y3, y4, y5, y6⟩ := box7f HC3.out
   clear hg
   rcases hw with ⟨x, v, hx, rfl, hLv⟩ | ⟨hn, rfl⟩
   ·obtain ⟨kk, nn, aa, ss, xa, xl, xc, ya, yl, yc, za, zl, zc, rfl⟩ := hLv.vaV
    have HLV := jh hLv
    have HX := jh hx
    clear hLv hx
    unfold vaV
    go_wp2_with fail
    change bodyPost _ _ _ _ _ (rset7 w3 (W.heap.size + 1) (.int .i64 kk) (.int .i64 nn) (.int .i64 aa) (.string ss) (.slice xa xl xc) (.slice ya yl yc) (.slice za zl zc))
    have hb' := rset7_block HC3.out (.int .i64 kk) (.int .i64 nn) (.int .i64 aa) (.string ss) (.slice xa xl xc) (.slice ya yl yc) (.slice za zl zc)
    have hgs := rset7_grow w3 (W.heap.size + 1) (.int .i64 kk) (.int .i64 nn) (.int .i64 aa) (.string ss) (.slice xa xl xc) (.slice ya yl yc) (.slice za zl zc)
    have hg' := grow_new HG3.out hgs (by omega)
    generalize rset7 w3 (W.heap.size + 1) (.int .i64 kk) (.int .i64 nn) (.int .i64 aa) (.string ss) (.slice xa xl xc) (.slice ya yl yc) (.slice za zl zc) = wf at *
    obtain ⟨z0, z1, z2, z3, z4, z5, z6⟩ := box7 hb'
    refine bodyPost_ret (v := .tuple #[vaV kk nn aa ss xa xl xc ya yl yc za zl zc, .int .i64 0]) (by simp [results, Tryz.results15, go_sem, z0, z1, z2, z3, z4, z5, z6, vaV]) rfl ⟨hg', .inl ⟨x, _, HU.out.trans HX.out, rfl, ?_⟩⟩
    have hsz2 := HSZ.out
    exact (HLV.out.same (w' := wf) (fun b o hb hlt => World.cell?_of_block (hgs.block b hlt (by have h : (w2.alloc _).heap.size <= b := hb; rw [World.size_alloc] at h; simp; omega)))).okMono (fun b _ hb => by have h : (w2.alloc _).heap.size <= b := hb; rw [World.size_alloc] at h; show W.heap.size <= b; omega)
   ·have HNN := jh hn
    clear hn
    unfold vaV
    go_wp2_with fail
    change bodyPost _ _ _ _ _ (rset7 w3 (W.heap.size + 1) (.int .i64 0) (.int .i64 0) (.int .i64 0) (.string ⟨#[]⟩) (.slice none 0 0) (.slice none 0 0) (.slice none 0 0))
    have hb' := rset7_block HC3.out (.int .i64 0) (.int .i64 0) (.int .i64 0) (.string ⟨#[]⟩) (.slice none 0 0) (.slice none 0 0) (.slice none 0 0)
    have hg' := grow_new HG3.out (rset7_grow w3 (W.heap.size + 1) (.int .i64 0) (.int .i64 0) (.int .i64 0) (.string ⟨#[]⟩) (.slice none 0 0) (.slice none 0 0) (.slice none 0 0)) (by omega)
    generalize rset7 w3 (W.heap.size + 1) (.int .i64 0) (.int .i64 0) (.int .i64 0) (.string ⟨#[]⟩) (.slice none 0 0) (.slice none 0 0) (.slice none 0 0) = wf at *
    obtain ⟨z0, z1, z2, z3, z4, z5, z6⟩ := box7 hb'
    exact bodyPost_ret (v := .tuple #[vaV 0 0 0 ⟨#[]⟩ none 0 0 none 0 0 none 0 0, .int .i64 1]) (by simp [results, Tryz.results15, go_sem, z0, z1, z2, z3, z4, z5, z6, vaV]) rfl ⟨hg', .inr ⟨HU.out.trans HNN.out, rfl⟩⟩
theorem lies_codes {w : World} {code : List Tr} {na : Option Addr} {nc : Nat} {V : Nat -> Value} (h : RowN (fun _ => True) w code na V) : Lies (fun _ => True) w (.nd 0 0 0 ⟨#[]⟩ code) (nodeV 0 0 0 ⟨#[]⟩ na code.length nc) :=
 .mk V h.1 (Nat.zero_le _) ⟨by decide, by decide⟩ ⟨by decide, by decide⟩ ⟨by decide, by decide⟩ h.2.1 h.2.2
theorem alikeV_any {w : World} {x : Va} {u : Value} (hx : LiesV (fun _ => True) w x u) : ∀ (v : Value) (W : World), LiesV (fun _ => True) w x v -> w.grownBy W none ->
 Calls Tryz.prog 13 #[u, v] W fun e w' => e = .returned (.bool true) /\ W.grownBy w' none := by
 induction hx with
 | @mk k n a s args types code aa ta na ac tc nc V VT VN hl hlc hs ik iN ia hT hN hc hr ih =>
  intro v W hy hW
  cases hy with
  | @mk _ _ _ _ _ _ _ aa2 ta2 na2 ac2 tc2 nc2 V2 VT2 VN2 hl2 hlc2 hs2 ik2 iN2 ia2 hT2 hN2 hc2 hr2 =>
   unfold maxLen at hl
   have IH := jh ih
   have HC := jh hc
   have HC2 := jh hc2
   have HR2 := jh hr2
   have HG := jh hW
   have HST : Hid (∀ W2, W.grownBy W2 none -> Calls Tryz.prog 32 #[.slice ta types.length tc, .slice ta2 types.length tc2] W2 fun e w' => e = .returned (.bool true) /\ W2.grownBy w' none) := fun W2 h => by
    have q := rsames_any (c := tc) (c2 := tc2) hT hT2 W2 (Lf.gbt hW h)
    rw [sameTs_refl] at q
    exact q
   have HSN : Hid (∀ W2, W.grownBy W2 none -> Calls Tryz.prog 7 #[.agg #[.int .i64 0, .int .i64 0, .int .i64 0, .string ⟨#[]⟩, .slice na code.length nc], .agg #[.int .i64 0, .int .i64 0, .int .i64 0, .string ⟨#[]⟩, .slice na2 code.length nc2]] W2 fun e w' => e = .returned (.bool true) /\ W2.grownBy w' none) := fun W2 h => alikeR_any (lies_codes (nc := nc) hN) _ W2 (Lf.gbt hW h) (lies_codes (nc := nc2) hN2)
   have hl2' := hN.1
   have hl3' := hT.1
   unfold maxLen at hl2' hl3'
   clear ih hc hr hc2 hr2 hW hT hN hT2 hN2 ik iN ia ik2 iN2 ia2
   have HA0 := jh (res_new W (.cells #[.int .i64 k, .int .i64 n, .int .i64 a, .string s, .slice aa args.length ac, .slice ta types.length tc, .slice na code.length nc] 28) (.cells #[.int .i64 k, .int .i64 n, .int .i64 a, .string s, .slice aa2 args.length ac2, .slice ta2 types.length tc2, .slice na2 code.length nc2] 28))
   have HB0 := jh (rnew_two W (.cells #[.int .i64 k, .int .i64 n, .int .i64 a, .string s, .slice aa args.length ac, .slice ta types.length tc, .slice na code.length nc] 28) (.cells #[.int .i64 k, .int .i64 n, .int .i64 a, .string s, .slice aa2 args.length ac2, .slice ta2 types.length tc2, .slice na2 code.length nc2] 28))
   have HG0 := jh (Lf.gbt (Lf.gb (w := W) (.cells #[.int .i64 k, .int .i64 n, .int .i64 a, .string s, .slice aa args.length ac, .slice ta types.length tc, .slice na code.length nc] 28)) (Lf.gb (.cells #[.int .i64 k, .int .i64 n, .int .i64 a, .string s, .slice aa2 args.length ac2, .slice ta2 types.length tc2, .slice na2 code.length nc2] 28)))
   have hss : (s.toList == s.toList) = true := by simp
   have hsn : (s.toList != s.toList) = false := by simp
   unfold vaV
   go_enter Tryz.func13, Tryz.ntmps13
   go_wp2_with fail
   refine (HST.out _ HG0.out).mono ?_; rintro e w1 ⟨rfl, hg⟩
   have HG1 := jh (Lf.gbt HG0.out hg)
   have HA1 := jh (keepB HA0.out hg)
   have HB1 := jh (keepB HB0.out hg)
   obtain ⟨x0, x1, x2, x3, x4, x5, x6⟩ := box7 HA1.out
   obtain ⟨y0, y1, y2, y3, y4, y5, y6⟩ := box7 HB1.out
   clear hg
   go_wp2_with fail
   refine (HSN.out _ HG1.out).mono ?_; rintro e w3 ⟨rfl, hg⟩
   have HG3 := jh (Lf.gbt HG1.out hg)
   have HA3 := jh (keepB HA1.out hg)
   have HB3 := jh (keepB HB1.out hg)
   clear hg x0 x1 x2 x3 x4 x5 x6 y0 y1 y2 y3 y4 y5 y6
   obtain ⟨x0, x1, x2, x3, x4, x5, x6⟩ := box7 HA3.out
   obtain ⟨y0, y1, y2, y3, y4, y5, y6⟩ := box7 HB3.out
   go_wp2_with fail
   clear x0 x1 x2 x3 x4 x5 x6 y0 y1 y2 y3 y4 y5 y6
   go_loopw [62] (fun i wr => ∃ j : Nat, j <= args.length /\ i = .int .i64 j /\ W.grownBy wr none /\ wr.heap[W.heap.size]? = some (.cells #[.int .i64 k, .int .i64 n, .int .i64 a, .string s, .slice aa args.length ac, .slice ta types.length tc, .slice na code.length nc] 28) /\ wr.heap[W.heap.size + 1]? = some (.cells #[.int .i64 k, .int .i64 n, .int .i64 a, .string s, .slice aa2 args.length ac2, .slice ta2 types.length tc2, .slice na2 code.length nc2] 28)) (fun i _ => args.length - (intOf i).toNat)
   case atStart => exact ⟨0, Nat.zero_le _, rfl, HG3.out, HA3.out, HB3.out⟩
   case round =>
    obtain ⟨j, hj, rfl, hgr, hA, hB⟩ := hrel
    have hgw : w.grownBy wr none := Lf.gbt HG.out hgr
    by_cases hlt : j < args.length
    ·obtain ⟨b1, o1, rfl, _, k3, n3, a3, s3, aa3, al3, ac3, ta3, tl3, tc3, na3, nl3, nc3, hv1, e0, e1, e2, e3, e4, e5, e6⟩ := (HC.out j hlt).same (sameAll hgw)
     obtain ⟨b2, o2, rfl, _, k4, n4, a4, s4, aa4, al4, ac4, ta4, tl4, tc4, na4, nl4, nc4, hv2, f0, f1, f2, f3, f4, f5, f6⟩ := (HC2.out j hlt).same (sameAll hgw)
     have hI : ∀ W3, wr.grownBy W3 none -> Calls Tryz.prog 13 #[V j, V2 j] W3 fun e w' => e = .returned (.bool true) /\ W3.grownBy w' none := fun W3 h3 => IH.out j hlt (V2 j) W3 (HR2.out j hlt) (Lf.gbt hgw h3)
     rw [hv1, hv2] at hI
     unfold vaV at hI
     have HI := jh hI
     have q1 : b1 < wr.heap.size := World.block_lt_of_cell? wr _ e0
     have q2 : b2 < wr.heap.size := World.block_lt_of_cell? wr _ f0
     have xd : ∀ W3 : World, wr.grownBy W3 none -> W3.cell? ⟨W.heap.size, 4, none⟩ = some (.slice (some ⟨b1, o1, none⟩) args.length ac) := fun W3 h => (box7 (keepB hA h)).2.2.2.2.1
     have yd : ∀ W3 : World, wr.grownBy W3 none -> W3.cell? ⟨W.heap.size + 1, 4, none⟩ = some (.slice (some ⟨b2, o2, none⟩) args.length ac2) := fun W3 h => (box7 (keepB hB h)).2.2.2.2.1
     have ed0 : ∀ W3 : World, wr.grownBy W3 none -> W3.cell? ⟨b1, o1 + j * 7, none⟩ = some (.int .i64 k3) := fun W3 h => (World.cell?_of_block (h.block b1 q1 (by simp))).trans e0
     have ed1 : ∀ W3 : World, wr.grownBy W3 none -> W3.cell? ⟨b1, o1 + j * 7 + 1, none⟩ = some (.int .i64 n3) := fun W3 h => (World.cell?_of_block (h.block b1 q1 (by simp))).trans e1
     have ed2 : ∀ W3 : World, wr.grownBy W3 none -> W3.cell? ⟨b1, o1 + j * 7 + 2, none⟩ = some (.int .i64 a3) := fun W3 h => (World.cell?_of_block (h.block b1 q1 (by simp))).trans e2
     have ed3 : ∀ W3 : World, wr.grownBy W3 none -> W3.cell? ⟨b1, o1 + j * 7 + 3, none⟩ = some (.string s3) := fun W3 h => (World.cell?_of_block (h.block b1 q1 (by simp))).trans e3
     have ed4 : ∀ W3 : World, wr.grownBy W3 none -> W3.cell? ⟨b1, o1 + j * 7 + 4, none⟩ = some (.slice aa3 al3 ac3) := fun W3 h => (World.cell?_of_block (h.block b1 q1 (by simp))).trans e4
     have ed5 : ∀ W3 : World, wr.grownBy W3 none -> W3.cell? ⟨b1, o1 + j * 7 + 5, none⟩ = some (.slice ta3 tl3 tc3) := fun W3 h => (World.cell?_of_block (h.block b1 q1 (by simp))).trans e5
     have ed6 : ∀ W3 : World, wr.grownBy W3 none -> W3.cell? ⟨b1, o1 + j * 7 + 6, none⟩ = some (.slice na3 nl3 nc3) := fun W3 h => (World.cell?_of_block (h.block b1 q1 (by simp))).trans e6
     have fd0 : ∀ W3 : World, wr.grownBy W3 none -> W3.cell? ⟨b2, o2 + j * 7, none⟩ = some (.int .i64 k4) := fun W3 h => (World.cell?_of_block (h.block b2 q2 (by simp))).trans f0
     have fd1 : ∀ W3 : World, wr.grownBy W3 none -> W3.cell? ⟨b2, o2 + j * 7 + 1, none⟩ = some (.int .i64 n4) := fun W3 h => (World.cell?_of_block (h.block b2 q2 (by simp))).trans f1
     have fd2 : ∀ W3 : World, wr.grownBy W3 none -> W3.cell? ⟨b2, o2 + j * 7 + 2, none⟩ = some (.int .i64 a4) := fun W3 h => (World.cell?_of_block (h.block b2 q2 (by simp))).trans f2
     have fd3 : ∀ W3 : World, wr.grownBy W3 none -> W3.cell? ⟨b2, o2 + j * 7 + 3, none⟩ = some (.string s4) := fun W3 h => (World.cell?_of_block (h.block b2 q2 (by simp))).trans f3
     have fd4 : ∀ W3 : World, wr.grownBy W3 none -> W3.cell? ⟨b2, o2 + j * 7 + 4, none⟩ = some (.slice aa4 al4 ac4) := fun W3 h => (World.cell?_of_block (h.block b2 q2 (by simp))).trans f4
     have fd5 : ∀ W3 : World, wr.grownBy W3 none -> W3.cell? ⟨b2, o2 + j * 7 + 5, none⟩ = some (.slice ta4 tl4 tc4) := fun W3 h => (World.cell?_of_block (h.block b2 q2 (by simp))).trans f5
     have fd6 : ∀ W3 : World, wr.grownBy W3 none -> W3.cell? ⟨b2, o2 + j * 7 + 6, none⟩ = some (.slice na4 nl4 nc4) := fun W3 h => (World.cell?_of_block (h.block b2 q2 (by simp))).trans f6
     have HGR := jh hgr
     have HA := jh hA
     have HB := jh hB
     have w1 : IntKind.i64.wrap (j : Int) = (j : Int) := rwrapN j (by omega)
     have w2 : (j : Int) < (args.length : Int) := by omega
     clear hI hgr hgw hv1 hv2 hA hB e0 e1 e2 e3 e4 e5 e6 f0 f1 f2 f3 f4 f5 f6
     go_wp2_with fail
     go_region_held3 (fun w' => wr.grownBy w' none) (first | assumption | exact grow_drew (grow_refl _ _)) (first
      | (go_at_call 13; refine (HI.out _ (by assumption)).mono ?_; rintro e w' ⟨rfl, hg⟩; have hS := Lf.gbt (by assumption) hg))
     have HS9 := jh (Lf.gbt HGR.out hS)
     have HA9 := jh (keepB HA.out hS)
     have HB9 := jh (keepB HB.out hS)
     clear hS
     go_wp2_with fail
     go_roundw
     case rel => exact ⟨j + 1, by omega, by go_num, HS9.out, HA9.out, HB9.out⟩
     case measure => simp [intOf]; omega
    ·have HGR := jh hgr
     have hj3 : ¬ (j : Int) < (args.length : Int) := by omega
     clear hgr hgw hA hB
     go_wp2_with fail
     go_ret
     exact ⟨rfl, HGR.out⟩
end Go.Proofs.YthjpngaapflclacGreat
