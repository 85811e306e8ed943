import Derived.Test.YtkglnoimbekhhaaGreatKZk
namespace Go.Proofs.YtkglnoimbekhhaaGreat
set_option maxRecDepth 100000
set_option maxHeartbeats 4000000
open Go.ChangeShapes Go.WideShapes Go.ChangeAt Go.RowKit
set_option linter.unusedVariables false
set_option linter.unusedSimpArgs false
theorem step_moves {W:World} {t:Tr} {i:Ins} {q:Led} {nv:Value} {sa:Option Addr} {sl sc:Nat} (hL:Lies (fun _=>True) W t nv) (hk:t.k0 ≠ 3) (hr:readF t = some i) (hp:i.p = 40 \/ i.p = 41 \/ i.p = 42 \/ i.p = 43 \/ i.p = 44)
 (hcall:∀ (W2:World) (ta ra da:Option Addr) (tc rc dc:Nat),W.grownBy W2 none -> RowC W2 i.types (.slice ta i.types.length tc) -> RowR W2 i.rows ra -> i.rows.length <= rc -> Lies (fun _=>True) W2 i.data (nodeV i.data.k0 i.data.n0 i.data.p0 i.data.s0 da i.data.args0.length dc) ->
  Calls Tryz.prog 82 #[insV i.p i.n ta i.types.length tc ra i.rows.length rc i.data.k0 i.data.n0 i.data.p0 i.data.s0 da i.data.args0.length dc,.slice sa sl sc] W2 (LPq q W2)) :
 Calls Tryz.prog 61 #[nv,.slice sa sl sc] W (LPq q W):=by
 obtain ⟨p,n,types,rows,data⟩:=i
 dsimp only at hp hcall
 obtain ⟨na,nc,VN,e1,⟨ik,iN,ip,hss⟩,hRN⟩:=hL.invN
 rw [e1] at hL ⊢
 unfold nodeV at hL ⊢
 obtain ⟨hg3,hI3,hR3⟩:=start2 W (.cells #[.int .i64 t.k0,.int .i64 t.n0,.int .i64 t.p0,.string t.s0,.slice na t.args0.length nc] 48) (.cells #[.slice none 0 0,.bool false] 62)
 obtain ⟨m0,m1,m2,m3,m4⟩:=box5 hI3
 have HRD:=jh (readI_any (hL.same (sAl hg3)))
 rw [hr] at HRD
 have hk2:(t.k0 == 3) = false:=by simpa using hk
 have HG3:=jh hg3
 have HR3:=jh hR3
 have HC:=jh hcall
 generalize t.k0 = kk at *
 clear hL hRN e1 hg3 hI3 hR3 hcall hr hk
 have HGA:Hid (∀ (w1:World) (ta ra da:Option Addr) (tc rc dc:Nat),w1.grownBy (w1.alloc (.cells #[.int .i64 p,.int .i64 n,.slice ta types.length tc,.slice ra rows.length rc,.int .i64 data.k0,.int .i64 data.n0,.int .i64 data.p0,.string data.s0,.slice da data.args0.length dc] 115)) none):=fun _ _ _ _ _ _ _=>gBq _
 rcases hp with rfl | rfl | rfl | rfl | rfl
 all_goals
  go_enter Tryz.func61,Tryz.ntmps61
  go_wp2_with fail
  generalize (W.alloc _).alloc _ = W3 at *
  refine HRD.out.mono ?_;rintro e w1 ⟨hg,hcase⟩
  rcases hcase with ⟨h,_⟩ | ⟨j,ta,tc,ra,rc,da,dc,he,rfl,k1,k2,k3,k4⟩
  ·cases h
  cases he
  dsimp only at k1 k2 k3 k4 ⊢
  replace HR3:=bCq HR3 hg
  replace HG3:=gCq HG3 hg
  have hga:=HGA.out w1 ta ra da tc rc dc
  have HC2:=jh (HC.out _ ta ra da tc rc dc (gTq HG3.out hga) (k1.grow hga) (k2.grow hga) k3 (k4.same (sAl hga)))
  unfold insV at HC2 ⊢
  clear hg k1 k2 k3 k4 hga HC HRD HGA
  go_wp2_with fail
  refine HC2.out.mono ?_
  rintro e w5 hp
  obtain ⟨a5,l5,c5,f5,er5,rfl,hS5,q0,q1,q2,HB5,HL5⟩:=lFq hp HG3.out (gBq _) HR3.out
  clear hp
  go_wp2_with fail
  exact eLq (fun w z0 z1=>by simp [results,Tryz.results61,go_sem,z0,z1]) rfl HB5.out HL5.out
theorem step_binds {W:World} {t:Tr} {i:Ins} {q:Led} {nv:Value} {sa:Option Addr} {sl sc:Nat} (hL:Lies (fun _=>True) W t nv) (hk:t.k0 ≠ 3) (hr:readF t = some i) (hp:i.p = 46 \/ i.p = 47 \/ i.p = 48 \/ i.p = 49 \/ i.p = 50 \/ i.p = 51 \/ i.p = 53 \/ i.p = 54)
 (hcall:∀ (W2:World) (ta ra da:Option Addr) (tc rc dc:Nat),W.grownBy W2 none -> RowC W2 i.types (.slice ta i.types.length tc) -> RowR W2 i.rows ra -> i.rows.length <= rc -> Lies (fun _=>True) W2 i.data (nodeV i.data.k0 i.data.n0 i.data.p0 i.data.s0 da i.data.args0.length dc) ->
  Calls Tryz.prog 83 #[insV i.p i.n ta i.types.length tc ra i.rows.length rc i.data.k0 i.data.n0 i.data.p0 i.data.s0 da i.data.args0.length dc,.slice sa sl sc] W2 (LPq q W2)) :
 Calls Tryz.prog 61 #[nv,.slice sa sl sc] W (LPq q W):=by
 obtain ⟨p,n,types,rows,data⟩:=i
 dsimp only at hp hcall
 obtain ⟨na,nc,VN,e1,⟨ik,iN,ip,hss⟩,hRN⟩:=hL.invN
 rw [e1] at hL ⊢
 unfold nodeV at hL ⊢
 obtain ⟨hg3,hI3,hR3⟩:=start2 W (.cells #[.int .i64 t.k0,.int .i64 t.n0,.int .i64 t.p0,.string t.s0,.slice na t.args0.length nc] 48) (.cells #[.slice none 0 0,.bool false] 62)
 obtain ⟨m0,m1,m2,m3,m4⟩:=box5 hI3
 have HRD:=jh (readI_any (hL.same (sAl hg3)))
 rw [hr] at HRD
 have hk2:(t.k0 == 3) = false:=by simpa using hk
 have HG3:=jh hg3
 have HR3:=jh hR3
 have HC:=jh hcall
 generalize t.k0 = kk at *
 clear hL hRN e1 hg3 hI3 hR3 hcall hr hk
 have HGA:Hid (∀ (w1:World) (ta ra da:Option Addr) (tc rc dc:Nat),w1.grownBy (w1.alloc (.cells #[.int .i64 p,.int .i64 n,.slice ta types.length tc,.slice ra rows.length rc,.int .i64 data.k0,.int .i64 data.n0,.int .i64 data.p0,.string data.s0,.slice da data.args0.length dc] 115)) none):=fun _ _ _ _ _ _ _=>gBq _
 rcases hp with rfl | rfl | rfl | rfl | rfl | rfl | rfl | rfl
 all_goals
  go_enter Tryz.func61,Tryz.ntmps61
  go_wp2_with fail
  generalize (W.alloc _).alloc _ = W3 at *
  refine HRD.out.mono ?_;rintro e w1 ⟨hg,hcase⟩
  rcases hcase with ⟨h,_⟩ | ⟨j,ta,tc,ra,rc,da,dc,he,rfl,k1,k2,k3,k4⟩
  ·cases h
  cases he
  dsimp only at k1 k2 k3 k4 ⊢
  replace HR3:=bCq HR3 hg
  replace HG3:=gCq HG3 hg
  have hga:=HGA.out w1 ta ra da tc rc dc
  have HC2:=jh (HC.out _ ta ra da tc rc dc (gTq HG3.out hga) (k1.grow hga) (k2.grow hga) k3 (k4.same (sAl hga)))
  unfold insV at HC2 ⊢
  clear hg k1 k2 k3 k4 hga HC HRD HGA
  go_wp2_with fail
  refine HC2.out.mono ?_
  rintro e w5 hp
  obtain ⟨a5,l5,c5,f5,er5,rfl,hS5,q0,q1,q2,HB5,HL5⟩:=lFq hp HG3.out (gBq _) HR3.out
  clear hp
  go_wp2_with fail
  exact eLq (fun w z0 z1=>by simp [results,Tryz.results61,go_sem,z0,z1]) rfl HB5.out HL5.out
theorem step_gathers {W:World} {t:Tr} {i:Ins} {q:Led} {nv:Value} {sa:Option Addr} {sl sc:Nat} (hL:Lies (fun _=>True) W t nv) (hk:t.k0 ≠ 3) (hr:readF t = some i) (hp:i.p = 56 \/ i.p = 57 \/ i.p = 59 \/ i.p = 61 \/ i.p = 62 \/ i.p = 63)
 (hcall:∀ (W2:World) (ta ra da:Option Addr) (tc rc dc:Nat),W.grownBy W2 none -> RowC W2 i.types (.slice ta i.types.length tc) -> RowR W2 i.rows ra -> i.rows.length <= rc -> Lies (fun _=>True) W2 i.data (nodeV i.data.k0 i.data.n0 i.data.p0 i.data.s0 da i.data.args0.length dc) ->
  Calls Tryz.prog 84 #[insV i.p i.n ta i.types.length tc ra i.rows.length rc i.data.k0 i.data.n0 i.data.p0 i.data.s0 da i.data.args0.length dc,.slice sa sl sc] W2 (LPq q W2)) :
 Calls Tryz.prog 61 #[nv,.slice sa sl sc] W (LPq q W):=by
 obtain ⟨p,n,types,rows,data⟩:=i
 dsimp only at hp hcall
 obtain ⟨na,nc,VN,e1,⟨ik,iN,ip,hss⟩,hRN⟩:=hL.invN
 rw [e1] at hL ⊢
 unfold nodeV at hL ⊢
 obtain ⟨hg3,hI3,hR3⟩:=start2 W (.cells #[.int .i64 t.k0,.int .i64 t.n0,.int .i64 t.p0,.string t.s0,.slice na t.args0.length nc] 48) (.cells #[.slice none 0 0,.bool false] 62)
 obtain ⟨m0,m1,m2,m3,m4⟩:=box5 hI3
 have HRD:=jh (readI_any (hL.same (sAl hg3)))
 rw [hr] at HRD
 have hk2:(t.k0 == 3) = false:=by simpa using hk
 have HG3:=jh hg3
 have HR3:=jh hR3
 have HC:=jh hcall
 generalize t.k0 = kk at *
 clear hL hRN e1 hg3 hI3 hR3 hcall hr hk
 have HGA:Hid (∀ (w1:World) (ta ra da:Option Addr) (tc rc dc:Nat),w1.grownBy (w1.alloc (.cells #[.int .i64 p,.int .i64 n,.slice ta types.length tc,.slice ra rows.length rc,.int .i64 data.k0,.int .i64 data.n0,.int .i64 data.p0,.string data.s0,.slice da data.args0.length dc] 115)) none):=fun _ _ _ _ _ _ _=>gBq _
 rcases hp with rfl | rfl | rfl | rfl | rfl | rfl
 all_goals
  go_enter Tryz.func61,Tryz.ntmps61
  go_wp2_with fail
  generalize (W.alloc _).alloc _ = W3 at *
  refine HRD.out.mono ?_;rintro e w1 ⟨hg,hcase⟩
  rcases hcase with ⟨h,_⟩ | ⟨j,ta,tc,ra,rc,da,dc,he,rfl,k1,k2,k3,k4⟩
  ·cases h
  cases he
  dsimp only at k1 k2 k3 k4 ⊢
  replace HR3:=bCq HR3 hg
  replace HG3:=gCq HG3 hg
  have hga:=HGA.out w1 ta ra da tc rc dc
  have HC2:=jh (HC.out _ ta ra da tc rc dc (gTq HG3.out hga) (k1.grow hga) (k2.grow hga) k3 (k4.same (sAl hga)))
  unfold insV at HC2 ⊢
  clear hg k1 k2 k3 k4 hga HC HRD HGA
  go_wp2_with fail
  refine HC2.out.mono ?_
  rintro e w5 hp
  obtain ⟨a5,l5,c5,f5,er5,rfl,hS5,q0,q1,q2,HB5,HL5⟩:=lFq hp HG3.out (gBq _) HR3.out
  clear hp
  go_wp2_with fail
  exact eLq (fun w z0 z1=>by simp [results,Tryz.results61,go_sem,z0,z1]) rfl HB5.out HL5.out
theorem step_chooses {W:World} {t:Tr} {i:Ins} {q:Led} {nv:Value} {sa:Option Addr} {sl sc:Nat} (hL:Lies (fun _=>True) W t nv) (hk:t.k0 ≠ 3) (hr:readF t = some i) (hp:i.p = 52 \/ i.p = 55 \/ i.p = 58 \/ i.p = 64)
 (hcall:∀ (W2:World) (ta ra da:Option Addr) (tc rc dc:Nat),W.grownBy W2 none -> RowC W2 i.types (.slice ta i.types.length tc) -> RowR W2 i.rows ra -> i.rows.length <= rc -> Lies (fun _=>True) W2 i.data (nodeV i.data.k0 i.data.n0 i.data.p0 i.data.s0 da i.data.args0.length dc) ->
  Calls Tryz.prog 85 #[insV i.p i.n ta i.types.length tc ra i.rows.length rc i.data.k0 i.data.n0 i.data.p0 i.data.s0 da i.data.args0.length dc,.slice sa sl sc] W2 (LPq q W2)) :
 Calls Tryz.prog 61 #[nv,.slice sa sl sc] W (LPq q W):=by
 obtain ⟨p,n,types,rows,data⟩:=i
 dsimp only at hp hcall
 obtain ⟨na,nc,VN,e1,⟨ik,iN,ip,hss⟩,hRN⟩:=hL.invN
 rw [e1] at hL ⊢
 unfold nodeV at hL ⊢
 obtain ⟨hg3,hI3,hR3⟩:=start2 W (.cells #[.int .i64 t.k0,.int .i64 t.n0,.int .i64 t.p0,.string t.s0,.slice na t.args0.length nc] 48) (.cells #[.slice none 0 0,.bool false] 62)
 obtain ⟨m0,m1,m2,m3,m4⟩:=box5 hI3
 have HRD:=jh (readI_any (hL.same (sAl hg3)))
 rw [hr] at HRD
 have hk2:(t.k0 == 3) = false:=by simpa using hk
 have HG3:=jh hg3
 have HR3:=jh hR3
 have HC:=jh hcall
 generalize t.k0 = kk at *
 clear hL hRN e1 hg3 hI3 hR3 hcall hr hk
 have HGA:Hid (∀ (w1:World) (ta ra da:Option Addr) (tc rc dc:Nat),w1.grownBy (w1.alloc (.cells #[.int .i64 p,.int .i64 n,.slice ta types.length tc,.slice ra rows.length rc,.int .i64 data.k0,.int .i64 data.n0,.int .i64 data.p0,.string data.s0,.slice da data.args0.length dc] 115)) none):=fun _ _ _ _ _ _ _=>gBq _
 rcases hp with rfl | rfl | rfl | rfl
 all_goals
  go_enter Tryz.func61,Tryz.ntmps61
  go_wp2_with fail
  generalize (W.alloc _).alloc _ = W3 at *
  refine HRD.out.mono ?_;rintro e w1 ⟨hg,hcase⟩
  rcases hcase with ⟨h,_⟩ | ⟨j,ta,tc,ra,rc,da,dc,he,rfl,k1,k2,k3,k4⟩
  ·cases h
  cases he
  dsimp only at k1 k2 k3 k4 ⊢
  replace HR3:=bCq HR3 hg
  replace HG3:=gCq HG3 hg
  have hga:=HGA.out w1 ta ra da tc rc dc
  have HC2:=jh (HC.out _ ta ra da tc rc dc (gTq HG3.out hga) (k1.grow hga) (k2.grow hga) k3 (k4.same (sAl hga)))
  unfold insV at HC2 ⊢
  clear hg k1 k2 k3 k4 hga HC HRD HGA
  go_wp2_with fail
  refine HC2.out.mono ?_
  rintro e w5 hp
  obtain ⟨a5,l5,c5,f5,er5,rfl,hS5,q0,q1,q2,HB5,HL5⟩:=lFq hp HG3.out (gBq _) HR3.out
  clear hp
  go_wp2_with fail
  exact eLq (fun w z0 z1=>by simp [results,Tryz.results61,go_sem,z0,z1]) rfl HB5.out HL5.out
theorem step_enters {W:World} {t:Tr} {i:Ins} {q:Led} {nv:Value} {sa:Option Addr} {sl sc:Nat} (hL:Lies (fun _=>True) W t nv) (hk:t.k0 ≠ 3) (hr:readF t = some i) (hp:i.p = 60 \/ i.p = 65 \/ i.p = 66 \/ i.p = 67 \/ i.p = 68)
 (hcall:∀ (W2:World) (ta ra da:Option Addr) (tc rc dc:Nat),W.grownBy W2 none -> RowC W2 i.types (.slice ta i.types.length tc) -> RowR W2 i.rows ra -> i.rows.length <= rc -> Lies (fun _=>True) W2 i.data (nodeV i.data.k0 i.data.n0 i.data.p0 i.data.s0 da i.data.args0.length dc) ->
  Calls Tryz.prog 86 #[insV i.p i.n ta i.types.length tc ra i.rows.length rc i.data.k0 i.data.n0 i.data.p0 i.data.s0 da i.data.args0.length dc,.slice sa sl sc] W2 (LPq q W2)) :
 Calls Tryz.prog 61 #[nv,.slice sa sl sc] W (LPq q W):=by
 obtain ⟨p,n,types,rows,data⟩:=i
 dsimp only at hp hcall
 obtain ⟨na,nc,VN,e1,⟨ik,iN,ip,hss⟩,hRN⟩:=hL.invN
 rw [e1] at hL ⊢
 unfold nodeV at hL ⊢
 obtain ⟨hg3,hI3,hR3⟩:=start2 W (.cells #[.int .i64 t.k0,.int .i64 t.n0,.int .i64 t.p0,.string t.s0,.slice na t.args0.length nc] 48) (.cells #[.slice none 0 0,.bool false] 62)
 obtain ⟨m0,m1,m2,m3,m4⟩:=box5 hI3
 have HRD:=jh (readI_any (hL.same (sAl hg3)))
 rw [hr] at HRD
 have hk2:(t.k0 == 3) = false:=by simpa using hk
 have HG3:=jh hg3
 have HR3:=jh hR3
 have HC:=jh hcall
 generalize t.k0 = kk at *
 clear hL hRN e1 hg3 hI3 hR3 hcall hr hk
 have HGA:Hid (∀ (w1:World) (ta ra da:Option Addr) (tc rc dc:Nat),w1.grownBy (w1.alloc (.cells #[.int .i64 p,.int .i64 n,.slice ta types.length tc,.slice ra rows.length rc,.int .i64 data.k0,.int .i64 data.n0,.int .i64 data.p0,.string data.s0,.slice da data.args0.length dc] 115)) none):=fun _ _ _ _ _ _ _=>gBq _
 rcases hp with rfl | rfl | rfl | rfl | rfl
 all_goals
  go_enter Tryz.func61,Tryz.ntmps61
  go_wp2_with fail
  generalize (W.alloc _).alloc _ = W3 at *
  refine HRD.out.mono ?_;rintro e w1 ⟨hg,hcase⟩
  rcases hcase with ⟨h,_⟩ | ⟨j,ta,tc,ra,rc,da,dc,he,rfl,k1,k2,k3,k4⟩
  ·cases h
  cases he
  dsimp only at k1 k2 k3 k4 ⊢
  replace HR3:=bCq HR3 hg
  replace HG3:=gCq HG3 hg
  have hga:=HGA.out w1 ta ra da tc rc dc
  have HC2:=jh (HC.out _ ta ra da tc rc dc (gTq HG3.out hga) (k1.grow hga) (k2.grow hga) k3 (k4.same (sAl hga)))
  unfold insV at HC2 ⊢
  clear hg k1 k2 k3 k4 hga HC HRD HGA
  go_wp2_with fail
  refine HC2.out.mono ?_
  rintro e w5 hp
  obtain ⟨a5,l5,c5,f5,er5,rfl,hS5,q0,q1,q2,HB5,HL5⟩:=lFq hp HG3.out (gBq _) HR3.out
  clear hp
  go_wp2_with fail
  exact eLq (fun w z0 z1=>by simp [results,Tryz.results61,go_sem,z0,z1]) rfl HB5.out HL5.out
theorem step_reckons {W:World} {t:Tr} {i:Ins} {q:Led} {nv:Value} {sa:Option Addr} {sl sc:Nat} (hL:Lies (fun _=>True) W t nv) (hk:t.k0 ≠ 3) (hr:readF t = some i) (hp:i.p = 69 \/ i.p = 70 \/ i.p = 71 \/ i.p = 72 \/ i.p = 93 \/ i.p = 94 \/ i.p = 95)
 (hcall:∀ (W2:World) (ta ra da:Option Addr) (tc rc dc:Nat),W.grownBy W2 none -> RowC W2 i.types (.slice ta i.types.length tc) -> RowR W2 i.rows ra -> i.rows.length <= rc -> Lies (fun _=>True) W2 i.data (nodeV i.data.k0 i.data.n0 i.data.p0 i.data.s0 da i.data.args0.length dc) ->
  Calls Tryz.prog 87 #[insV i.p i.n ta i.types.length tc ra i.rows.length rc i.data.k0 i.data.n0 i.data.p0 i.data.s0 da i.data.args0.length dc,.slice sa sl sc] W2 (LPq q W2)) :
 Calls Tryz.prog 61 #[nv,.slice sa sl sc] W (LPq q W):=by
 obtain ⟨p,n,types,rows,data⟩:=i
 dsimp only at hp hcall
 obtain ⟨na,nc,VN,e1,⟨ik,iN,ip,hss⟩,hRN⟩:=hL.invN
 rw [e1] at hL ⊢
 unfold nodeV at hL ⊢
 obtain ⟨hg3,hI3,hR3⟩:=start2 W (.cells #[.int .i64 t.k0,.int .i64 t.n0,.int .i64 t.p0,.string t.s0,.slice na t.args0.length nc] 48) (.cells #[.slice none 0 0,.bool false] 62)
 obtain ⟨m0,m1,m2,m3,m4⟩:=box5 hI3
 have HRD:=jh (readI_any (hL.same (sAl hg3)))
 rw [hr] at HRD
 have hk2:(t.k0 == 3) = false:=by simpa using hk
 have HG3:=jh hg3
 have HR3:=jh hR3
 have HC:=jh hcall
 generalize t.k0 = kk at *
 clear hL hRN e1 hg3 hI3 hR3 hcall hr hk
 have HGA:Hid (∀ (w1:World) (ta ra da:Option Addr) (tc rc dc:Nat),w1.grownBy (w1.alloc (.cells #[.int .i64 p,.int .i64 n,.slice ta types.length tc,.slice ra rows.length rc,.int .i64 data.k0,.int .i64 data.n0,.int .i64 data.p0,.string data.s0,.slice da data.args0.length dc] 115)) none):=fun _ _ _ _ _ _ _=>gBq _
 rcases hp with rfl | rfl | rfl | rfl | rfl | rfl | rfl
 all_goals
  go_enter Tryz.func61,Tryz.ntmps61
  go_wp2_with fail
  generalize (W.alloc _).alloc _ = W3 at *
  refine HRD.out.mono ?_;rintro e w1 ⟨hg,hcase⟩
  rcases hcase with ⟨h,_⟩ | ⟨j,ta,tc,ra,rc,da,dc,he,rfl,k1,k2,k3,k4⟩
  ·cases h
  cases he
  dsimp only at k1 k2 k3 k4 ⊢
  replace HR3:=bCq HR3 hg
  replace HG3:=gCq HG3 hg
  have hga:=HGA.out w1 ta ra da tc rc dc
  have HC2:=jh (HC.out _ ta ra da tc rc dc (gTq HG3.out hga) (k1.grow hga) (k2.grow hga) k3 (k4.same (sAl hga)))
  unfold insV at HC2 ⊢
  clear hg k1 k2 k3 k4 hga HC HRD HGA
  go_wp2_with fail
  refine HC2.out.mono ?_
  rintro e w5 hp
  obtain ⟨a5,l5,c5,f5,er5,rfl,hS5,q0,q1,q2,HB5,HL5⟩:=lFq hp HG3.out (gBq _) HR3.out
  clear hp
  go_wp2_with fail
  exact eLq (fun w z0 z1=>by simp [results,Tryz.results61,go_sem,z0,z1]) rfl HB5.out HL5.out
theorem step_asks {W:World} {t:Tr} {i:Ins} {q:Led} {nv:Value} {sa:Option Addr} {sl sc:Nat} (hL:Lies (fun _=>True) W t nv) (hk:t.k0 ≠ 3) (hr:readF t = some i) (hp:i.p = 73 \/ i.p = 74 \/ i.p = 75 \/ i.p = 76 \/ i.p = 77 \/ i.p = 78 \/ i.p = 79)
 (hcall:∀ (W2:World) (ta ra da:Option Addr) (tc rc dc:Nat),W.grownBy W2 none -> RowC W2 i.types (.slice ta i.types.length tc) -> RowR W2 i.rows ra -> i.rows.length <= rc -> Lies (fun _=>True) W2 i.data (nodeV i.data.k0 i.data.n0 i.data.p0 i.data.s0 da i.data.args0.length dc) ->
  Calls Tryz.prog 88 #[insV i.p i.n ta i.types.length tc ra i.rows.length rc i.data.k0 i.data.n0 i.data.p0 i.data.s0 da i.data.args0.length dc,.slice sa sl sc] W2 (LPq q W2)) :
 Calls Tryz.prog 61 #[nv,.slice sa sl sc] W (LPq q W):=by
 obtain ⟨p,n,types,rows,data⟩:=i
 dsimp only at hp hcall
 obtain ⟨na,nc,VN,e1,⟨ik,iN,ip,hss⟩,hRN⟩:=hL.invN
 rw [e1] at hL ⊢
 unfold nodeV at hL ⊢
 obtain ⟨hg3,hI3,hR3⟩:=start2 W (.cells #[.int .i64 t.k0,.int .i64 t.n0,.int .i64 t.p0,.string t.s0,.slice na t.args0.length nc] 48) (.cells #[.slice none 0 0,.bool false] 62)
 obtain ⟨m0,m1,m2,m3,m4⟩:=box5 hI3
 have HRD:=jh (readI_any (hL.same (sAl hg3)))
 rw [hr] at HRD
 have hk2:(t.k0 == 3) = false:=by simpa using hk
 have HG3:=jh hg3
 have HR3:=jh hR3
 have HC:=jh hcall
 generalize t.k0 = kk at *
 clear hL hRN e1 hg3 hI3 hR3 hcall hr hk
 have HGA:Hid (∀ (w1:World) (ta ra da:Option Addr) (tc rc dc:Nat),w1.grownBy (w1.alloc (.cells #[.int .i64 p,.int .i64 n,.slice ta types.length tc,.slice ra rows.length rc,.int .i64 data.k0,.int .i64 data.n0,.int .i64 data.p0,.string data.s0,.slice da data.args0.length dc] 115)) none):=fun _ _ _ _ _ _ _=>gBq _
 rcases hp with rfl | rfl | rfl | rfl | rfl | rfl | rfl
 all_goals
  go_enter Tryz.func61,Tryz.ntmps61
  go_wp2_with fail
  generalize (W.alloc _).alloc _ = W3 at *
  refine HRD.out.mono ?_;rintro e w1 ⟨hg,hcase⟩
  rcases hcase with ⟨h,_⟩ | ⟨j,ta,tc,ra,rc,da,dc,he,rfl,k1,k2,k3,k4⟩
  ·cases h
  cases he
  dsimp only at k1 k2 k3 k4 ⊢
  replace HR3:=bCq HR3 hg
  replace HG3:=gCq HG3 hg
  have hga:=HGA.out w1 ta ra da tc rc dc
  have HC2:=jh (HC.out _ ta ra da tc rc dc (gTq HG3.out hga) (k1.grow hga) (k2.grow hga) k3 (k4.same (sAl hga)))
  unfold insV at HC2 ⊢
  clear hg k1 k2 k3 k4 hga HC HRD HGA
  go_wp2_with fail
  refine HC2.out.mono ?_
  rintro e w5 hp
  obtain ⟨a5,l5,c5,f5,er5,rfl,hS5,q0,q1,q2,HB5,HL5⟩:=lFq hp HG3.out (gBq _) HR3.out
  clear hp
  go_wp2_with fail
  exact eLq (fun w z0 z1=>by simp [results,Tryz.results61,go_sem,z0,z1]) rfl HB5.out HL5.out
theorem step_tells {W:World} {t:Tr} {i:Ins} {q:Led} {nv:Value} {sa:Option Addr} {sl sc:Nat} (hL:Lies (fun _=>True) W t nv) (hk:t.k0 ≠ 3) (hr:readF t = some i) (hp:i.p = 45 \/ i.p = 80 \/ i.p = 81 \/ i.p = 82 \/ i.p = 83)
 (hcall:∀ (W2:World) (ta ra da:Option Addr) (tc rc dc:Nat),W.grownBy W2 none -> RowC W2 i.types (.slice ta i.types.length tc) -> RowR W2 i.rows ra -> i.rows.length <= rc -> Lies (fun _=>True) W2 i.data (nodeV i.data.k0 i.data.n0 i.data.p0 i.data.s0 da i.data.args0.length dc) ->
  Calls Tryz.prog 89 #[insV i.p i.n ta i.types.length tc ra i.rows.length rc i.data.k0 i.data.n0 i.data.p0 i.data.s0 da i.data.args0.length dc,.slice sa sl sc] W2 (LPq q W2)) :
 Calls Tryz.prog 61 #[nv,.slice sa sl sc] W (LPq q W):=by
 obtain ⟨p,n,types,rows,data⟩:=i
 dsimp only at hp hcall
 obtain ⟨na,nc,VN,e1,⟨ik,iN,ip,hss⟩,hRN⟩:=hL.invN
 rw [e1] at hL ⊢
 unfold nodeV at hL ⊢
 obtain ⟨hg3,hI3,hR3⟩:=start2 W (.cells #[.int .i64 t.k0,.int .i64 t.n0,.int .i64 t.p0,.string t.s0,.slice na t.args0.length nc] 48) (.cells #[.slice none 0 0,.bool false] 62)
 obtain ⟨m0,m1,m2,m3,m4⟩:=box5 hI3
 have HRD:=jh (readI_any (hL.same (sAl hg3)))
 rw [hr] at HRD
 have hk2:(t.k0 == 3) = false:=by simpa using hk
 have HG3:=jh hg3
 have HR3:=jh hR3
 have HC:=jh hcall
 generalize t.k0 = kk at *
 clear hL hRN e1 hg3 hI3 hR3 hcall hr hk
 have HGA:Hid (∀ (w1:World) (ta ra da:Option Addr) (tc rc dc:Nat),w1.grownBy (w1.alloc (.cells #[.int .i64 p,.int .i64 n,.slice ta types.length tc,.slice ra rows.length rc,.int .i64 data.k0,.int .i64 data.n0,.int .i64 data.p0,.string data.s0,.slice da data.args0.length dc] 115)) none):=fun _ _ _ _ _ _ _=>gBq _
 rcases hp with rfl | rfl | rfl | rfl | rfl
 all_goals
  go_enter Tryz.func61,Tryz.ntmps61
  go_wp2_with fail
  generalize (W.alloc _).alloc _ = W3 at *
  refine HRD.out.mono ?_;rintro e w1 ⟨hg,hcase⟩
  rcases hcase with ⟨h,_⟩ | ⟨j,ta,tc,ra,rc,da,dc,he,rfl,k1,k2,k3,k4⟩
  ·cases h
  cases he
  dsimp only at k1 k2 k3 k4 ⊢
  replace HR3:=bCq HR3 hg
  replace HG3:=gCq HG3 hg
  have hga:=HGA.out w1 ta ra da tc rc dc
  have HC2:=jh (HC.out _ ta ra da tc rc dc (gTq HG3.out hga) (k1.grow hga) (k2.grow hga) k3 (k4.same (sAl hga)))
  unfold insV at HC2 ⊢
  clear hg k1 k2 k3 k4 hga HC HRD HGA
  go_wp2_with fail
  refine HC2.out.mono ?_
  rintro e w5 hp
  obtain ⟨a5,l5,c5,f5,er5,rfl,hS5,q0,q1,q2,HB5,HL5⟩:=lFq hp HG3.out (gBq _) HR3.out
  clear hp
  go_wp2_with fail
  exact eLq (fun w z0 z1=>by simp [results,Tryz.results61,go_sem,z0,z1]) rfl HB5.out HL5.out
theorem step_vouches {W:World} {t:Tr} {i:Ins} {q:Led} {nv:Value} {sa:Option Addr} {sl sc:Nat} (hL:Lies (fun _=>True) W t nv) (hk:t.k0 ≠ 3) (hr:readF t = some i) (hp:i.p = 84 \/ i.p = 85 \/ i.p = 86 \/ i.p = 87)
 (hcall:∀ (W2:World) (ta ra da:Option Addr) (tc rc dc:Nat),W.grownBy W2 none -> RowC W2 i.types (.slice ta i.types.length tc) -> RowR W2 i.rows ra -> i.rows.length <= rc -> Lies (fun _=>True) W2 i.data (nodeV i.data.k0 i.data.n0 i.data.p0 i.data.s0 da i.data.args0.length dc) ->
  Calls Tryz.prog 90 #[insV i.p i.n ta i.types.length tc ra i.rows.length rc i.data.k0 i.data.n0 i.data.p0 i.data.s0 da i.data.args0.length dc,.slice sa sl sc] W2 (LPq q W2)) :
 Calls Tryz.prog 61 #[nv,.slice sa sl sc] W (LPq q W):=by
 obtain ⟨p,n,types,rows,data⟩:=i
 dsimp only at hp hcall
 obtain ⟨na,nc,VN,e1,⟨ik,iN,ip,hss⟩,hRN⟩:=hL.invN
 rw [e1] at hL ⊢
 unfold nodeV at hL ⊢
 obtain ⟨hg3,hI3,hR3⟩:=start2 W (.cells #[.int .i64 t.k0,.int .i64 t.n0,.int .i64 t.p0,.string t.s0,.slice na t.args0.length nc] 48) (.cells #[.slice none 0 0,.bool false] 62)
 obtain ⟨m0,m1,m2,m3,m4⟩:=box5 hI3
 have HRD:=jh (readI_any (hL.same (sAl hg3)))
 rw [hr] at HRD
 have hk2:(t.k0 == 3) = false:=by simpa using hk
 have HG3:=jh hg3
 have HR3:=jh hR3
 have HC:=jh hcall
 generalize t.k0 = kk at *
 clear hL hRN e1 hg3 hI3 hR3 hcall hr hk
 have HGA:Hid (∀ (w1:World) (ta ra da:Option Addr) (tc rc dc:Nat),w1.grownBy (w1.alloc (.cells #[.int .i64 p,.int .i64 n,.slice ta types.length tc,.slice ra rows.length rc,.int .i64 data.k0,.int .i64 data.n0,.int .i64 data.p0,.string data.s0,.slice da data.args0.length dc] 115)) none):=fun _ _ _ _ _ _ _=>gBq _
 rcases hp with rfl | rfl | rfl | rfl
 all_goals
  go_enter Tryz.func61,Tryz.ntmps61
  go_wp2_with fail
  generalize (W.alloc _).alloc _ = W3 at *
  refine HRD.out.mono ?_;rintro e w1 ⟨hg,hcase⟩
  rcases hcase with ⟨h,_⟩ | ⟨j,ta,tc,ra,rc,da,dc,he,rfl,k1,k2,k3,k4⟩
  ·cases h
  cases he
  dsimp only at k1 k2 k3 k4 ⊢
  replace HR3:=bCq HR3 hg
  replace HG3:=gCq HG3 hg
  have hga:=HGA.out w1 ta ra da tc rc dc
  have HC2:=jh (HC.out _ ta ra da tc rc dc (gTq HG3.out hga) (k1.grow hga) (k2.grow hga) k3 (k4.same (sAl hga)))
  unfold insV at HC2 ⊢
  clear hg k1 k2 k3 k4 hga HC HRD HGA
  go_wp2_with fail
  refine HC2.out.mono ?_
  rintro e w5 hp
  obtain ⟨a5,l5,c5,f5,er5,rfl,hS5,q0,q1,q2,HB5,HL5⟩:=lFq hp HG3.out (gBq _) HR3.out
  clear hp
  go_wp2_with fail
  exact eLq (fun w z0 z1=>by simp [results,Tryz.results61,go_sem,z0,z1]) rfl HB5.out HL5.out
theorem step_sends {W:World} {t:Tr} {i:Ins} {q:Led} {nv:Value} {sa:Option Addr} {sl sc:Nat} (hL:Lies (fun _=>True) W t nv) (hk:t.k0 ≠ 3) (hr:readF t = some i) (hp:i.p = 88 \/ i.p = 89 \/ i.p = 90 \/ i.p = 91 \/ i.p = 92 \/ 96 <= i.p)
 (hcall:∀ (W2:World) (ta ra da:Option Addr) (tc rc dc:Nat),W.grownBy W2 none -> RowC W2 i.types (.slice ta i.types.length tc) -> RowR W2 i.rows ra -> i.rows.length <= rc -> Lies (fun _=>True) W2 i.data (nodeV i.data.k0 i.data.n0 i.data.p0 i.data.s0 da i.data.args0.length dc) ->
  Calls Tryz.prog 91 #[insV i.p i.n ta i.types.length tc ra i.rows.length rc i.data.k0 i.data.n0 i.data.p0 i.data.s0 da i.data.args0.length dc,.slice sa sl sc] W2 (LPq q W2)) :
 Calls Tryz.prog 61 #[nv,.slice sa sl sc] W (LPq q W):=by
 obtain ⟨p,n,types,rows,data⟩:=i
 dsimp only at hp hcall
 obtain ⟨na,nc,VN,e1,⟨ik,iN,ip,hss⟩,hRN⟩:=hL.invN
 rw [e1] at hL ⊢
 unfold nodeV at hL ⊢
 obtain ⟨hg3,hI3,hR3⟩:=start2 W (.cells #[.int .i64 t.k0,.int .i64 t.n0,.int .i64 t.p0,.string t.s0,.slice na t.args0.length nc] 48) (.cells #[.slice none 0 0,.bool false] 62)
 obtain ⟨m0,m1,m2,m3,m4⟩:=box5 hI3
 have HRD:=jh (readI_any (hL.same (sAl hg3)))
 rw [hr] at HRD
 have hk2:(t.k0 == 3) = false:=by simpa using hk
 have HG3:=jh hg3
 have HR3:=jh hR3
 have HC:=jh hcall
 generalize t.k0 = kk at *
 clear hL hRN e1 hg3 hI3 hR3 hcall hr hk
 have HGA:Hid (∀ (w1:World) (ta ra da:Option Addr) (tc rc dc:Nat),w1.grownBy (w1.alloc (.cells #[.int .i64 p,.int .i64 n,.slice ta types.length tc,.slice ra rows.length rc,.int .i64 data.k0,.int .i64 data.n0,.int .i64 data.p0,.string data.s0,.slice da data.args0.length dc] 115)) none):=fun _ _ _ _ _ _ _=>gBq _
 rcases hp with rfl | rfl | rfl | rfl | rfl | h96
 rotate_right
 ·have p40:(p == 40) = false:=by rw [beq_eq_false_iff_ne];omega
  have p41:(p == 41) = false:=by rw [beq_eq_false_iff_ne];omega
  have p42:(p == 42) = false:=by rw [beq_eq_false_iff_ne];omega
  have p43:(p == 43) = false:=by rw [beq_eq_false_iff_ne];omega
  have p44:(p == 44) = false:=by rw [beq_eq_false_iff_ne];omega
  have p45:(p == 45) = false:=by rw [beq_eq_false_iff_ne];omega
  have p46:(p == 46) = false:=by rw [beq_eq_false_iff_ne];omega
  have p47:(p == 47) = false:=by rw [beq_eq_false_iff_ne];omega
  have p48:(p == 48) = false:=by rw [beq_eq_false_iff_ne];omega
  have p49:(p == 49) = false:=by rw [beq_eq_false_iff_ne];omega
  have p50:(p == 50) = false:=by rw [beq_eq_false_iff_ne];omega
  have p51:(p == 51) = false:=by rw [beq_eq_false_iff_ne];omega
  have p52:(p == 52) = false:=by rw [beq_eq_false_iff_ne];omega
  have p53:(p == 53) = false:=by rw [beq_eq_false_iff_ne];omega
  have p54:(p == 54) = false:=by rw [beq_eq_false_iff_ne];omega
  have p55:(p == 55) = false:=by rw [beq_eq_false_iff_ne];omega
  have p56:(p == 56) = false:=by rw [beq_eq_false_iff_ne];omega
  have p57:(p == 57) = false:=by rw [beq_eq_false_iff_ne];omega
  have p58:(p == 58) = false:=by rw [beq_eq_false_iff_ne];omega
  have p59:(p == 59) = false:=by rw [beq_eq_false_iff_ne];omega
  have p60:(p == 60) = false:=by rw [beq_eq_false_iff_ne];omega
  have p61:(p == 61) = false:=by rw [beq_eq_false_iff_ne];omega
  have p62:(p == 62) = false:=by rw [beq_eq_false_iff_ne];omega
  have p63:(p == 63) = false:=by rw [beq_eq_false_iff_ne];omega
  have p64:(p == 64) = false:=by rw [beq_eq_false_iff_ne];omega
  have p65:(p == 65) = false:=by rw [beq_eq_false_iff_ne];omega
  have p66:(p == 66) = false:=by rw [beq_eq_false_iff_ne];omega
  have p67:(p == 67) = false:=by rw [beq_eq_false_iff_ne];omega
  have p68:(p == 68) = false:=by rw [beq_eq_false_iff_ne];omega
  have p69:(p == 69) = false:=by rw [beq_eq_false_iff_ne];omega
  have p70:(p == 70) = false:=by rw [beq_eq_false_iff_ne];omega
  have p71:(p == 71) = false:=by rw [beq_eq_false_iff_ne];omega
  have p72:(p == 72) = false:=by rw [beq_eq_false_iff_ne];omega
  have p73:(p == 73) = false:=by rw [beq_eq_false_iff_ne];omega
  have p74:(p == 74) = false:=by rw [beq_eq_false_iff_ne];omega
  have p75:(p == 75) = false:=by rw [beq_eq_false_iff_ne];omega
  have p76:(p == 76) = false:=by rw [beq_eq_false_iff_ne];omega
  have p77:(p == 77) = false:=by rw [beq_eq_false_iff_ne];omega
  have p78:(p == 78) = false:=by rw [beq_eq_false_iff_ne];omega
  have p79:(p == 79) = false:=by rw [beq_eq_false_iff_ne];omega
  have p80:(p == 80) = false:=by rw [beq_eq_false_iff_ne];omega
  have p81:(p == 81) = false:=by rw [beq_eq_false_iff_ne];omega
  have p82:(p == 82) = false:=by rw [beq_eq_false_iff_ne];omega
  have p83:(p == 83) = false:=by rw [beq_eq_false_iff_ne];omega
  have p84:(p == 84) = false:=by rw [beq_eq_false_iff_ne];omega
  have p85:(p == 85) = false:=by rw [beq_eq_false_iff_ne];omega
  have p86:(p == 86) = false:=by rw [beq_eq_false_iff_ne];omega
  have p87:(p == 87) = false:=by rw [beq_eq_false_iff_ne];omega
  have p93:(p == 93) = false:=by rw [beq_eq_false_iff_ne];omega
  have p94:(p == 94) = false:=by rw [beq_eq_false_iff_ne];omega
  have p95:(p == 95) = false:=by rw [beq_eq_false_iff_ne];omega
  clear h96
  go_enter Tryz.func61,Tryz.ntmps61
  go_wp2_with fail
  generalize (W.alloc _).alloc _ = W3 at *
  refine HRD.out.mono ?_;rintro e w1 ⟨hg,hcase⟩
  rcases hcase with ⟨h,_⟩ | ⟨j,ta,tc,ra,rc,da,dc,he,rfl,k1,k2,k3,k4⟩
  ·cases h
  cases he
  dsimp only at k1 k2 k3 k4 ⊢
  replace HR3:=bCq HR3 hg
  replace HG3:=gCq HG3 hg
  have hga:=HGA.out w1 ta ra da tc rc dc
  have HC2:=jh (HC.out _ ta ra da tc rc dc (gTq HG3.out hga) (k1.grow hga) (k2.grow hga) k3 (k4.same (sAl hga)))
  unfold insV at HC2 ⊢
  clear hg k1 k2 k3 k4 hga HC HRD HGA
  go_wp2_with fail
  refine HC2.out.mono ?_
  rintro e w5 hp
  obtain ⟨a5,l5,c5,f5,er5,rfl,hS5,q0,q1,q2,HB5,HL5⟩:=lFq hp HG3.out (gBq _) HR3.out
  clear hp
  go_wp2_with fail
  exact eLq (fun w z0 z1=>by simp [results,Tryz.results61,go_sem,z0,z1]) rfl HB5.out HL5.out
 all_goals
  go_enter Tryz.func61,Tryz.ntmps61
  go_wp2_with fail
  generalize (W.alloc _).alloc _ = W3 at *
  refine HRD.out.mono ?_;rintro e w1 ⟨hg,hcase⟩
  rcases hcase with ⟨h,_⟩ | ⟨j,ta,tc,ra,rc,da,dc,he,rfl,k1,k2,k3,k4⟩
  ·cases h
  cases he
  dsimp only at k1 k2 k3 k4 ⊢
  replace HR3:=bCq HR3 hg
  replace HG3:=gCq HG3 hg
  have hga:=HGA.out w1 ta ra da tc rc dc
  have HC2:=jh (HC.out _ ta ra da tc rc dc (gTq HG3.out hga) (k1.grow hga) (k2.grow hga) k3 (k4.same (sAl hga)))
  unfold insV at HC2 ⊢
  clear hg k1 k2 k3 k4 hga HC HRD HGA
  go_wp2_with fail
  refine HC2.out.mono ?_
  rintro e w5 hp
  obtain ⟨a5,l5,c5,f5,er5,rfl,hS5,q0,q1,q2,HB5,HL5⟩:=lFq hp HG3.out (gBq _) HR3.out
  clear hp
  go_wp2_with fail
  exact eLq (fun w z0 z1=>by simp [results,Tryz.results61,go_sem,z0,z1]) rfl HB5.out HL5.out
theorem step_none {W:World} {t:Tr} {nv:Value} {sa:Option Addr} {sl sc:Nat} (hL:Lies (fun _=>True) W t nv) (hk:t.k0 ≠ 3) (hr:readF t = none):Calls Tryz.prog 61 #[nv,.slice sa sl sc] W (LPq (.no 1) W):=by
 obtain ⟨na,nc,VN,e1,⟨ik,iN,ip,hss⟩,hRN⟩:=hL.invN
 rw [e1] at hL ⊢
 unfold nodeV at hL ⊢
 obtain ⟨hg3,hI3,hR3⟩:=start2 W (.cells #[.int .i64 t.k0,.int .i64 t.n0,.int .i64 t.p0,.string t.s0,.slice na t.args0.length nc] 48) (.cells #[.slice none 0 0,.bool false] 62)
 obtain ⟨m0,m1,m2,m3,m4⟩:=box5 hI3
 have HRD:=jh (readI_any (hL.same (sAl hg3)))
 rw [hr] at HRD
 have hk2:(t.k0 == 3) = false:=by simpa using hk
 have HG3:=jh hg3
 have HR3:=jh hR3
 generalize t.k0 = kk at *
 clear hL hRN e1 hg3 hI3 hR3 hr hk
 go_enter Tryz.func61,Tryz.ntmps61
 go_wp2_with fail
 generalize (W.alloc _).alloc _ = W3 at *
 refine HRD.out.mono ?_;rintro e w1 ⟨hg,hcase⟩
 rcases hcase with ⟨_,rfl⟩ | ⟨j,ta,tc,ra,rc,da,dc,he,_⟩
 rotate_left
 ·cases he
 replace HR3:=bCq HR3 hg
 replace HG3:=gCq HG3 hg
 have hga:=gBq (w:=w1) (.cells #[.int .i64 0,.int .i64 0,.slice none 0 0,.slice none 0 0,.int .i64 0,.int .i64 0,.int .i64 0,.string ⟨#[]⟩,.slice none 0 0] 115)
 replace HR3:=jh (kBq HR3.out hga)
 replace HG3:=jh (gTq HG3.out hga)
 unfold insV
 clear hg hga HRD
 go_wp2_with fail
 generalize w1.alloc _ = w2 at *
 refine (rLq 1 (by decide) _).mono ?_
 rintro e w5 hp
 obtain ⟨a5,l5,c5,f5,er5,rfl,hS5,q0,q1,q2,HB5,HL5⟩:=lFq hp HG3.out (gRf _ _) HR3.out
 clear hp
 go_wp2_with fail
 exact eLq (fun w z0 z1=>by simp [results,Tryz.results61,go_sem,z0,z1]) rfl HB5.out HL5.out
theorem step_seq {W:World} {t:Tr} {q:Led} {nv:Value} {sa na:Option Addr} {sl sc nc:Nat} (e1:nv = nodeV t.k0 t.n0 t.p0 t.s0 na t.args0.length nc) (hk:t.k0 = 3) (hcall:∀ (W2:World),W.grownBy W2 none -> Calls Tryz.prog 43 #[.slice na t.args0.length nc,.slice sa sl sc] W2 (LPq q W2)):Calls Tryz.prog 61 #[nv,.slice sa sl sc] W (LPq q W):=by
 rw [e1,hk]
 unfold nodeV
 obtain ⟨hg3,hI3,hR3⟩:=start2 W (.cells #[.int .i64 3,.int .i64 t.n0,.int .i64 t.p0,.string t.s0,.slice na t.args0.length nc] 48) (.cells #[.slice none 0 0,.bool false] 62)
 obtain ⟨m0,m1,m2,m3,m4⟩:=box5 hI3
 have HC:=jh (hcall _ hg3)
 have HG3:=jh hg3
 have HR3:=jh hR3
 clear hg3 hI3 hR3 hcall e1 hk
 go_enter Tryz.func61,Tryz.ntmps61
 go_wp2_with fail
 refine HC.out.mono ?_
 rintro e w5 hp
 obtain ⟨a5,l5,c5,f5,er5,rfl,hS5,q0,q1,q2,HB5,HL5⟩:=lFq hp HG3.out (gRf _ _) HR3.out
 clear hp
 go_wp2_with fail
 exact eLq (fun w z0 z1=>by simp [results,Tryz.results61,go_sem,z0,z1]) rfl HB5.out HL5.out
end Go.Proofs.YtkglnoimbekhhaaGreat
