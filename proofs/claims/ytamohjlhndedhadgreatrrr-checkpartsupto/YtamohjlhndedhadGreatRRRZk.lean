import Derived.Test.YtamohjlhndedhadGreatRRRZd
import Derived.Test.YtamohjlhndedhadGreatRRRZi
namespace Go.Proofs.YtamohjlhndedhadGreatRRR
set_option maxRecDepth 100000
set_option maxHeartbeats 4000000
open Go.ChangeShapes Go.WideShapes Go.ChangeAt Go.RowKit
set_option linter.unusedVariables false
set_option linter.unusedSimpArgs false
theorem formsOf_any (p : Int) (W : World) : Calls Tryz.prog 50 #[.int .i64 p] W fun e w' => e = .returned (.string ⟨(formsF p).toArray⟩) /\ w' = W := by
 by_cases h41 : p = 41
 ·subst h41; go_enter Tryz.func50, Tryz.ntmps50; go_wp2_with fail; go_ret; exact ⟨rfl, rfl⟩
 by_cases h43 : p = 43
 ·subst h43; go_enter Tryz.func50, Tryz.ntmps50; go_wp2_with fail; go_ret; exact ⟨rfl, rfl⟩
 by_cases h44 : p = 44
 ·subst h44; go_enter Tryz.func50, Tryz.ntmps50; go_wp2_with fail; go_ret; exact ⟨rfl, rfl⟩
 by_cases h45 : p = 45
 ·subst h45; go_enter Tryz.func50, Tryz.ntmps50; go_wp2_with fail; go_ret; exact ⟨rfl, rfl⟩
 by_cases h50 : p = 50
 ·subst h50; go_enter Tryz.func50, Tryz.ntmps50; go_wp2_with fail; go_ret; exact ⟨rfl, rfl⟩
 by_cases h51 : p = 51
 ·subst h51; go_enter Tryz.func50, Tryz.ntmps50; go_wp2_with fail; go_ret; exact ⟨rfl, rfl⟩
 by_cases h54 : p = 54
 ·subst h54; go_enter Tryz.func50, Tryz.ntmps50; go_wp2_with fail; go_ret; exact ⟨rfl, rfl⟩
 by_cases h56 : p = 56
 ·subst h56; go_enter Tryz.func50, Tryz.ntmps50; go_wp2_with fail; go_ret; exact ⟨rfl, rfl⟩
 by_cases h82 : p = 82
 ·subst h82; go_enter Tryz.func50, Tryz.ntmps50; go_wp2_with fail; go_ret; exact ⟨rfl, rfl⟩
 by_cases h88 : p = 88
 ·subst h88; go_enter Tryz.func50, Tryz.ntmps50; go_wp2_with fail; go_ret; exact ⟨rfl, rfl⟩
 by_cases h61 : p = 61
 ·subst h61; go_enter Tryz.func50, Tryz.ntmps50; go_wp2_with fail; go_ret; exact ⟨rfl, rfl⟩
 by_cases h52 : p = 52
 ·subst h52; go_enter Tryz.func50, Tryz.ntmps50; go_wp2_with fail; go_ret; exact ⟨rfl, rfl⟩
 by_cases h55 : p = 55
 ·subst h55; go_enter Tryz.func50, Tryz.ntmps50; go_wp2_with fail; go_ret; exact ⟨rfl, rfl⟩
 by_cases h58 : p = 58
 ·subst h58; go_enter Tryz.func50, Tryz.ntmps50; go_wp2_with fail; go_ret; exact ⟨rfl, rfl⟩
 by_cases h64 : p = 64
 ·subst h64; go_enter Tryz.func50, Tryz.ntmps50; go_wp2_with fail; go_ret; exact ⟨rfl, rfl⟩
 by_cases h60 : p = 60
 ·subst h60; go_enter Tryz.func50, Tryz.ntmps50; go_wp2_with fail; go_ret; exact ⟨rfl, rfl⟩
 by_cases h65 : p = 65
 ·subst h65; go_enter Tryz.func50, Tryz.ntmps50; go_wp2_with fail; go_ret; exact ⟨rfl, rfl⟩
 by_cases h68 : p = 68
 ·subst h68; go_enter Tryz.func50, Tryz.ntmps50; go_wp2_with fail; go_ret; exact ⟨rfl, rfl⟩
 by_cases h66 : p = 66
 ·subst h66; go_enter Tryz.func50, Tryz.ntmps50; go_wp2_with fail; go_ret; exact ⟨rfl, rfl⟩
 have hf : formsF p = [] := by simp [formsF, h41, h43, h44, h45, h50, h51, h54, h56, h82, h88, h61, h52, h55, h58, h64, h60, h65, h68, h66]
 have q41 : (p == 41) = false := by simpa using h41
 have q43 : (p == 43) = false := by simpa using h43
 have q44 : (p == 44) = false := by simpa using h44
 have q45 : (p == 45) = false := by simpa using h45
 have q50 : (p == 50) = false := by simpa using h50
 have q51 : (p == 51) = false := by simpa using h51
 have q54 : (p == 54) = false := by simpa using h54
 have q56 : (p == 56) = false := by simpa using h56
 have q82 : (p == 82) = false := by simpa using h82
 have q88 : (p == 88) = false := by simpa using h88
 have q61 : (p == 61) = false := by simpa using h61
 have q52 : (p == 52) = false := by simpa using h52
 have q55 : (p == 55) = false := by simpa using h55
 have q58 : (p == 58) = false := by simpa using h58
 have q64 : (p == 64) = false := by simpa using h64
 have q60 : (p == 60) = false := by simpa using h60
 have q65 : (p == 65) = false := by simpa using h65
 have q68 : (p == 68) = false := by simpa using h68
 have q66 : (p == 66) = false := by simpa using h66
 have HF := jh hf
 clear hf
 go_enter Tryz.func50, Tryz.ntmps50
 go_wp2_with fail
 go_ret
 exact ⟨by rw [HF.out]; rfl, rfl⟩
theorem ent_mi1 : ∀ args w, (callFunc 76 args).run Tryz.prog w = .ok (.enter 76 args) w := fun args w => by simp [go_sem]
theorem mintsTs_any (l : List Tr) : mintsTs l = l.any mintsT := by
 induction l with
 | nil => simp [mintsTs]
 | cons t l ih => simp [mintsTs, ih]
theorem indexN_any {W : World} {l : List Tr} {na : Option Addr} {nc : Nat} {VN : Nat -> Value} (hN : RowN (fun _ => True) W l na VN)
 (hK : ∀ (j : Nat) (h : j < l.length) (W2 : World), W.grownBy W2 none -> Calls Tryz.prog 76 #[VN j] W2 fun e w' => e = .returned (.bool (mintsT l[j])) /\ W2.grownBy w' none) :
 Calls Tryz.prog 85 #[.slice na l.length nc, .func (.func 76) #[] #[]] W fun e w' => ∃ r : Int, e = .returned (.int .i64 r) /\ ((0 <= r /\ l.any mintsT = true) \/ (r = -1 /\ l.any mintsT = false)) /\ W.grownBy w' none := by
 have hn := hN.1
 unfold maxLen at hn
 have HN := jh hN
 have HKK := jh hK
 have eg := ent_mi1
 clear hN hK
 go_enter Tryz.func85, Tryz.ntmps85
 go_wp2_with fail
 go_loopw [8] (fun iv wr => ∃ j : Nat, j <= l.length /\ iv = .int .i64 j /\ (∀ i (h : i < l.length), i < j -> mintsT l[i] = false) /\ W.grownBy wr none) (fun iv _ => l.length - (intOf iv).toNat)
 case atStart => exact ⟨0, Nat.zero_le _, rfl, fun i h hi => by omega, gRf _ _⟩
 case round =>
  obtain ⟨j, hj, rfl, hall, hgr⟩ := hrel
  have HALL := jh hall
  have HGR := jh hgr
  clear hall
  by_cases hlt : j < l.length
  ·obtain ⟨b, o, rfl, _, k', n', p', s', a', l', c', hv, h0, h1, h2, h3, h4⟩ := (HN.out.2.1 j hlt).same (w' := wr) (sAl hgr)
   have hk := HKK.out j hlt wr hgr
   rw [hv] at hk
   unfold nodeV at hk
   have HK := jh hk
   have hj2 : (j : Int) < (l.length : Int) := by omega
   clear hgr hv hk
   cases hq : mintsT l[j] with
   | false =>
    rw [hq] at HK
    have HQ := jh hq
    clear hq
    go_wp2_with fail
    refine HK.out.mono ?_; rintro e w1 ⟨rfl, hg⟩
    have HG := jh (Lf.gbt HGR.out hg)
    clear hg
    go_wp2_with fail
    go_roundw
    case rel =>
     refine ⟨j + 1, by omega, by go_num, fun i h hi => ?_, HG.out⟩
     by_cases e : i = j
     ·subst e; exact HQ.out
     ·exact HALL.out i h (by omega)
    case measure => simp [intOf]; omega
   | true =>
    rw [hq] at HK
    have HQ := jh hq
    clear hq
    go_wp2_with fail
    refine HK.out.mono ?_; rintro e w1 ⟨rfl, hg⟩
    have HG := jh (Lf.gbt HGR.out hg)
    clear hg
    go_wp2_with fail
    go_ret
    exact ⟨_, rfl, .inl ⟨by omega, List.any_eq_true.2 ⟨_, List.getElem_mem hlt, HQ.out⟩⟩, HG.out⟩
  ·have hall2 : l.any mintsT = false := by
    cases h : l.any mintsT with
    | false => rfl
    | true =>
     obtain ⟨x, hx, hm⟩ := List.any_eq_true.1 h
     obtain ⟨i, hi, rfl⟩ := List.getElem_of_mem hx
     rw [HALL.out i hi (by omega)] at hm
     cases hm
   have HA := jh hall2
   have hj3 : ¬ (j : Int) < (l.length : Int) := by omega
   clear hall2 hgr
   go_wp2_with fail
   go_ret
   refine ⟨_, rfl, .inr ⟨rfl, ?_⟩, HGR.out⟩
   first | exact HA.out | exact (fun x hx => by have h := HA.out; rw [List.any_eq_false] at h; simpa using h x hx)
theorem containsN_any {W : World} {l : List Tr} {na : Option Addr} {nc : Nat} {VN : Nat -> Value} (hN : RowN (fun _ => True) W l na VN)
 (hK : ∀ (j : Nat) (h : j < l.length) (W2 : World), W.grownBy W2 none -> Calls Tryz.prog 76 #[VN j] W2 fun e w' => e = .returned (.bool (mintsT l[j])) /\ W2.grownBy w' none) :
 Calls Tryz.prog 75 #[.slice na l.length nc, .func (.func 76) #[] #[]] W fun e w' => e = .returned (.bool (l.any mintsT)) /\ W.grownBy w' none := by
 have H := jh (indexN_any (nc := nc) hN hK)
 clear hN hK
 generalize l.any mintsT = q at *
 go_enter Tryz.func75, Tryz.ntmps75
 go_wp2_with fail
 refine H.out.mono ?_; rintro e w1 ⟨r, rfl, hr, hg⟩
 have HG := jh hg
 have HR := jh hr
 clear hg hr
 go_wp2_with fail
 go_ret
 refine Lf.retb ?_ HG.out
 rcases HR.out with ⟨h1, rfl⟩ | ⟨rfl, rfl⟩
 ·simp [h1]
 ·rfl
theorem mints1_any {W : World} {k n p : Int} {str : ByteArray} {a : Option Addr} {l c : Nat} {b : Bool} (hk : ∀ W2, W.grownBy W2 none -> Calls Tryz.prog 59 #[.slice a l c] W2 fun e w' => e = .returned (.bool b) /\ W2.grownBy w' none) :
 Calls Tryz.prog 76 #[nodeV k n p str a l c] W fun e w' => e = .returned (.bool (decide (k = 2 /\ p = 84) || b)) /\ W.grownBy w' none := by
 have HG0 := jh (Lf.gb (w := W) (.cells #[.int .i64 k, .int .i64 n, .int .i64 p, .string str, .slice a l c] 24))
 obtain ⟨m0, m1, m2, m3, m4⟩ := box5 (heap_alloc_new W (.cells #[.int .i64 k, .int .i64 n, .int .i64 p, .string str, .slice a l c] 24))
 have HK := jh (hk _ HG0.out)
 clear hk
 unfold nodeV
 by_cases h1 : k = 2
 ·by_cases h2 : p = 84
  ·subst h1; subst h2
   go_enter Tryz.func76, Tryz.ntmps76
   go_wp2_with fail
   go_ret
   exact ⟨rfl, HG0.out⟩
  ·have n2 : (p == 84) = false := by simpa using h2
   have hb : (decide (k = 2 /\ p = 84) || b) = b := by simp [h2]
   rw [hb]
   subst h1
   clear hb
   go_enter Tryz.func76, Tryz.ntmps76
   go_wp2_with fail
   refine HK.out.mono ?_; rintro e w1 ⟨rfl, hg⟩
   have HG := jh (Lf.gbt HG0.out hg)
   clear hg
   go_wp2_with fail
   go_ret
   exact ⟨rfl, HG.out⟩
 ·have n1 : (k == 2) = false := by simpa using h1
  have hb : (decide (k = 2 /\ p = 84) || b) = b := by simp [h1]
  rw [hb]
  clear hb
  go_enter Tryz.func76, Tryz.ntmps76
  go_wp2_with fail
  refine HK.out.mono ?_; rintro e w1 ⟨rfl, hg⟩
  have HG := jh (Lf.gbt HG0.out hg)
  clear hg
  go_wp2_with fail
  go_ret
  exact ⟨rfl, HG.out⟩
theorem mints_of {W : World} {a : Option Addr} {l c : Nat} {b : Bool} (H0 : Calls Tryz.prog 75 #[.slice a l c, .func (.func 76) #[] #[]] W fun e w' => e = .returned (.bool b) /\ W.grownBy w' none) :
 Calls Tryz.prog 59 #[.slice a l c] W fun e w' => e = .returned (.bool b) /\ W.grownBy w' none := by
 have H := jh H0
 clear H0
 go_enter Tryz.func59, Tryz.ntmps59
 go_wp2_with fail
 refine H.out.mono ?_; rintro e w1 ⟨rfl, hg⟩
 have HG := jh hg
 clear hg
 go_wp2_with fail
 go_ret
 exact ⟨rfl, HG.out⟩
theorem mints_any : ∀ (N : Nat) {W : World} {l : List Tr} {na : Option Addr} {nc : Nat} {VN : Nat -> Value}, RowN (fun _ => True) W l na VN -> sizes l <= N -> Calls Tryz.prog 59 #[.slice na l.length nc] W fun e w' => e = .returned (.bool (mintsTs l)) /\ W.grownBy w' none := by
 intro N
 induction N with
 | zero =>
  intro W l na nc VN hN hz
  rw [mintsTs_any]
  refine mints_of (containsN_any hN (fun j h W2 hg => ?_))
  have := length_le_sizes l
  omega
 | succ N ih =>
  intro W l na nc VN hN hz
  rw [mintsTs_any]
  refine mints_of (containsN_any hN (fun j h W2 hg => ?_))
  have hLj := (hN.2.2 j h).same (sAl hg)
  have hsz : (l[j]).size <= sizes l := by
   have h7 := sizes_take_succ l j h
   have h8 := sizes_take_le l (j + 1)
   omega
  generalize l[j] = t at *
  generalize VN j = v at *
  cases hLj with
  | @mk k n p s args a c V hl hs ik iN ip hc hr =>
   have hm : mintsT (.nd k n p s args) = (decide (k = 2 /\ p = 84) || mintsTs args) := by rw [mintsT]
   rw [hm]
   refine mints1_any (fun W3 hg3 => ih (VN := V) ?_ ?_)
   ·exact RowN.same ⟨hl, hc, hr⟩ (sAl hg3)
   ·rw [Tr.size] at hsz; omega
end Go.Proofs.YtamohjlhndedhadGreatRRR
