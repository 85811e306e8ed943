import Derived.Test.YtkglnoimbekhhaaGreatKZw
import Derived.Test.YtkglnoimbekhhaaGreatKSameG
import Derived.Test.YtkglnoimbekhhaaGreatKZd
import Derived.Test.YtkglnoimbekhhaaGreatKZb
import Derived.Test.YtkglnoimbekhhaaGreatKZa
import Derived.Test.YtkglnoimbekhhaaGreatKZt
import Derived.Test.YtkglnoimbekhhaaGreatKZc
import Derived.Deep.RegionHeld3
namespace Go.Proofs.YtkglnoimbekhhaaGreat
set_option maxRecDepth 100000
set_option maxHeartbeats 4000000
open Go.ChangeShapes Go.WideShapes Go.ChangeAt Go.RowKit
set_option linter.unusedVariables false
def zeroTy:Ty:=.nd 0 []
theorem lies_zeroTy (w:World):LiesT (fun _=>True) w zeroTy (tyV 0 none 0 0):=LiesT.oq ⟨by decide,by decide⟩ (RowC.nil _ none 0)
def bareF (A:Acc):Bool:=decide (A.code.length = 0) && sameT A.par zeroTy && sameT A.sto zeroTy && decide (sbsV sameGC A.val zeroVa = 0)
def Small (A:Acc):Prop:=A.par.size <= 2000000 /\ A.sto.size <= 2000000 /\ sizes A.code <= 2000000 /\ A.val.size <= 2000000
def Say (f:Nat) (args:Array Value) (W:World) (v:Value):Prop:=∀ W2,W.grownBy W2 none -> Calls Tryz.prog f args W2 fun e w'=>e = .returned v /\ W2.grownBy w' none
theorem Say.at {f:Nat} {args:Array Value} {W W1:World} {v:Value} (h:Say f args W v) (hg:W.grownBy W1 none) (w:World) (h1:W1.grownBy w none):Calls Tryz.prog f args w fun e w'=>e = .returned v /\ W1.grownBy w' none :=
 (h w (gTq hg h1)).mono fun e w' q=>⟨q.1,gTq h1 q.2⟩
theorem box15 {w:World} {b:Nat} {is bal cnt pt:Int} {pa:Option Addr} {pl pc:Nat} {st:Int} {sa:Option Addr} {sl sc:Nat} {na:Option Addr} {nl nc:Nat} {k n a:Int} {s:ByteArray} {aa:Option Addr} {al ac:Nat} {ta:Option Addr} {tl tc:Nat} {ma:Option Addr} {ml mc:Nat} {T:TypeId}
 (h:w.heap[b]? = some (.cells (accC is bal cnt pt pa pl pc st sa sl sc na nl nc k n a s aa al ac ta tl tc ma ml mc) T)) :
 w.cell? ⟨b,0,none⟩ = some (.int .i64 is) /\ w.cell? ⟨b,1,none⟩ = some (.int .i64 bal) /\ w.cell? ⟨b,2,none⟩ = some (.int .i64 cnt) /\ w.cell? ⟨b,3,none⟩ = some (.int .i64 pt) /\ w.cell? ⟨b,4,none⟩ = some (.slice pa pl pc) /\ w.cell? ⟨b,5,none⟩ = some (.int .i64 st) /\ w.cell? ⟨b,6,none⟩ = some (.slice sa sl sc) /\
 w.cell? ⟨b,7,none⟩ = some (.slice na nl nc) /\ w.cell? ⟨b,8,none⟩ = some (.int .i64 k) /\ w.cell? ⟨b,9,none⟩ = some (.int .i64 n) /\ w.cell? ⟨b,10,none⟩ = some (.int .i64 a) /\ w.cell? ⟨b,11,none⟩ = some (.string s) /\ w.cell? ⟨b,12,none⟩ = some (.slice aa al ac) /\ w.cell? ⟨b,13,none⟩ = some (.slice ta tl tc) /\ w.cell? ⟨b,14,none⟩ = some (.slice ma ml mc):=by
 simp [World.cell?,h,accC]
theorem bare_any {w:World} {A:Acc} {c:Array Value} (hA:AccV w A c) (hS:Small A) (W:World) (hW:w.grownBy W none) :
 Calls Tryz.prog 14 #[.agg c] W fun e w'=>e = .returned (.bool (bareF A)) /\ W.grownBy w' none:=by
 obtain ⟨pt,pa,pl,pc,st,sa,sl,sc,na,nl,nc,k,n,a,s,aa,al,ac,ta,tl,tc,ma,ml,mc,VN,rfl,_,hP,hT,⟨hnl,_⟩,_,hV⟩:=hA
 subst hnl
 obtain ⟨z1,z2,z3,z4⟩:=hS
 have S1:Say 16 #[tyV pt pa pl pc,tyV 0 none 0 0] W (.bool (sameT A.par zeroTy)):=fun W2 h=>same_any (LiesT.up hP (gTq hW h)) (LiesT.up (lies_zeroTy W2) (gRf _ _)) (by omega)
 have S2:Say 16 #[tyV st sa sl sc,tyV 0 none 0 0] W (.bool (sameT A.sto zeroTy)):=fun W2 h=>same_any (LiesT.up hT (gTq hW h)) (LiesT.up (lies_zeroTy W2) (gRf _ _)) (by omega)
 have S3:Say 17 #[vaV k n a s aa al ac ta tl tc ma ml mc,vaV 0 0 0 ⟨#[]⟩ none 0 0 none 0 0 none 0 0] W (.bool (decide (sbsV sameGC A.val zeroVa = 0))):=fun W2 h=>sameG_any (LiesV.up hV (gTq hW h)) (liesV_zero _ W2) (by omega) W2 (gRf _ _)
 have HF:Hid (bareF A = (decide (A.code.length = 0) && sameT A.par zeroTy && sameT A.sto zeroTy && decide (sbsV sameGC A.val zeroVa = 0))):=rfl
 have HB:=jh (heap_alloc_new W (.cells (accC A.is A.bal A.cnt pt pa pl pc st sa sl sc na A.code.length nc k n a s aa al ac ta tl tc ma ml mc) 30))
 have HG:=jh (gBq (w:=W) (.cells (accC A.is A.bal A.cnt pt pa pl pc st sa sl sc na A.code.length nc k n a s aa al ac ta tl tc ma ml mc) 30))
 have H1:=jh (S1.at HG.out)
 have H2:=jh (S2.at HG.out)
 have H3:=jh (S3.at HG.out)
 clear S1 S2 S3 hP hT hV hW z1 z2 z3 z4
 generalize bareF A = r at *
 generalize sameT A.par zeroTy = b1 at *
 generalize sameT A.sto zeroTy = b2 at *
 generalize decide (sbsV sameGC A.val zeroVa = 0) = b3 at *
 generalize A.code.length = cl at *
 unfold accC at *
 unfold tyV vaV at *
 by_cases hc:cl = 0
 ·subst hc
  rw [decide_eq_true rfl] at HF
  go_enter Tryz.func14,Tryz.ntmps14
  go_upto_region 1 with (fail)
  generalize W.alloc _ = W1 at *
  have K:=fun (w':World) (h:W1.grownBy w' none)=>box15 (kBq HB.out h)
  have hS0:W1.grownBy W1 none:=gRf _ _
  cases b1 <;> cases b2 <;> cases b3
  all_goals
   go_wp2_with (first
    | (go_at_call 16;(first | with_reducible refine (H1.out _ (by assumption)).mono ?_ | with_reducible refine (H2.out _ (by assumption)).mono ?_);rintro e w1 ⟨rfl,hS1⟩)
    | (go_at_call 17;with_reducible refine (H3.out _ (by assumption)).mono ?_;rintro e w2 ⟨rfl,hS1⟩))
   go_ret
   exact Lf.retb HF.out.symm (gTq HG.out (by assumption))
 ·have h1:((cl:Int) == 0) = false:=by rw [beq_eq_false_iff_ne];omega
  have HQ:Hid (r = false):=by show r = false;rw [HF.out,decide_eq_false hc];rfl
  have h2:¬ (cl:Int) = 0:=by omega
  clear HF
  go_enter Tryz.func14,Tryz.ntmps14
  go_wp2_with fail
  go_ret
  exact Lf.retb HQ.out.symm (gBq _)
def keptT (T:Ty):Bool:=gYq T && storeT T
theorem isKept_any {w:World} {T:Ty} {v:Value} (hT:LiesT (fun _=>True) w T v) (W:World) (hW:w.grownBy W none) :
 Calls Tryz.prog 27 #[v] W fun e w'=>e = .returned (.bool (keptT T)) /\ W.grownBy w' none:=by
 have H1:=jh (fun W2 (h:W.grownBy W2 none)=>kgood_any (LiesT.up hT (gTq hW h)))
 have H2:=jh (fun (hg:gYq T = true) W2 (h:W.grownBy W2 none)=>stored_any (LiesT.up hT (gTq hW h)) (by have:=(goodTy_formed hg).2.1;omega))
 obtain ⟨a,c,V,rfl,it,hR⟩:=hT.inv
 have HB:=jh (heap_alloc_new W (.cells #[.int .i64 T.t,.slice a T.args.length c] 24))
 have HK:Hid (keptT T = (gYq T && storeT T)):=rfl
 generalize keptT T = r at *
 clear hT hW it hR
 unfold tyV at *
 cases hg:gYq T with
 | false =>
  rw [hg] at H1 HK
  go_enter Tryz.func27,Tryz.ntmps27
  go_wp2_with ((go_at_call 37;refine (H1.out _ (gBq _)).mono ?_;rintro e w1 ⟨rfl,hg⟩;have HG:=jh (gTq (gBq _) hg);clear hg))
  go_ret
  exact Lf.retb HK.out.symm HG.out
 | true =>
  replace H2:=jh (H2.out hg)
  rw [hg] at H1 HK
  generalize storeT T = q at *
  go_enter Tryz.func27,Tryz.ntmps27
  go_wp2_with (first
   | (go_at_call 37;refine (H1.out _ (gBq _)).mono ?_;rintro e w1 ⟨rfl,hg⟩;have HG:=jh (gTq (gBq _) hg);have z0:=c0q (kBq HB.out hg);have z1:=c1q (kBq HB.out hg);clear hg)
   | (go_at_call 38;refine (H2.out _ HG.out).mono ?_;rintro e w2 ⟨rfl,hg⟩;have HG2:=jh (gTq HG.out hg);clear hg))
  go_ret
  exact Lf.retb (by rw [HK.out];rfl) HG2.out
def leadsF (f:Bool) (ts:List Ty) (T:Ty):Bool:=f || (match ts with
 | [t]=>sameT t T
 | _=>false)
theorem leadsF_no {ts:List Ty} {T:Ty} (h:ts.length ≠ 1):leadsF false ts T = false:=by
 unfold leadsF
 match ts,h with
 | [],_=>rfl
 | [_],h=>simp at h
 | _ :: _ :: _,_=>rfl
theorem leads_any {w:World} {ts:List Ty} {a:Option Addr} {l c:Nat} {f:Bool} {T:Ty} {v:Value} (hr:RowC w ts (.slice a l c)) (hT:LiesT (fun _=>True) w T v) (hz:∀ t ∈ ts,t.size <= 50000000) (W:World) (hW:w.grownBy W none) :
 Calls Tryz.prog 30 #[.agg #[.slice a l c,.bool f],v] W fun e w'=>e = .returned (.bool (leadsF f ts T)) /\ W.grownBy w' none:=by
 obtain ⟨a2,c2,V2,rfl,it2,hR2⟩:=hT.inv
 obtain ⟨hl,hlc,hlm⟩:=hr.len
 subst hl
 have hgW:=gTq (gBq (w:=W) (.cells #[.slice a ts.length c,.bool f] 62)) (gBq (.cells #[.int .i64 T.t,.slice a2 T.args.length c2] 24))
 have HA:=jh (rNw W (.cells #[.slice a ts.length c,.bool f] 62) (.cells #[.int .i64 T.t,.slice a2 T.args.length c2] 24))
 have hB:=heap_alloc_new (W.alloc (.cells #[.slice a ts.length c,.bool f] 62)) (.cells #[.int .i64 T.t,.slice a2 T.args.length c2] 24)
 rw [show (W.alloc (.cells #[.slice a ts.length c,.bool f] 62)).heap.size = W.heap.size + 1 from by simp] at hB
 have HB:=jh hB
 have HG:=jh hgW
 have HL:Hid (leadsF f ts T = leadsF f ts T):=rfl
 have HR:=jh (hr.grow (gTq hW hgW))
 have HT:=jh (hT.same (sAl (gTq hW hgW)))
 have HZ:=jh hz
 clear hR2 it2 hgW hB hr hT hW hz
 unfold tyV at *
 cases f with
 | true =>
  go_enter Tryz.func30,Tryz.ntmps30
  go_wp2_with fail
  generalize (W.alloc _).alloc _ = W3 at *
  have K:=fun (w':World) (h:W3.grownBy w' none)=>And.intro (c0q (kBq HA.out h)) (c1q (kBq HA.out h))
  refine wp_region_held_drew (S:=fun w'=>W3.grownBy w' none) (by kernel_rfl) ?_ (fun hHeld=>?_)
  ·exact gDr (gRf _ _)
  refine rGq 0 5 ?_
  refine rGq 1 6 ?_
  refine rGq 2 7 ?_
  refine rNq 3 8 ?_
  refine rNq 4 9 ?_
  refine rNq 5 10 ?_
  refine rNq 6 11 ?_
  refine rNq 7 12 ?_
  refine rNq 8 13 ?_
  refine rNq 9 14 ?_
  refine rNq 10 15 ?_
  refine rNq 11 16 ?_
  refine rNq 12 17 ?_
  refine rNq 13 18 ?_
  refine rNq 14 19 ?_
  refine rGq 15 20 ?_
  refine rGq 16 4 ?_
  refine wpAnyH_done (by kernel_rfl) ?_ _
  clear K
  go_wp2_with fail
  go_ret
  exact ⟨rfl,gTq HG.out hHeld⟩
 | false =>
  by_cases h1:ts.length = 1
  ·obtain ⟨t,rfl⟩:∃ t,ts = [t]:=List.length_eq_one_iff.1 h1
   obtain ⟨b,o,c',t0,a0,l0,k0,e0,hc,x0,x1,hA⟩:=HR.out.cons
   simp only [Value.slice.injEq] at e0
   obtain ⟨rfl,_,rfl⟩:=e0
   have HA0:=jh hA
   have HZ1:=jh (HZ.out t (by simp))
   have HQ:Hid (leadsF false [t] T = sameT t T):=rfl
   generalize leadsF false [t] T = r at *
   have X0:=jh x0
   have X1:=jh x1
   clear hA HZ x0 x1
   simp only [List.length_cons,List.length_nil,Nat.zero_add] at *
   go_enter Tryz.func30,Tryz.ntmps30
   go_wp2_with fail
   generalize (W.alloc _).alloc _ = W3 at *
   have K:=fun (w':World) (h:W3.grownBy w' none)=>And.intro (c0q (kBq HA.out h)) (And.intro (c1q (kBq HA.out h)) (And.intro (c0q (kBq HB.out h)) (And.intro (c1q (kBq HB.out h)) (And.intro (kNq h X0.out) (kNq h X1.out)))))
   go_region_held3 (fun w'=>W3.grownBy w' none) (first | with_reducible assumption | with_reducible exact gDr (gRf _ _)) (first
    | (go_at_call 16;refine (same_any (HA0.out.same (sAl (by assumption))).low (HT.out.same (sAl (by assumption))).low HZ1.out).mono ?_;rintro e w1 ⟨rfl,hg⟩;have hS:=gTq (by assumption) hg))
   all_goals
    go_wp2_with fail
    go_ret
    exact Lf.retb HQ.out.symm (gTq HG.out (by assumption))
  ·have HQ:=jh (leadsF_no (T:=T) h1)
   generalize leadsF false ts T = r at *
   have h3:((ts.length:Int) == 1) = false:=by rw [beq_eq_false_iff_ne];omega
   have h4:¬ (ts.length:Int) = 1:=by omega
   go_enter Tryz.func30,Tryz.ntmps30
   go_wp2_with fail
   generalize (W.alloc _).alloc _ = W3 at *
   have K:=fun (w':World) (h:W3.grownBy w' none)=>And.intro (c0q (kBq HA.out h)) (c1q (kBq HA.out h))
   refine wp_region_held_drew (S:=fun w'=>W3.grownBy w' none) (by kernel_rfl) ?_ (fun hHeld=>?_)
   ·exact gDr (gRf _ _)
   refine rGq 0 5 ?_
   refine rGq 1 6 ?_
   refine rGq 2 7 ?_
   refine rGq 3 8 ?_
   refine rGq 4 9 ?_
   refine rGq 5 10 ?_
   refine rGq 6 11 ?_
   refine rGq 7 12 ?_
   refine rNq 8 13 ?_
   refine rNq 9 14 ?_
   refine rNq 10 15 ?_
   refine rNq 11 16 ?_
   refine rNq 12 17 ?_
   refine rNq 13 18 ?_
   refine rGq 14 19 ?_
   refine rGq 15 20 ?_
   refine rGq 16 4 ?_
   refine wpAnyH_done (by kernel_rfl) ?_ _
   clear K
   go_wp2_with fail
   go_ret
   exact Lf.retb HQ.out.symm (gTq HG.out hHeld)
mutual
def vsum:Va -> Nat
 | .mk _ _ _ s args _ _=>s.size / 8 + 1 + vsums args
def vsums:List Va -> Nat
 | []=>0
 | x :: xs=>vsum x + vsums xs
end
theorem vsum_eq (x:Va):vsum x = x.s.size / 8 + 1 + vsums x.args:=by cases x;rw [vsum];rfl
def pushS:List Va -> List (List Va)
 | []=>[]
 | x :: xs=>(if x.args.length = 0 then [] else [x.args]) ++ pushS xs
theorem pushS_snoc (l:List Va) (x:Va):pushS (l ++ [x]) = pushS l ++ (if x.args.length = 0 then [] else [x.args]):=by
 induction l with
 | nil=>simp [pushS]
 | cons y l ih=>simp [pushS,ih]
def stkS (M:List (List Va)):Nat:=(M.map vsums).sum
def leftS (M:List (List Va)):Nat:=(M.map fun l=>vsizes l + 1).sum
theorem stkS_append (a b:List (List Va)):stkS (a ++ b) = stkS a + stkS b:=by simp [stkS]
theorem stkS_one (l:List Va):stkS [l] = vsums l:=by simp [stkS]
theorem leftS_append (a b:List (List Va)):leftS (a ++ b) = leftS a + leftS b:=by simp [leftS]
theorem leftS_one (l:List Va):leftS [l] = vsizes l + 1:=by simp [leftS]
theorem len_leftS (M:List (List Va)):M.length <= leftS M:=by
 induction M with
 | nil=>simp
 | cons r l ih=>simp only [leftS,List.map_cons,List.sum_cons,List.length_cons] at ih ⊢;omega
theorem pushS_left (l:List Va):leftS (pushS l) <= vsizes l:=by
 induction l with
 | nil=>simp [pushS,leftS,vsizes]
 | cons x l ih =>
  have h:=vsize_eq x
  rw [pushS,leftS_append,vsizes]
  split
  ·simp [leftS] at ih ⊢;omega
  ·rw [leftS_one];omega
theorem MapsOk.last {w:World} {us:List Value} {u:Value} : ∀ {M:List (List Va)},MapsOk w M (us ++ [u]) -> ∃ M' l,M = M' ++ [l] /\ MapsOk w M' us /\ ∃ a c V,u = .slice a l.length c /\ RowVa (fun _=>True) w l a V /\ vsizes l <= 20000000:=by
 induction us with
 | nil =>
  intro M h
  match M,h with
  | [r],h=>exact ⟨[],r,rfl,trivial,h.1⟩
  | r :: r2 :: rs,h=>exact h.2.elim
  | [],h=>exact h.elim
 | cons x us ih =>
  intro M h
  match M,h with
  | r :: rs,h =>
   obtain ⟨M',l,rfl,h1,h2⟩:=ih h.2
   exact ⟨r :: M',l,rfl,⟨h.1,h1⟩,h2⟩
  | [],h=>exact h.elim
theorem wrap_at (a b:Int):wrap64 (wrap64 a + b) = wrap64 (a + b):=by unfold wrap64;omega
theorem wrap_idem (a:Int):wrap64 (wrap64 a) = wrap64 a:=by unfold wrap64;omega
def SzRel (W:World) (R:Int) (N n:Nat) (sv tv:Value) (wr:World):Prop :=
 ∃ (us:List Value) (M:List (List Va)) (a:Int),OwnsV W.heap.size wr tv us /\ MapsOk W M us /\ leftS M = n /\ n <= N /\ sv = .int .i64 a /\ wrap64 a = a /\ wrap64 (a + (stkS M:Nat)) = R /\ W.grownBy wr none
def SzIn (W:World) (R:Int) (M':List (List Va)) (l:List Va) (j:Nat) (sv tv:Value) (wr:World):Prop :=
 ∃ (us:List Value) (a:Int),OwnsV W.heap.size wr tv us /\ MapsOk W (M' ++ pushS (l.take j)) us /\ sv = .int .i64 a /\ wrap64 a = a /\ wrap64 (a + ((stkS (M' ++ pushS (l.take j)) + vsums (l.drop j):Nat):Int)) = R /\ W.grownBy wr none
theorem vsums_drop (l:List Va) (j:Nat) (h:j < l.length):vsums (l.drop j) = vsum l[j] + vsums (l.drop (j + 1)):=by
 rw [List.drop_eq_getElem_cons h,vsums]
theorem take_left (l:List Va) (j:Nat):leftS (pushS (l.take j)) <= vsizes l:=by
 refine Nat.le_trans (pushS_left _) ?_
 have h:=vsizes_append (l.take j) (l.drop j)
 rw [List.take_append_drop] at h
 omega
theorem partsV {ok:Nat -> Prop} {w:World} {x:Va} {k n a:Int} {s:ByteArray} {aa:Option Addr} {al ac:Nat} {ta:Option Addr} {tl tc:Nat} {na:Option Addr} {nl nc:Nat} (h:LiesV ok w x (vaV k n a s aa al ac ta tl tc na nl nc)) :
 s = x.s /\ s.size <= maxLen /\ al = x.args.length /\ ∃ V,RowVa ok w x.args aa V:=by
 obtain ⟨aa',ac',ta',tc',na',nc',V,VT,VN,hv,⟨_,_,_,hs,hlc⟩,hR,_,_⟩:=h.inv
 unfold vaV at hv
 simp only [Value.agg.injEq,Array.mk.injEq,List.cons.injEq,Value.int.injEq,Value.string.injEq,Value.slice.injEq,true_and,and_true] at hv
 obtain ⟨_,_,_,rfl,⟨rfl,rfl,rfl⟩,_⟩:=hv
 exact ⟨rfl,hs,rfl,V,hR⟩
theorem size_any {w:World} {x:Va} {v:Value} (hV:LiesV (fun _=>True) w x v) (hz:x.size <= 20000000) (W:World) (hW:w.grownBy W none) :
 Calls Tryz.prog 20 #[v] W fun e w'=>e = .returned (.int .i64 (wrap64 (vsum x:Nat))) /\ W.grownBy w' none:=by
 obtain ⟨k1,n1,a1,s1,aa1,al1,ac1,ta1,tl1,tc1,na1,nl1,nc1,rfl⟩:=hV.vaV
 have HV:=jh (LiesV.up hV hW)
 have HZ:=jh hz
 clear hV hz hW
 generalize hR:wrap64 (vsum x:Nat) = R
 have HR:=jh hR
 clear hR
 unfold vaV at *
 go_enter Tryz.func20,Tryz.ntmps20
 go_wp2_with fail
 have hb1:=new_twoI W (.cells #[.int .i64 k1,.int .i64 n1,.int .i64 a1,.string s1,.slice aa1 al1 ac1,.slice ta1 tl1 tc1,.slice na1 nl1 nc1] 28) (.cells #[.int .i64 k1,.int .i64 n1,.int .i64 a1,.string s1,.slice aa1 al1 ac1,.slice ta1 tl1 tc1,.slice na1 nl1 nc1] 28)
 have hsz:((W.alloc (.cells #[.int .i64 k1,.int .i64 n1,.int .i64 a1,.string s1,.slice aa1 al1 ac1,.slice ta1 tl1 tc1,.slice na1 nl1 nc1] 28)).alloc (.cells #[.int .i64 k1,.int .i64 n1,.int .i64 a1,.string s1,.slice aa1 al1 ac1,.slice ta1 tl1 tc1,.slice na1 nl1 nc1] 28)).heap.size = W.heap.size + 1 + 1:=by simp
 have hgm:W.grownBy ((W.alloc (.cells #[.int .i64 k1,.int .i64 n1,.int .i64 a1,.string s1,.slice aa1 al1 ac1,.slice ta1 tl1 tc1,.slice na1 nl1 nc1] 28)).alloc (.cells #[.int .i64 k1,.int .i64 n1,.int .i64 a1,.string s1,.slice aa1 al1 ac1,.slice ta1 tl1 tc1,.slice na1 nl1 nc1] 28)) none:=gTq (gBq _) (gBq _)
 generalize (W.alloc _).alloc _ = Wm at *
 have HGM:=jh hgm
 have HSZ:=jh hsz
 have HROW:=jh (rowOneV hb1 (LiesV.up HV.out hgm))
 obtain ⟨μ,hμ⟩:=least_of (fun n (p:Value × Value × World)=>SzRel Wm R (x.size + 1) n p.1 p.2.1 p.2.2)
 have HM:=jh hμ
 clear hgm hsz hb1 hμ
 go_loopw [3,4] (fun sv tv wr=>∃ n,SzRel Wm R (x.size + 1) n sv tv wr) (fun sv tv wr=>μ (sv,tv,wr))
 case atStart =>
  refine ⟨_,[.slice (some ⟨W.heap.size + 1,0,none⟩) 1 1],[[x]],0,?_,⟨⟨_,_,_,rfl,HROW.out,by have:=HZ.out;simp [vsizes];omega⟩,trivial⟩,rfl,by rw [leftS_one];simp [vsizes],rfl,by simp [wrap64],by rw [← HR.out,stkS_one];simp [vsums],gBq _⟩
  refine ⟨rfl,.inr ⟨W.heap.size + 1 + 1,1,#[.slice (some ⟨W.heap.size + 1,0,none⟩) 1 1],rfl,by have:=HSZ.out;omega,?_,Nat.le_refl _,by decide,rfl,rfl⟩⟩
  rw [← HSZ.out]
  exact heap_alloc_new _ _
 case round =>
  obtain ⟨n0,hn0⟩:=hrel
  obtain ⟨us,M,a,hown,hrows,hn,hle,hsv,hwa,hR,hg⟩:=(HM.out (u3,u4,wr) n0 hn0).1
  simp only at hown hsv hg
  subst hsv
  have hz:=HZ.out
  clear hn0
  by_cases hv:us.length = 0
  ·obtain ⟨a0,cc0,rfl⟩:=own_empty hown hv
   have hrl:=hrows.len
   have hr0:M = []:=List.length_eq_zero_iff.1 (by omega)
   have hres:R = a:=by rw [← hR,hr0];simpa [stkS] using hwa
   have HRE:=jh hres
   have HG:=jh (gTq HGM.out hg)
   clear hown hrows hn hle hR hg hres hr0 hrl hv HM hwa HV HROW HR
   go_wp2_with fail
   go_ret
   exact Lf.reti HRE.out.symm HG.out
  ·have hne:us ≠ []:=fun e=>hv (by rw [e];rfl)
   have e1:=(List.dropLast_concat_getLast hne).symm
   generalize us.dropLast = us' at e1
   generalize us.getLast hne = u at e1
   subst e1
   obtain ⟨M',l,rfl,hrows',ai,ci,Vi,rfl,hRl,hzl⟩:=hrows.last
   have hlv:(us' ++ [Value.slice ai l.length ci]).length = us'.length + 1:=by simp
   have hform:=World.ownsRow.form hown (by simp)
   rw [hlv] at hform
   obtain ⟨g,cap,rfl,hgB,hglt⟩:=hform
   unfold OwnsV at hown
   rw [hlv] at hown
   have hcap:=oCq hown
   have hcap1:us'.length <= cap:=by omega
   have d0:=World.ownsRow.cells hown (g:=g) rfl us'.length (.slice ai l.length ci) (by simp)
   rw [add_none,Nat.zero_add] at d0
   have HCUT:=jh (own_cut hown)
   have hl1:=hRl.1
   unfold maxLen at hl1
   rw [leftS_append,leftS_one] at hn
   rw [stkS_append,stkS_one] at hR
   have HRL:=jh hRl
   have HROWS:=jh hrows'
   have HN:=jh hn
   have HLE:=jh hle
   have HRR:=jh hR
   have HG:=jh hg
   have HWA:=jh hwa
   have hML:us'.length = M'.length:=hrows'.len
   have hul:us'.length <= 20000001:=by
    have h1:=len_leftS M'
    omega
   have HML:=jh hML
   obtain ⟨mu0,hmu0⟩:∃ m0,m0 = μ (.int .i64 a,.slice (some ⟨g,0,none⟩) (us'.length + 1) cap,wr):=⟨_,rfl⟩
   have HMU:=jh hmu0
   rw [← hmu0] at HN HLE
   clear hmu0
   clear hown hrows hrows' hRl hn hle hR hg hne hv hcap hlv hwa hzl hML
   go_wp2_with fail
   go_loopw [3,4,27] (fun sv tv iv wz=>∃ j:Nat,j <= l.length /\ iv = .int .i64 j /\ SzIn Wm R M' l j sv tv wz) (fun _ _ iv _=>l.length - (intOf iv).toNat)
   case atStart =>
    refine ⟨0,Nat.zero_le _,rfl,us',a,HCUT.out,by simpa [pushS] using HROWS.out,rfl,HWA.out,?_,HG.out⟩
    simpa [pushS] using HRR.out
   case round =>
    obtain ⟨j,hj,rfl,us2,a2,hown,hrows,rfl,hwa,hR,hg⟩:=hrel
    by_cases hlt:j < l.length
    ·obtain ⟨b1,o1,rfl,_,k3,n3,a3,s3,aa3,al3,ac3,ta3,tl3,tc3,na3,nl3,nc3,hv1,e0,e1,e2,e3,e4,e5,e6⟩:=(HRL.out.2.1 j hlt).same (sAl hg)
     have hLe:=HRL.out.2.2 j hlt
     rw [hv1] at hLe
     obtain ⟨es,hs3,el,VA,hRA⟩:=partsV hLe
     have hve:=vsize_eq l[j]
     have hvm:(l[j]).size <= vsizes l:=vsize_mem (List.getElem_mem hlt)
     have hsum:=vsum_eq l[j]
     rw [← es] at hsum
     rw [vsums_drop l j hlt,hsum] at hR
     have hpush:=pushS_snoc (l.take j) l[j]
     rw [← List.take_succ_eq_append_getElem hlt] at hpush
     have hleft:=take_left l j
     have hlen2:us2.length <= 50000000:=by
      have h1:=hrows.len
      have h2:=len_leftS (M' ++ pushS (l.take j))
      rw [leftS_append] at h2
      have h3:=HN.out
      have h4:=HLE.out
      omega
     have hvz:vsizes (l[j]).args <= 20000000:=by
      have h3:=HN.out
      have h4:=HLE.out
      omega
     have hB2:Wm.heap.size <= wr.heap.size:=hg.size
     have HGM2:=jh hg
     unfold maxLen at hs3
     have hW2:wr.grownBy (wr.alloc (.cells #[.int .i64 k3,.int .i64 n3,.int .i64 a3,.string s3,.slice aa3 al3 ac3,.slice ta3 tl3 tc3,.slice na3 nl3 nc3] 28)) none:=gBq _
     have HO2:=jh (World.ownsRow.alloc hown (.cells #[.int .i64 k3,.int .i64 n3,.int .i64 a3,.string s3,.slice aa3 al3 ac3,.slice ta3 tl3 tc3,.slice na3 nl3 nc3] 28))
     have HG2:=jh (gTq hg hW2)
     have HR:=jh hR
     have HROWS2:=jh hrows
     have HRA:=jh hRA
     have HVZ:=jh hvz
     have HWA2:=jh hwa
     have HEL:=jh el
     have HP:=jh hpush
     have w2:(j:Int) < (l.length:Int):=by omega
     clear hR hrows hRA hvz hwa hv1 hLe hve hvm hsum hpush hleft hg hown hW2 es el
     by_cases ha:al3 = 0
     ·have HA:=jh ha
      subst ha
      clear hlen2 hB2
      go_wp2_with fail
      go_roundw
      case rel =>
       have hp:pushS (l.take (j + 1)) = pushS (l.take j):=by rw [HP.out,if_pos HEL.out.symm,List.append_nil]
       refine ⟨j + 1,by omega,by go_num,us2,_,HO2.out,by rw [hp];exact HROWS2.out,rfl,?_,?_,HG2.out⟩
       ·exact wrap_idem _
       ·have hA:(l[j]).args = []:=List.eq_nil_of_length_eq_zero HEL.out.symm
        have h:=HR.out
        rw [hA] at h
        simp only [vsums] at h
        rw [hp,wrap_at,← h]
        congr 1
        omega
      case measure=>simp [intOf];omega
     ·have ha1:(0:Int) < (al3:Int):=by omega
      have HBB:=jh HG2.out.size
      have HL2:=jh hlen2
      have HNE:Hid (¬ (l[j]).args.length = 0):=by have:=HEL.out;show ¬ _;omega
      have HROW:Hid (∃ a c V,(Value.slice aa3 al3 ac3) = .slice a (l[j]).args.length c /\ RowVa (fun _=>True) Wm (l[j]).args a V /\ vsizes (l[j]).args <= 20000000):=⟨aa3,ac3,VA,by rw [HEL.out],HRA.out,HVZ.out⟩
      clear ha hlen2 hB2
      go_wp2_with (at_builtin;refine appV Wm.heap.size us2 aa3 al3 ac3 (wr.alloc (.cells #[.int .i64 k3,.int .i64 n3,.int .i64 a3,.string s3,.slice aa3 al3 ac3,.slice ta3 tl3 tc3,.slice na3 nl3 nc3] 28)) u4 rfl _ _ rfl rfl rfl (by simp) HO2.out HBB.out HL2.out ?_;intro v' w9 ho' hg';have HO9:=jh ho';have HG9:=jh (grow_own HG2.out HO2.out (Nat.le_refl _) hg'.1);clear ho' hg')
      go_roundw
      case rel =>
       have hp:pushS (l.take (j + 1)) = pushS (l.take j) ++ [(l[j]).args]:=by rw [HP.out,if_neg HNE.out]
       refine ⟨j + 1,by omega,by go_num,us2 ++ [.slice aa3 al3 ac3],_,HO9.out,by rw [hp,← List.append_assoc];exact MapsOk.snoc HROW.out HROWS2.out,rfl,?_,?_,HG9.out⟩
       ·exact wrap_idem _
       ·have h:=HR.out
        rw [hp,← List.append_assoc,stkS_append (_ ++ _),stkS_one,wrap_at,← h]
        congr 1
        omega
      case measure=>simp [intOf];omega
    ·have hj2:j = l.length:=by omega
     have hj3:¬ (j:Int) < (l.length:Int):=by omega
     have hM2:MapsOk Wm (M' ++ pushS l) us2:=by rw [hj2,List.take_length] at hrows;exact hrows
     have hR2:wrap64 (a2 + (stkS (M' ++ pushS l):Nat)) = R:=by rw [hj2,List.take_length,List.drop_length] at hR;simpa [vsums] using hR
     have HNX:Hid (∃ m,m < mu0 /\ SzRel Wm R (x.size + 1) m (.int .i64 a2) u4 wr):=by
      have h1:=pushS_left l
      have h2:=HN.out
      have h3:=HLE.out
      refine ⟨leftS (M' ++ pushS l),by rw [leftS_append];omega,us2,M' ++ pushS l,a2,hown,hM2,rfl,by rw [leftS_append];omega,rfl,hwa,hR2,hg⟩
     clear hR hrows hown hwa hg hM2 hR2
     go_wp2_with fail
     obtain ⟨m,h1,h2⟩:=HNX.out
     rw [HMU.out] at h1
     go_roundw
     case rel=>exact ⟨m,h2⟩
     case measure=>exact Nat.lt_of_le_of_lt (HM.out _ m h2).2 h1
def opsTy (S:Ty):Ty:=.nd 11 [.nd 10 [.nd 8 []],S]
def scriptF (P S:Ty) (n:Tr):Int:=if keptT P = true /\ keptT S = true then (match codeF n [.nd 11 [P,S]] with
 | .no e=>e
 | .ok f ts=>if leadsF f ts (opsTy S) = true then 0 else 5) else 5
def meansF (v:Va):Bool:=match codeF (.nd 3 0 0 ⟨#[]⟩ v.code) (v.types.take 1) with
 | .no _=>false
 | .ok f ts=>leadsF f ts (tAq v.types 1) && !mintsTs v.code
mutual
def lamsF:Va -> Bool
 | .mk k n a s args types code=>(!decide (k = 14) || meansF (.mk k n a s args types code)) && lamsFs args
def lamsFs:List Va -> Bool
 | []=>true
 | x :: xs=>lamsF x && lamsFs xs
end
def fitsL (T:Ty) (v:Va):Bool:=hasF T v && lamsF v
def codeOf (A:Acc):Tr:=.nd 3 0 0 ⟨#[]⟩ A.code
def scriptedF (A:Acc):Bool:=decide (scriptF A.par A.sto (codeOf A) = 0) && fitsL A.sto A.val && decide (wrap64 (vsum A.val:Nat) <= 200)
def Asked (w:World) (A:Acc) (c:Array Value):Prop :=
 ∃ pt pa pl pc st sa sl sc na nl nc k n a s aa al ac ta tl tc ma ml mc,c = accC A.is A.bal A.cnt pt pa pl pc st sa sl sc na nl nc k n a s aa al ac ta tl tc ma ml mc /\
  Say 18 #[tyV pt pa pl pc,tyV st sa sl sc,nodeV 3 0 0 ⟨#[]⟩ na nl nc] w (.int .i64 (scriptF A.par A.sto (codeOf A))) /\
  Say 19 #[tyV st sa sl sc,vaV k n a s aa al ac ta tl tc ma ml mc] w (.bool (fitsL A.sto A.val)) /\
  Say 20 #[vaV k n a s aa al ac ta tl tc ma ml mc] w (.int .i64 (wrap64 (vsum A.val:Nat)))
theorem Say.up {f:Nat} {args:Array Value} {W W1:World} {v:Value} (h:Say f args W v) (hg:W.grownBy W1 none):Say f args W1 v:=fun W2 h2=>h W2 (gTq hg h2)
theorem scripted_any {w:World} {A:Acc} {c:Array Value} (hA:Asked w A c) (W:World) (hW:w.grownBy W none) :
 Calls Tryz.prog 15 #[.agg c] W fun e w'=>e = .returned (.bool (scriptedF A)) /\ W.grownBy w' none:=by
 obtain ⟨pt,pa,pl,pc,st,sa,sl,sc,na,nl,nc,k,n,a,s,aa,al,ac,ta,tl,tc,ma,ml,mc,rfl,S1,S2,S3⟩:=hA
 have HF:Hid (scriptedF A = (decide (scriptF A.par A.sto (codeOf A) = 0) && fitsL A.sto A.val && decide (wrap64 (vsum A.val:Nat) <= 200))):=rfl
 generalize scriptedF A = r at *
 generalize scriptF A.par A.sto (codeOf A) = e1 at *
 generalize fitsL A.sto A.val = b2 at *
 generalize wrap64 (vsum A.val:Nat) = z3 at *
 unfold tyV vaV nodeV at *
 have HG:=jh (gTq (gBq (w:=W) (.cells (accC A.is A.bal A.cnt pt pa pl pc st sa sl sc na nl nc k n a s aa al ac ta tl tc ma ml mc) 30)) (gBq (.cells #[.int .i64 3,.int .i64 0,.int .i64 0,.string ⟨#[]⟩,.slice na nl nc] 48)))
 have HB:=jh (rNw W (.cells (accC A.is A.bal A.cnt pt pa pl pc st sa sl sc na nl nc k n a s aa al ac ta tl tc ma ml mc) 30) (.cells #[.int .i64 3,.int .i64 0,.int .i64 0,.string ⟨#[]⟩,.slice na nl nc] 48))
 have H1:=jh ((S1.up hW).at HG.out)
 have H2:=jh ((S2.up hW).at HG.out)
 have H3:=jh ((S3.up hW).at HG.out)
 have hB5:=heap_alloc_new (W.alloc (.cells (accC A.is A.bal A.cnt pt pa pl pc st sa sl sc na nl nc k n a s aa al ac ta tl tc ma ml mc) 30)) (.cells #[.int .i64 3,.int .i64 0,.int .i64 0,.string ⟨#[]⟩,.slice na nl nc] 48)
 rw [World.size_alloc] at hB5
 have HB5:=jh hB5
 clear S1 S2 S3 hW hB5
 unfold accC at *
 have hz:(e1 = 0 /\ (e1 == 0) = true) \/ (¬ e1 = 0 /\ (e1 == 0) = false):=by
  by_cases h:e1 = 0
  ·exact .inl ⟨h,by simpa using h⟩
  ·exact .inr ⟨h,by simpa using h⟩
 have hy:z3 <= 200 \/ ¬ z3 <= 200:=by omega
 go_enter Tryz.func15,Tryz.ntmps15
 go_upto_region 2 with (fail)
 generalize (W.alloc _).alloc _ = W1 at *
 have K:=fun (w':World) (h:W1.grownBy w' none)=>And.intro (box15 (kBq HB.out h)) (box5 (kBq HB5.out h))
 have hS0:W1.grownBy W1 none:=gRf _ _
 rcases hz with ⟨rfl,_⟩ | ⟨hz1,hz2⟩ <;> cases b2 <;> rcases hy with hy | hy
 all_goals
  go_wp2_with (first
   | (go_at_call 18;with_reducible refine (H1.out _ (by assumption)).mono ?_;rintro e w1 ⟨rfl,hS1⟩)
   | (go_at_call 19;with_reducible refine (H2.out _ (by assumption)).mono ?_;rintro e w1 ⟨rfl,hS1⟩)
   | (go_at_call 20;with_reducible refine (H3.out _ (by assumption)).mono ?_;rintro e w2 ⟨rfl,hS1⟩))
  go_ret
  refine Lf.retb ?_ (gTq HG.out (by assumption))
  rw [HF.out]
  simp [*]
def wholeF (A:Acc):Bool :=
 if A.is = 0 then decide (A.bal = 0) && decide (A.cnt = 0) && bareF A
 else if A.is = 1 then amtB A.cnt && bareF A
 else if A.is = 2 then decide (A.cnt = 0) && scriptedF A else false
theorem beq_or (a b:Int):(a = b /\ (a == b) = true) \/ (¬ a = b /\ (a == b) = false):=by
 by_cases h:a = b
 ·exact .inl ⟨h,by simpa using h⟩
 ·exact .inr ⟨h,by simpa using h⟩
theorem whole_any {w:World} {A:Acc} {c:Array Value} (hA:AccV w A c) (hK:Asked w A c) (hS:Small A) (W:World) (hW:w.grownBy W none) :
 Calls Tryz.prog 11 #[.agg c] W fun e w'=>e = .returned (.bool (wholeF A)) /\ W.grownBy w' none:=by
 have S1:Say 14 #[.agg c] W (.bool (bareF A)):=fun W2 h=>bare_any hA hS W2 (gTq hW h)
 have S2:Say 15 #[.agg c] W (.bool (scriptedF A)):=fun W2 h=>scripted_any hK W2 (gTq hW h)
 obtain ⟨pt,pa,pl,pc,st,sa,sl,sc,na,nl,nc,k,n,a,s,aa,al,ac,ta,tl,tc,ma,ml,mc,VN,rfl,hrest⟩:=hA
 clear hrest
 have HF:Hid (wholeF A = if A.is = 0 then decide (A.bal = 0) && decide (A.cnt = 0) && bareF A
  else if A.is = 1 then amtB A.cnt && bareF A
  else if A.is = 2 then decide (A.cnt = 0) && scriptedF A else false):=rfl
 have HG:=jh (gBq (w:=W) (.cells (accC A.is A.bal A.cnt pt pa pl pc st sa sl sc na nl nc k n a s aa al ac ta tl tc ma ml mc) 30))
 have HB:=jh (heap_alloc_new W (.cells (accC A.is A.bal A.cnt pt pa pl pc st sa sl sc na nl nc k n a s aa al ac ta tl tc ma ml mc) 30))
 have H1:=jh (S1.at HG.out)
 have H2:=jh (S2.at HG.out)
 have H3:=jh amt_any
 clear S1 S2 hW hK hS
 generalize wholeF A = r at *
 generalize bareF A = b1 at *
 generalize scriptedF A = b2 at *
 have q0:=beq_or A.is 0
 have q1:=beq_or A.is 1
 have q2:=beq_or A.is 2
 have q3:=beq_or A.bal 0
 have q4:=beq_or A.cnt 0
 generalize A.is = is at *
 generalize A.bal = bal at *
 generalize A.cnt = cnt at *
 unfold accC at *
 go_enter Tryz.func11,Tryz.ntmps11
 go_upto_region 1 with (fail)
 generalize W.alloc _ = W1 at *
 have K:=fun (w':World) (h:W1.grownBy w' none)=>box15 (kBq HB.out h)
 have hS0:W1.grownBy W1 none:=gRf _ _
 clear HB
 rcases q0 with ⟨rfl,_⟩ | ⟨z0,z0'⟩
 ·rcases q3 with ⟨rfl,_⟩ | ⟨z3,z3'⟩ <;> rcases q4 with ⟨rfl,_⟩ | ⟨z4,z4'⟩ <;> cases b1
  all_goals
   go_wp2_with (first
    | (go_at_call 14;with_reducible refine (H1.out _ (by assumption)).mono ?_;rintro e w1 ⟨rfl,hS1⟩))
   go_ret
   refine Lf.retb ?_ (gTq HG.out (by assumption))
   rw [HF.out]
   simp [*]
 ·rcases q1 with ⟨rfl,_⟩ | ⟨z1,z1'⟩
  ·cases hb:amtB cnt <;> cases b1
   all_goals
    rw [hb] at HF
    go_wp2_with (first
     | (go_at_call 9;refine (H3.out _ _).mono ?_;rw [hb];rintro e w1 ⟨rfl,rfl⟩)
     | (go_at_call 14;with_reducible refine (H1.out _ (by assumption)).mono ?_;rintro e w1 ⟨rfl,hS1⟩))
    go_ret
    refine Lf.retb ?_ (gTq HG.out (by assumption))
    rw [HF.out]
    simp [*]
  ·rcases q2 with ⟨rfl,_⟩ | ⟨z2,z2'⟩
   ·rcases q4 with ⟨rfl,_⟩ | ⟨z4,z4'⟩ <;> cases b2
    all_goals
     go_wp2_with (first
      | (go_at_call 15;with_reducible refine (H2.out _ (by assumption)).mono ?_;rintro e w1 ⟨rfl,hS1⟩))
     go_ret
     refine Lf.retb ?_ (gTq HG.out (by assumption))
     rw [HF.out]
     simp [*]
   ·go_wp2_with fail
    go_ret
    refine Lf.retb ?_ (gTq HG.out (by assumption))
    rw [HF.out]
    simp [*]
def seatB (L:Nat -> Acc) (j:Nat):Bool:=decide ((L j).is = 1) == decide (j < 4)
def wholesF (L:Nat -> Acc):Nat -> Bool
 | 0=>true
 | j + 1=>wholesF L j && (seatB L j && wholeF (L j))
theorem wholesF_no {L:Nat -> Acc} {j m:Nat} (h:(seatB L j && wholeF (L j)) = false) (hm:j < m):wholesF L m = false:=by
 induction m with
 | zero=>omega
 | succ m ih =>
  rw [wholesF]
  by_cases e:j = m
  ·subst e;rw [h];simp
  ·rw [ih (by omega)];rfl
def goodLF (L:Nat -> Acc) (fees:Int):Bool:=coveredF L fees && wholesF L 12
theorem goodL_any {w:World} {L:Nat -> Acc} {fees:Int} {cs:Array Value} (hL:LedV w L fees cs) (hK:∀ i,i < 12 -> Asked w (L i) (accAt cs i)) (hS:∀ i,i < 12 -> Small (L i)) (W:World) (hW:w.grownBy W none) :
 Calls Tryz.prog 5 #[.agg cs] W fun e w'=>e = .returned (.bool (goodLF L fees)) /\ W.grownBy w' none:=by
 have hI:=run_idx (cs.extract 0 180)
 have HL:=jh hL
 have HZ:=jh hL.1
 have HCV:=jh (fun W2=>covered_any hL W2)
 have HWH:=jh (fun i (hi:i < 12) W2 (h:W.grownBy W2 none)=>whole_any (hL.2.2.2 i hi) (hK i hi) (hS i hi) W2 (gTq hW h))
 have HN:=jh (heap_alloc_new W (.cells cs 33))
 have HF:Hid (goodLF L fees = (coveredF L fees && wholesF L 12)):=rfl
 generalize goodLF L fees = r at *
 clear hL hK hS hW
 cases hcv:coveredF L fees with
 | false =>
  rw [hcv] at HCV HF
  go_enter Tryz.func5,Tryz.ntmps5
  go_wp2_with (first | (refine wlLd rfl _ rfl rfl HN.out HZ.out ?_) | (go_at_call 10;refine (HCV.out _).mono ?_;rintro e w1 ⟨rfl,hg⟩;have HG:=jh (gTq (gBq _) hg);clear hg))
  go_ret
  exact Lf.retb HF.out.symm HG.out
 | true =>
  rw [hcv] at HCV HF
  go_enter Tryz.func5,Tryz.ntmps5
  go_wp2_with (first
   | (refine wlLdA rfl _ rfl rfl HB.out HZ.out ?_)
   | (refine wlLd rfl _ rfl rfl HN.out HZ.out ?_)
   | (go_at_call 10;refine (HCV.out _).mono ?_;rintro e w1 ⟨rfl,hg⟩;have HG:=jh (gTq (gBq _) hg);have HB:=jh (kBq HN.out hg);clear hg))
  go_loopw [10] (fun iv wr=>∃ j:Nat,j <= 12 /\ iv = .int .i64 j /\ wholesF L j = true /\ W.grownBy wr none) (fun iv _=>12 - (intOf iv).toNat)
  case atStart=>exact ⟨0,by omega,rfl,rfl,HG.out⟩
  case round =>
   obtain ⟨j,hj,rfl,hsj,hg⟩:=hrel
   have HG2:=jh hg
   have HSJ:=jh hsj
   clear hg hsj HG HB
   by_cases hlt:j < 12
   ·have hW9:=HWH.out j hlt
    have hYE:wholesF L (j + 1) = (seatB L j && wholeF (L j)):=by rw [wholesF,HSJ.out];rfl
    have hNO:=fun h=>wholesF_no (L:=L) (j:=j) h hlt
    have hSE:seatB L j = (decide ((L j).is = 1) == decide (j < 4)):=rfl
    obtain ⟨pt,pa,pl,pc,st,sa,sl,sc,na,nl,nc,k,n,a,s,aa,al,ac,ta,tl,tc,ma,ml,mc,VN,h1,hrest⟩:=HL.out.2.2.2 j hlt
    have hI2:=hI j hlt
    rw [show (cs.extract 0 180).extract (j * 15) (j * 15 + 15) = _ from h1] at hI2
    rw [h1] at hW9
    have HG3:=jh (gTq HG2.out (gBq (w:=wr) (.cells (accC (L j).is (L j).bal (L j).cnt pt pa pl pc st sa sl sc na nl nc k n a s aa al ac ta tl tc ma ml mc) 30)))
    unfold accC at hI2 hW9 HG3
    have HW9:=jh (hW9 _ HG3.out)
    have HYE:=jh hYE
    have HNO:=jh hNO
    have HSE:=jh hSE
    clear hI h1 hrest hW9 hYE hNO hSE
    have q1:=beq_or (L j).is 1
    generalize (L j).is = is at *
    generalize (L j).bal = bal at *
    generalize (L j).cnt = cnt at *
    generalize wholeF (L j) = b at *
    generalize seatB L j = sb at *
    rcases q1 with ⟨rfl,_⟩ | ⟨z1,z1'⟩ <;> rcases (show ((j:Int) < 4 /\ decide (j < 4) = true) \/ (¬ (j:Int) < 4 /\ decide (j < 4) = false) from by by_cases h:j < 4 <;> simp [h] <;> omega) with ⟨z4,z4'⟩ | ⟨z4,z4'⟩ <;> cases b
    all_goals
     go_wp2_with ((go_at_call 11;with_reducible refine HW9.out.mono ?_;rintro e w1 ⟨rfl,hg⟩;have HG4:=jh (gTq HG3.out hg);clear hg))
     first
     | (go_roundw
        case rel=>exact ⟨j + 1,by omega,by go_num,by rw [HYE.out,HSE.out];simp [*],HG4.out⟩
        case measure=>simp [intOf];omega)
     | (go_ret
        refine Lf.retb ?_ (by first | exact HG4.out | exact HG3.out)
        rw [HF.out,HNO.out (by rw [HSE.out];simp [*])];rfl)
   ·obtain rfl:j = 12:=by omega
    clear hI
    go_wp2_with fail
    go_ret
    exact Lf.retb (by rw [HF.out,HSJ.out];rfl) HG2.out
theorem setBal_same (L:Nat -> Acc) (i:Nat) (v:Int):(setBal L i v i).bal = v:=by simp [setBal]
theorem setBal_other (L:Nat -> Acc) {i j:Nat} (h:j ≠ i) (v:Int):setBal L i v j = L j:=by simp [setBal,h]
theorem balSum_set (L:Nat -> Acc) (i:Nat) (v:Int):∀ m,balSum (setBal L i v) m = balSum L m + if i < m then v - (L i).bal else 0
 | 0=>by simp [balSum]
 | m + 1=>by
  rw [balSum,balSum,balSum_set L i v m]
  by_cases h:m = i
  ·subst h
   rw [setBal_same,if_neg (by omega),if_pos (by omega)];omega
  ·rw [setBal_other L h]
   by_cases h2:i < m
   ·rw [if_pos h2,if_pos (by omega)];omega
   ·rw [if_neg h2,if_neg (by omega)];omega
theorem shares_iff (L:Nat -> Acc):∀ m,sharesF L m = true ↔ ∀ i,i < m -> 0 <= (L i).bal /\ (L i).bal <= 4000000
 | 0=>by simp [sharesF]
 | m + 1=>by
  rw [sharesF,Bool.and_eq_true,shares_iff L m,shareB,decide_eq_true_eq]
  constructor
  ·rintro ⟨h1,h2⟩ i hi
   by_cases e:i = m
   ·subst e;exact h2
   ·exact h1 i (by omega)
  ·intro h
   exact ⟨fun i hi=>h i (by omega),h m (by omega)⟩
theorem balSum_le {L:Nat -> Acc} : ∀ {m:Nat},(∀ i,i < m -> 0 <= (L i).bal) -> (0 <= balSum L m /\ ∀ i,i < m -> (L i).bal <= balSum L m)
 | 0,_=>by simp [balSum]
 | m + 1,h=>by
  have ih:=balSum_le (L:=L) (m:=m) (fun i hi=>h i (by omega))
  have hm:=h m (by omega)
  refine ⟨by rw [balSum];omega,fun i hi=>?_⟩
  rw [balSum]
  by_cases e:i = m
  ·subst e;omega
  ·have:=ih.2 i (by omega);omega
theorem balSum_top {L:Nat -> Acc} : ∀ {m:Nat},(∀ i,i < m -> (L i).bal <= 4000000) -> balSum L m <= 4000000 * m
 | 0,_=>by simp [balSum]
 | m + 1,h=>by
  have ih:=balSum_top (L:=L) (m:=m) (fun i hi=>h i (by omega))
  have hm:=h m (by omega)
  rw [balSum];omega
theorem wrap_id {x:Int} (h1:-9223372036854775808 <= x) (h2:x <= 9223372036854775807):wrap64 x = x:=by unfold wrap64;omega
theorem covered_iff (L:Nat -> Acc) (fees:Int):coveredF L fees = true ↔ (0 <= fees /\ (∀ i,i < 12 -> 0 <= (L i).bal) /\ fees + balSum L 12 = 4000000):=by
 unfold coveredF
 rw [Bool.and_eq_true,Bool.and_eq_true,shares_iff,shareB,decide_eq_true_eq,decide_eq_true_eq,sumF]
 constructor
 ·rintro ⟨⟨h1,h2⟩,h3⟩
  have a1:=balSum_le (L:=L) (m:=12) (fun i hi=>(h2 i hi).1)
  have a2:=balSum_top (L:=L) (m:=12) (fun i hi=>(h2 i hi).2)
  rw [wrap_id (by omega) (by omega)] at h3
  exact ⟨h1.1,fun i hi=>(h2 i hi).1,h3⟩
 ·rintro ⟨h1,h2,h3⟩
  have a1:=balSum_le (L:=L) (m:=12) h2
  refine ⟨⟨⟨h1,by omega⟩,fun i hi=>⟨h2 i hi,by have:=a1.2 i hi;omega⟩⟩,?_⟩
  rw [h3,wrap_id (by decide) (by decide)]
theorem whole_set {L:Nat -> Acc} {i j:Nat} {v:Int} (h:(L i).is ≠ 0):wholeF (setBal L i v j) = wholeF (L j):=by
 by_cases e:j = i
 ·subst e
  unfold setBal
  rw [if_pos rfl]
  unfold wholeF
  simp only [h,if_false]
  rfl
 ·rw [setBal_other L e]
theorem set_is (L:Nat -> Acc) (i j:Nat) (v:Int):(setBal L i v j).is = (L j).is:=by unfold setBal;split <;> rfl
theorem wholes_set {L:Nat -> Acc} {i:Nat} {v:Int} (h:(L i).is ≠ 0):∀ m,wholesF (setBal L i v) m = wholesF L m
 | 0=>rfl
 | m + 1=>by rw [wholesF,wholesF,wholes_set h m,whole_set h,seatB,seatB,set_is]
theorem body_is {L:Nat -> Acc} {n:Int} (h:bodyB L n = true):(0 <= n /\ n < 12) /\ (L n.toNat).is ≠ 0:=by
 unfold bodyB at h
 simpa using h
theorem movL_eq (L:Nat -> Acc) (fr dn n:Int):movL L fr dn n = setBal (setBal L fr.toNat (wrap64 ((L fr.toNat).bal - n))) dn.toNat (wrap64 ((setBal L fr.toNat (wrap64 ((L fr.toNat).bal - n)) dn.toNat).bal + n)):=rfl
theorem move_keeps {L:Nat -> Acc} {fees fr dn n:Int} (hG:goodLF L fees = true) (he:movE L fr dn n = 0) (hn:I64 n) :
 goodLF (movL L fr dn n) fees = true /\ sumF (movL L fr dn n) fees = sumF L fees /\ movE (movL L fr dn n) dn fr n = 0 /\
  (movL (movL L fr dn n) dn fr n fr.toNat).bal = (L fr.toNat).bal /\ (movL (movL L fr dn n) dn fr n dn.toNat).bal = (L dn.toNat).bal /\
  (fr = dn \/ wrap64 ((movL L fr dn n dn.toNat).bal - (L dn.toNat).bal) = n):=by
 obtain ⟨b1,b2,b3,b4⟩:bodyB L fr = true /\ bodyB L dn = true /\ amtB n = true /\ ¬ (L fr.toNat).bal < n:=by
  unfold movE at he
  revert he
  cases bodyB L fr <;> cases bodyB L dn <;> cases amtB n <;> simp
 obtain ⟨⟨f1,f2⟩,f3⟩:=body_is b1
 obtain ⟨⟨d1,d2⟩,d3⟩:=body_is b2
 unfold amtB at b3
 simp only [decide_eq_true_eq] at b3
 unfold goodLF at hG
 rw [Bool.and_eq_true,covered_iff] at hG
 obtain ⟨⟨hf,hp,hs⟩,hw⟩:=hG
 have hfi:fr.toNat < 12:=by omega
 have hdi:dn.toNat < 12:=by omega
 have hle:=balSum_le hp
 have t1:=hle.2 _ hfi
 have t2:=hle.2 _ hdi
 have p1:=hp _ hfi
 have p2:=hp _ hdi
 have w1:wrap64 ((L fr.toNat).bal - n) = (L fr.toNat).bal - n:=wrap_id (by omega) (by omega)
 -- the move,in numbers
 have hdB:(setBal L fr.toNat ((L fr.toNat).bal - n) dn.toNat).bal = if dn.toNat = fr.toNat then (L fr.toNat).bal - n else (L dn.toNat).bal:=by
  unfold setBal;split <;> rfl
 have hdB1:0 <= (setBal L fr.toNat ((L fr.toNat).bal - n) dn.toNat).bal /\ (setBal L fr.toNat ((L fr.toNat).bal - n) dn.toNat).bal <= 4000000:=by
  rw [hdB];split <;> omega
 have w2:wrap64 ((setBal L fr.toNat ((L fr.toNat).bal - n) dn.toNat).bal + n) = (setBal L fr.toNat ((L fr.toNat).bal - n) dn.toNat).bal + n:=wrap_id (by omega) (by omega)
 have hM:movL L fr dn n = setBal (setBal L fr.toNat ((L fr.toNat).bal - n)) dn.toNat ((setBal L fr.toNat ((L fr.toNat).bal - n) dn.toNat).bal + n):=by unfold movL;rw [w1,w2]
 have hsum:balSum (movL L fr dn n) 12 = balSum L 12:=by
  rw [hM,balSum_set,balSum_set,if_pos hfi,if_pos hdi];omega
 have hat:∀ j,(movL L fr dn n j).bal = if fr.toNat = dn.toNat then (L j).bal else if j = dn.toNat then (L dn.toNat).bal + n else if j = fr.toNat then (L fr.toNat).bal - n else (L j).bal:=by
  intro j
  rw [hM]
  by_cases e:fr.toNat = dn.toNat
  ·rw [if_pos e,hdB,if_pos e.symm]
   by_cases e2:j = dn.toNat
   ·subst e2;rw [setBal_same,← e];omega
   ·rw [setBal_other _ e2,setBal_other _ (by omega)]
  ·rw [if_neg e,hdB,if_neg (fun h=>e h.symm)]
   by_cases e2:j = dn.toNat
   ·subst e2;rw [setBal_same,if_pos rfl]
   ·rw [if_neg e2,setBal_other _ e2]
    by_cases e3:j = fr.toNat
    ·subst e3;rw [setBal_same,if_pos rfl]
    ·rw [if_neg e3,setBal_other _ e3]
 have hpos:∀ i,i < 12 -> 0 <= (movL L fr dn n i).bal:=by
  intro i hi
  have:=hp i hi
  rw [hat]
  split
  ·exact this
  ·split
   ·omega
   ·split <;> omega
 have his:∀ j,(movL L fr dn n j).is = (L j).is:=fun j=>by rw [hM,set_is,set_is]
 have hgood:goodLF (movL L fr dn n) fees = true:=by
  unfold goodLF
  rw [Bool.and_eq_true,covered_iff]
  refine ⟨⟨hf,hpos,by rw [hsum];exact hs⟩,?_⟩
  rw [hM,wholes_set (by rw [set_is];exact d3),wholes_set f3]
  exact hw
 have hback:movE (movL L fr dn n) dn fr n = 0:=by
  unfold movE bodyB amtB
  rw [his,his,hat]
  rw [if_pos,if_pos,if_neg]
  ·split
   ·rename_i e;rw [← e];exact b4
   ·rw [if_pos rfl];omega
  ·simpa using b3
  ·simp [f1,f2,f3,d1,d2,d3]
 refine ⟨hgood,by unfold sumF;rw [hsum],hback,?_⟩
 -- and back again
 have q1:=hpos _ hdi
 have q2:=hat dn.toNat
 have q3:=hat fr.toNat
 have hle2:=balSum_le hpos
 have t3:=hle2.2 _ hdi
 have t4:=hle2.2 _ hfi
 rw [hsum] at t3 t4
 have q4:=hpos _ hfi
 have hge:n <= (movL L fr dn n dn.toNat).bal:=by
  rw [q2]
  split
  ·rename_i e;rw [← e];omega
  ·rw [if_pos rfl];omega
 have w3:wrap64 ((movL L fr dn n dn.toNat).bal - n) = (movL L fr dn n dn.toNat).bal - n:=wrap_id (by omega) (by omega)
 have hfB:(setBal (movL L fr dn n) dn.toNat ((movL L fr dn n dn.toNat).bal - n) fr.toNat).bal = if fr.toNat = dn.toNat then (movL L fr dn n dn.toNat).bal - n else (movL L fr dn n fr.toNat).bal:=by
  unfold setBal;split <;> rfl
 have w4:wrap64 ((setBal (movL L fr dn n) dn.toNat ((movL L fr dn n dn.toNat).bal - n) fr.toNat).bal + n) = (setBal (movL L fr dn n) dn.toNat ((movL L fr dn n dn.toNat).bal - n) fr.toNat).bal + n:=by
  apply wrap_id <;> rw [hfB] <;> split <;> omega
 have hM2:movL (movL L fr dn n) dn fr n = setBal (setBal (movL L fr dn n) dn.toNat ((movL L fr dn n dn.toNat).bal - n)) fr.toNat ((setBal (movL L fr dn n) dn.toNat ((movL L fr dn n dn.toNat).bal - n) fr.toNat).bal + n):=by
  rw [movL_eq (movL L fr dn n) dn fr n,w3,w4]
 by_cases e:fr.toNat = dn.toNat
 ·rw [if_pos e] at hfB
  refine ⟨?_,?_,.inl (by omega)⟩
  ·rw [hM2,setBal_same,hfB,q2,if_pos e,← e];omega
  ·rw [← e,hM2,setBal_same,hfB,q2,if_pos e,← e];omega
 ·rw [if_neg e] at hfB q2 q3
  rw [if_pos rfl] at q2
  rw [if_neg e,if_pos rfl] at q3
  refine ⟨?_,?_,.inr ?_⟩
  ·rw [hM2,setBal_same,hfB,q3];omega
  ·rw [hM2,setBal_other _ (fun h=>e h.symm),setBal_same,q2];omega
  ·rw [q2,wrap_id (by omega) (by omega)];omega
end Go.Proofs.YtkglnoimbekhhaaGreat
