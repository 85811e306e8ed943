import Derived.Test.YtkglnoimbekhhaaGreatKZd
namespace Go.Proofs.YtkglnoimbekhhaaGreat
set_option maxRecDepth 100000
set_option maxHeartbeats 4000000
open Go.ChangeShapes Go.WideShapes Go.ChangeAt Go.RowKit
set_option linter.unusedVariables false
set_option linter.unusedSimpArgs false
def RecPost (r:Option Ty) (W:World) (e:Ending) (w':World):Prop :=
 W.grownBy w' none /\ ((r = none /\ e = .returned (.tuple #[tyV 0 none 0 0,.bool false])) \/ ∃ T t a l c,r = some T /\ e = .returned (.tuple #[tyV t a l c,.bool true]) /\ LiesT (W.heap.size <= ·) w' T (tyV t a l c))
theorem isWhole_any (t:Int) (W:World):Calls Tryz.prog 126 #[.int .i64 t] W fun e w'=>e = .returned (.bool (wholeB t)) /\ w' = W:=by
 by_cases h1:t = 3
 ·subst h1;go_enter Tryz.func126,Tryz.ntmps126;go_wp2_with fail;go_ret;exact ⟨rfl,rfl⟩
 ·by_cases h2:t = 4
  ·subst h2;go_enter Tryz.func126,Tryz.ntmps126;go_wp2_with fail;go_ret;exact ⟨rfl,rfl⟩
  ·have q1:(t == 3) = false:=by simpa using h1
   have q2:(t == 4) = false:=by simpa using h2
   have hw:wholeB t = false:=by simp [wholeB,h1,h2]
   go_enter Tryz.func126,Tryz.ntmps126
   go_wp2_with fail
   go_ret
   exact ⟨by simp [hw],rfl⟩
theorem lies0 (ok:Nat -> Prop) (w:World) {t:Int} (it:I64 t):LiesT ok w (.nd t []) (tyV t none 0 0) :=
 .mk (args:=[]) (fun _=>.int .i64 0) (by simp [maxLen]) (by simp) it (fun i hi=>by simp at hi) (fun i hi=>by simp at hi)
theorem lies1 {ok:Nat -> Prop} {w:World} {b:Nat} {t t1:Int} {a:Option Addr} {l k:Nat} {T:Ty} (it:I64 t) (hok:ok b) (hb:w.heap[b]? = some (.cells #[.int .i64 t1,.slice a l k] 24 (0,0))) (h:LiesT ok w T (tyV t1 a l k)):LiesT ok w (.nd t [T]) (tyV t (some ⟨b,0,none⟩) 1 1):=by
 refine .mk (args:=[T]) (fun _=>tyV t1 a l k) (by simp [maxLen]) (by simp) it (fun i hi=>?_) (fun i hi=>?_)
 ·obtain rfl:i = 0:=by simpa using hi
  exact ⟨b,0,rfl,hok,t1,a,l,k,rfl,c0q hb,c1q hb⟩
 ·obtain rfl:i = 0:=by simpa using hi
  exact h
theorem lies2 {ok:Nat -> Prop} {w:World} {b:Nat} {t t1 t2:Int} {a a2:Option Addr} {l k l2 k2:Nat} {T U:Ty} (it:I64 t) (hok:ok b) (hb:w.heap[b]? = some (.cells #[.int .i64 t1,.slice a l k,.int .i64 t2,.slice a2 l2 k2] 24 (0,0))) (h:LiesT ok w T (tyV t1 a l k)) (h2:LiesT ok w U (tyV t2 a2 l2 k2)):LiesT ok w (.nd t [T,U]) (tyV t (some ⟨b,0,none⟩) 2 2):=by
 refine .mk (args:=[T,U]) (fun i=>if i = 0 then tyV t1 a l k else tyV t2 a2 l2 k2) (by simp [maxLen]) (by simp) it (fun i hi=>?_) (fun i hi=>?_)
 ·rcases (show i = 0 \/ i = 1 by simp at hi;omega) with rfl | rfl
  ·exact ⟨b,0,rfl,hok,t1,a,l,k,rfl,by simp [World.cell?,hb],by simp [World.cell?,hb]⟩
  ·exact ⟨b,0,rfl,hok,t2,a2,l2,k2,rfl,by simp [World.cell?,hb],by simp [World.cell?,hb]⟩
 ·rcases (show i = 0 \/ i = 1 by simp at hi;omega) with rfl | rfl
  ·exact h
  ·exact h2
theorem LiesT.setFar {ok:Nat -> Prop} {w:World} {T:Ty} {v:Value} {R:Nat} (h:LiesT ok w T v) (hR:¬ ok R) (x y:Value):LiesT ok (set2 w R x y) T v :=
 h.same (fun b o hb hlt=>World.cell?_of_block ((set2_grow w R x y).block b hlt (by simp;intro e;subst e;exact hR hb)))
theorem divided_any (q r:Int) (iq:I64 q) (ir:I64 r) (W:World) :
 Calls Tryz.prog 125 #[tyV q none 0 0,tyV r none 0 0] W fun e w'=>W.grownBy w' none /\ ∃ a l c,e = .returned (tyV 9 a l c) /\ LiesT (W.heap.size <= ·) w' (divT (.nd q []) (.nd r [])) (tyV 9 a l c):=by
 unfold tyV
 let A:Obj:=.cells #[.int .i64 q,.slice none 0 0] 24
 let B:Obj:=.cells #[.int .i64 r,.slice none 0 0] 24
 let C:Obj:=.cells #[.int .i64 0,.slice none 0 0] 24
 let D:Obj:=.cells #[.int .i64 q,.slice none 0 0,.int .i64 r,.slice none 0 0] 24
 obtain ⟨hg3,_,_,hC⟩:=start3 W A B C
 have hsz:(((W.alloc A).alloc B).alloc C).heap.size = W.heap.size + 1 + 1 + 1:=by simp
 have hD:((((W.alloc A).alloc B).alloc C).alloc D).heap[W.heap.size + 1 + 1 + 1]? = some D:=new_at hsz
 have HG4:=jh (gTq hg3 (gBq (w:=((W.alloc A).alloc B).alloc C) D))
 have HC:=jh (heap_keep (o:=D) hC)
 have HD:=jh hD
 clear hg3 hC hD hsz
 go_enter Tryz.func125,Tryz.ntmps125
 go_wp2_with fail
 refine (of_any 11 _ _ _ _).mono ?_;rintro e w1 ⟨rfl,hg⟩
 replace HC:=bCq HC hg
 replace HD:=bCq HD hg
 replace HG4:=gCq HG4 hg
 clear hg
 go_wp2_with fail
 refine (of_any 9 _ _ _ _).mono ?_;rintro e w2 ⟨rfl,hg⟩
 have HE:=jh (kBq (heap_alloc_new w1 _) hg)
 have hg2:=gTq (gBq _) hg
 have HW1:Hid (W.heap.size + 1 + 1 + 1 < w1.heap.size):=(Array.getElem?_eq_some_iff.1 HD.out).1
 replace HC:=jh (kBq HC.out hg2)
 replace HD:=jh (kBq HD.out hg2)
 replace HG4:=jh (gTq HG4.out hg2)
 clear hg hg2
 have q0:=c0q HC.out
 have q1:=c1q HC.out
 have q2:=free2_of HC.out
 go_wp2_with fail
 change bodyPost _ _ _ _ _ (set2 w2 (W.heap.size + 1 + 1) (.int .i64 9) (.slice (some ⟨w1.heap.size,0,none⟩) 1 1))
 have hL:LiesT (fun b=>W.heap.size <= b /\ b ≠ W.heap.size + 1 + 1) w2 (divT (.nd q []) (.nd r [])) (tyV 9 (some ⟨w1.heap.size,0,none⟩) 1 1) :=
  lies1 ⟨by decide,by decide⟩ (by have:=HW1.out;exact ⟨by omega,by omega⟩) HE.out (lies2 ⟨by decide,by decide⟩ ⟨by omega,by omega⟩ HD.out (lies0 _ _ iq) (lies0 _ _ ir))
 have HL:=jh ((hL.setFar (R:=W.heap.size + 1 + 1) (by simp) (.int .i64 9) (.slice (some ⟨w1.heap.size,0,none⟩) 1 1)).okMono (ok':=(W.heap.size <= ·)) (fun b _ h=>h.1))
 have hb':=set2_block HC.out (.int .i64 9) (.slice (some ⟨w1.heap.size,0,none⟩) 1 1)
 have hg':=grow_set2 HG4.out (b:=W.heap.size + 1 + 1) (by omega) (.int .i64 9) (.slice (some ⟨w1.heap.size,0,none⟩) 1 1)
 clear hL
 generalize set2 w2 (W.heap.size + 1 + 1) (.int .i64 9) (.slice (some ⟨w1.heap.size,0,none⟩) 1 1) = wf at *
 have z0:=c0q hb'
 have z1:=c1q hb'
 exact bodyPost_ret (v:=.agg #[.int .i64 9,.slice (some ⟨w1.heap.size,0,none⟩) 1 1]) (by simp [results,Tryz.results125,go_sem,z0,z1]) rfl ⟨hg',_,_,_,rfl,HL.out⟩
theorem rec_0 {p a b:Int} (h:(p = 69 /\ a = 3 /\ b = 3) \/ (p = 69 /\ a = 3 /\ b = 4) \/ (p = 69 /\ a = 4 /\ b = 3) \/ (p = 70 /\ a = 3 /\ b = 3) \/ (p = 70 /\ a = 3 /\ b = 4) \/ (p = 70 /\ a = 4 /\ b = 3) \/ (p = 70 /\ a = 4 /\ b = 4) \/ (p = 71 /\ a = 3 /\ b = 3) \/ (p = 71 /\ a = 3 /\ b = 4) \/ (p = 71 /\ a = 4 /\ b = 3)) (wa:wholeB a = true) (wb:wholeB b = true) (W:World):Calls Tryz.prog 115 #[.int .i64 p,.int .i64 a,.int .i64 b] W (RecPost (some (.nd 3 [])) W):=by
 rcases h with ⟨rfl,rfl,rfl⟩ | ⟨rfl,rfl,rfl⟩ | ⟨rfl,rfl,rfl⟩ | ⟨rfl,rfl,rfl⟩ | ⟨rfl,rfl,rfl⟩ | ⟨rfl,rfl,rfl⟩ | ⟨rfl,rfl,rfl⟩ | ⟨rfl,rfl,rfl⟩ | ⟨rfl,rfl,rfl⟩ | ⟨rfl,rfl,rfl⟩
 all_goals
  have HR:=jh (heap_alloc_new W (.cells #[.int .i64 0,.slice none 0 0] 24))
  have HG:=jh (gBq (w:=W) (.cells #[.int .i64 0,.slice none 0 0] 24))
  go_enter Tryz.func115,Tryz.ntmps115
  go_wp2_with fail
  refine (of_any 4 _ _ _ _).mono ?_;rintro e w1 ⟨rfl,hg⟩
  replace HR:=bCq HR hg
  replace HG:=gCq HG hg
  clear hg
  go_wp2_with fail
  refine (of_any 5 _ _ _ _).mono ?_;rintro e w2 ⟨rfl,hg⟩
  replace HR:=bCq HR hg
  replace HG:=gCq HG hg
  clear hg
  have HLT:Hid (W.heap.size < w2.heap.size):=(Array.getElem?_eq_some_iff.1 HR.out).1
  obtain ⟨hg,hN,hM⟩:=start2 w2 (.cells #[.int .i64 4,.slice none 0 0] 24) (.cells #[.int .i64 5,.slice none 0 0] 24)
  have hszn:((w2.alloc (.cells #[.int .i64 4,.slice none 0 0] 24)).alloc (.cells #[.int .i64 5,.slice none 0 0] 24)).heap.size = w2.heap.size + 1 + 1:=by simp
  replace HR:=bCq HR hg
  replace HG:=gCq HG hg
  have n0:=c0q hN
  have n1:=c1q hN
  have m0:=c0q hM
  have m1:=c1q hM
  have q0:=c0q HR.out
  have q1:=c1q HR.out
  have q2:=free2_of HR.out
  clear hg
  go_wp2_with fail
  refine (isWhole_any _ _).mono ?_;rintro e w9 ⟨rfl,rfl⟩
  rw [wa]
  go_wp2_with fail
  refine (isWhole_any _ _).mono ?_;rintro e w9 ⟨rfl,rfl⟩
  rw [wb]
  go_wp2_with fail
  generalize (w2.alloc (.cells #[.int .i64 4,.slice none 0 0] 24)).alloc (.cells #[.int .i64 5,.slice none 0 0] 24) = wn at *
  refine (of_any 3 _ _ _ _).mono ?_;rintro e w3 ⟨rfl,hg⟩
  replace HR:=bCq HR hg
  replace HG:=gCq HG hg
  clear hg q0 q1 q2
  have q0:=c0q HR.out
  have q1:=c1q HR.out
  have q2:=free2_of HR.out
  go_wp2_with fail
  change bodyPost _ _ _ _ _ (set2 w3 W.heap.size (.int .i64 3) (.slice none 0 0))
  have hL:LiesT (fun b=>W.heap.size <= b /\ b ≠ W.heap.size) w3 ((.nd 3 [])) (tyV 3 none 0 0):=lies0 _ _ ⟨by decide,by decide⟩
  have HL:=jh ((hL.setFar (R:=W.heap.size) (by simp) (.int .i64 3) (.slice none 0 0)).okMono (ok':=(W.heap.size <= ·)) (fun b _ h=>h.1))
  clear hL
  have hb':=set2_block HR.out (.int .i64 3) (.slice none 0 0)
  have hg':=grow_set2 HG.out (Nat.le_refl _) (.int .i64 3) (.slice none 0 0)
  generalize set2 w3 W.heap.size (.int .i64 3) (.slice none 0 0) = wf at *
  have z0:=c0q hb'
  have z1:=c1q hb'
  exact bodyPost_ret (v:=.tuple #[.agg #[.int .i64 3,.slice none 0 0],.bool true]) (by simp [results,Tryz.results115,go_sem,z0,z1]) rfl ⟨hg',.inr ⟨_,_,_,_,_,rfl,rfl,HL.out⟩⟩
theorem rec_1 {p a b:Int} (h:(p = 69 /\ a = 3 /\ b = 5) \/ (p = 69 /\ a = 3 /\ (b == 3) = false /\ (b == 4) = false /\ (b == 5) = false) \/ (p = 69 /\ a = 4 /\ b = 5) \/ (p = 69 /\ a = 4 /\ (b == 3) = false /\ (b == 4) = false /\ (b == 5) = false) \/ (p = 70 /\ a = 3 /\ b = 5) \/ (p = 70 /\ a = 3 /\ (b == 3) = false /\ (b == 4) = false /\ (b == 5) = false) \/ (p = 70 /\ a = 4 /\ b = 5) \/ (p = 70 /\ a = 4 /\ (b == 3) = false /\ (b == 4) = false /\ (b == 5) = false) \/ (p = 71 /\ a = 3 /\ b = 5) \/ (p = 71 /\ a = 3 /\ (b == 3) = false /\ (b == 4) = false /\ (b == 5) = false) \/ (p = 71 /\ a = 4 /\ (b == 3) = false /\ (b == 4) = false /\ (b == 5) = false) \/ (p = 72 /\ a = 3 /\ b = 5) \/ (p = 72 /\ a = 3 /\ (b == 3) = false /\ (b == 4) = false /\ (b == 5) = false) \/ (p = 72 /\ a = 4 /\ b = 5) \/ (p = 72 /\ a = 4 /\ (b == 3) = false /\ (b == 4) = false /\ (b == 5) = false)) (wa:wholeB a = true) (wb:wholeB b = false) (W:World):Calls Tryz.prog 115 #[.int .i64 p,.int .i64 a,.int .i64 b] W (RecPost (none) W):=by
 rcases h with ⟨rfl,rfl,rfl⟩ | ⟨rfl,rfl,m1,m2,m3⟩ | ⟨rfl,rfl,rfl⟩ | ⟨rfl,rfl,m1,m2,m3⟩ | ⟨rfl,rfl,rfl⟩ | ⟨rfl,rfl,m1,m2,m3⟩ | ⟨rfl,rfl,rfl⟩ | ⟨rfl,rfl,m1,m2,m3⟩ | ⟨rfl,rfl,rfl⟩ | ⟨rfl,rfl,m1,m2,m3⟩ | ⟨rfl,rfl,m1,m2,m3⟩ | ⟨rfl,rfl,rfl⟩ | ⟨rfl,rfl,m1,m2,m3⟩ | ⟨rfl,rfl,rfl⟩ | ⟨rfl,rfl,m1,m2,m3⟩
 all_goals
  have HR:=jh (heap_alloc_new W (.cells #[.int .i64 0,.slice none 0 0] 24))
  have HG:=jh (gBq (w:=W) (.cells #[.int .i64 0,.slice none 0 0] 24))
  go_enter Tryz.func115,Tryz.ntmps115
  go_wp2_with fail
  refine (of_any 4 _ _ _ _).mono ?_;rintro e w1 ⟨rfl,hg⟩
  replace HR:=bCq HR hg
  replace HG:=gCq HG hg
  clear hg
  go_wp2_with fail
  refine (of_any 5 _ _ _ _).mono ?_;rintro e w2 ⟨rfl,hg⟩
  replace HR:=bCq HR hg
  replace HG:=gCq HG hg
  clear hg
  have HLT:Hid (W.heap.size < w2.heap.size):=(Array.getElem?_eq_some_iff.1 HR.out).1
  obtain ⟨hg,hN,hM⟩:=start2 w2 (.cells #[.int .i64 4,.slice none 0 0] 24) (.cells #[.int .i64 5,.slice none 0 0] 24)
  have hszn:((w2.alloc (.cells #[.int .i64 4,.slice none 0 0] 24)).alloc (.cells #[.int .i64 5,.slice none 0 0] 24)).heap.size = w2.heap.size + 1 + 1:=by simp
  replace HR:=bCq HR hg
  replace HG:=gCq HG hg
  have n0:=c0q hN
  have n1:=c1q hN
  have m0:=c0q hM
  have m1:=c1q hM
  have q0:=c0q HR.out
  have q1:=c1q HR.out
  have q2:=free2_of HR.out
  clear hg
  go_wp2_with fail
  refine (isWhole_any _ _).mono ?_;rintro e w9 ⟨rfl,rfl⟩
  rw [wa]
  go_wp2_with fail
  refine (isWhole_any _ _).mono ?_;rintro e w9 ⟨rfl,rfl⟩
  rw [wb]
  go_wp2_with fail
  generalize (w2.alloc (.cells #[.int .i64 4,.slice none 0 0] 24)).alloc (.cells #[.int .i64 5,.slice none 0 0] 24) = wn at *
  change bodyPost _ _ _ _ _ (set2 wn W.heap.size (.int .i64 0) (.slice none 0 0))
  have hb':=set2_block HR.out (.int .i64 0) (.slice none 0 0)
  have hg':=grow_set2 HG.out (Nat.le_refl _) (.int .i64 0) (.slice none 0 0)
  generalize set2 wn W.heap.size (.int .i64 0) (.slice none 0 0) = wf at *
  have z0:=c0q hb'
  have z1:=c1q hb'
  exact bodyPost_ret (v:=.tuple #[.agg #[.int .i64 0,.slice none 0 0],.bool false]) (by simp [results,Tryz.results115,go_sem,z0,z1]) rfl ⟨hg',.inl ⟨rfl,rfl⟩⟩
theorem rec_2 {p a b:Int} (h:(p = 69 /\ a = 4 /\ b = 4) \/ (p = 71 /\ a = 4 /\ b = 4)) (wa:wholeB a = true) (wb:wholeB b = true) (W:World):Calls Tryz.prog 115 #[.int .i64 p,.int .i64 a,.int .i64 b] W (RecPost (some (.nd 4 [])) W):=by
 rcases h with ⟨rfl,rfl,rfl⟩ | ⟨rfl,rfl,rfl⟩
 all_goals
  have HR:=jh (heap_alloc_new W (.cells #[.int .i64 0,.slice none 0 0] 24))
  have HG:=jh (gBq (w:=W) (.cells #[.int .i64 0,.slice none 0 0] 24))
  go_enter Tryz.func115,Tryz.ntmps115
  go_wp2_with fail
  refine (of_any 4 _ _ _ _).mono ?_;rintro e w1 ⟨rfl,hg⟩
  replace HR:=bCq HR hg
  replace HG:=gCq HG hg
  clear hg
  go_wp2_with fail
  refine (of_any 5 _ _ _ _).mono ?_;rintro e w2 ⟨rfl,hg⟩
  replace HR:=bCq HR hg
  replace HG:=gCq HG hg
  clear hg
  have HLT:Hid (W.heap.size < w2.heap.size):=(Array.getElem?_eq_some_iff.1 HR.out).1
  obtain ⟨hg,hN,hM⟩:=start2 w2 (.cells #[.int .i64 4,.slice none 0 0] 24) (.cells #[.int .i64 5,.slice none 0 0] 24)
  have hszn:((w2.alloc (.cells #[.int .i64 4,.slice none 0 0] 24)).alloc (.cells #[.int .i64 5,.slice none 0 0] 24)).heap.size = w2.heap.size + 1 + 1:=by simp
  replace HR:=bCq HR hg
  replace HG:=gCq HG hg
  have n0:=c0q hN
  have n1:=c1q hN
  have m0:=c0q hM
  have m1:=c1q hM
  have q0:=c0q HR.out
  have q1:=c1q HR.out
  have q2:=free2_of HR.out
  clear hg
  go_wp2_with fail
  refine (isWhole_any _ _).mono ?_;rintro e w9 ⟨rfl,rfl⟩
  rw [wa]
  go_wp2_with fail
  refine (isWhole_any _ _).mono ?_;rintro e w9 ⟨rfl,rfl⟩
  rw [wb]
  go_wp2_with fail
  generalize (w2.alloc (.cells #[.int .i64 4,.slice none 0 0] 24)).alloc (.cells #[.int .i64 5,.slice none 0 0] 24) = wn at *
  change bodyPost _ _ _ _ _ (set2 wn W.heap.size (.int .i64 4) (.slice none 0 0))
  have hL:LiesT (fun b=>W.heap.size <= b /\ b ≠ W.heap.size) wn ((.nd 4 [])) (tyV 4 none 0 0):=lies0 _ _ ⟨by decide,by decide⟩
  have HL:=jh ((hL.setFar (R:=W.heap.size) (by simp) (.int .i64 4) (.slice none 0 0)).okMono (ok':=(W.heap.size <= ·)) (fun b _ h=>h.1))
  clear hL
  have hb':=set2_block HR.out (.int .i64 4) (.slice none 0 0)
  have hg':=grow_set2 HG.out (Nat.le_refl _) (.int .i64 4) (.slice none 0 0)
  generalize set2 wn W.heap.size (.int .i64 4) (.slice none 0 0) = wf at *
  have z0:=c0q hb'
  have z1:=c1q hb'
  exact bodyPost_ret (v:=.tuple #[.agg #[.int .i64 4,.slice none 0 0],.bool true]) (by simp [results,Tryz.results115,go_sem,z0,z1]) rfl ⟨hg',.inr ⟨_,_,_,_,_,rfl,rfl,HL.out⟩⟩
theorem rec_3 {p a b:Int} (h:(p = 69 /\ a = 5 /\ b = 3) \/ (p = 69 /\ a = 5 /\ b = 4) \/ (p = 69 /\ a = 5 /\ (b == 3) = false /\ (b == 4) = false /\ (b == 5) = false) \/ (p = 69 /\ (a == 3) = false /\ (a == 4) = false /\ (a == 5) = false /\ b = 3) \/ (p = 69 /\ (a == 3) = false /\ (a == 4) = false /\ (a == 5) = false /\ b = 4) \/ (p = 69 /\ (a == 3) = false /\ (a == 4) = false /\ (a == 5) = false /\ b = 5) \/ (p = 69 /\ (a == 3) = false /\ (a == 4) = false /\ (a == 5) = false /\ (b == 3) = false /\ (b == 4) = false /\ (b == 5) = false) \/ (p = 70 /\ a = 5 /\ b = 3) \/ (p = 70 /\ a = 5 /\ b = 4) \/ (p = 70 /\ a = 5 /\ (b == 3) = false /\ (b == 4) = false /\ (b == 5) = false) \/ (p = 70 /\ (a == 3) = false /\ (a == 4) = false /\ (a == 5) = false /\ b = 3) \/ (p = 70 /\ (a == 3) = false /\ (a == 4) = false /\ (a == 5) = false /\ b = 4) \/ (p = 70 /\ (a == 3) = false /\ (a == 4) = false /\ (a == 5) = false /\ b = 5) \/ (p = 70 /\ (a == 3) = false /\ (a == 4) = false /\ (a == 5) = false /\ (b == 3) = false /\ (b == 4) = false /\ (b == 5) = false) \/ (p = 71 /\ a = 5 /\ b = 3) \/ (p = 71 /\ a = 5 /\ b = 5) \/ (p = 71 /\ a = 5 /\ (b == 3) = false /\ (b == 4) = false /\ (b == 5) = false) \/ (p = 71 /\ (a == 3) = false /\ (a == 4) = false /\ (a == 5) = false /\ b = 3) \/ (p = 71 /\ (a == 3) = false /\ (a == 4) = false /\ (a == 5) = false /\ b = 4) \/ (p = 71 /\ (a == 3) = false /\ (a == 4) = false /\ (a == 5) = false /\ b = 5) \/ (p = 71 /\ (a == 3) = false /\ (a == 4) = false /\ (a == 5) = false /\ (b == 3) = false /\ (b == 4) = false /\ (b == 5) = false) \/ (p = 72 /\ a = 5 /\ b = 3) \/ (p = 72 /\ a = 5 /\ (b == 3) = false /\ (b == 4) = false /\ (b == 5) = false) \/ (p = 72 /\ (a == 3) = false /\ (a == 4) = false /\ (a == 5) = false /\ b = 3) \/ (p = 72 /\ (a == 3) = false /\ (a == 4) = false /\ (a == 5) = false /\ b = 4) \/ (p = 72 /\ (a == 3) = false /\ (a == 4) = false /\ (a == 5) = false /\ b = 5) \/ (p = 72 /\ (a == 3) = false /\ (a == 4) = false /\ (a == 5) = false /\ (b == 3) = false /\ (b == 4) = false /\ (b == 5) = false)) (wa:wholeB a = false) (W:World):Calls Tryz.prog 115 #[.int .i64 p,.int .i64 a,.int .i64 b] W (RecPost (none) W):=by
 rcases h with ⟨rfl,rfl,rfl⟩ | ⟨rfl,rfl,rfl⟩ | ⟨rfl,rfl,m1,m2,m3⟩ | ⟨rfl,k1,k2,k3,rfl⟩ | ⟨rfl,k1,k2,k3,rfl⟩ | ⟨rfl,k1,k2,k3,rfl⟩ | ⟨rfl,k1,k2,k3,m1,m2,m3⟩ | ⟨rfl,rfl,rfl⟩ | ⟨rfl,rfl,rfl⟩ | ⟨rfl,rfl,m1,m2,m3⟩ | ⟨rfl,k1,k2,k3,rfl⟩ | ⟨rfl,k1,k2,k3,rfl⟩ | ⟨rfl,k1,k2,k3,rfl⟩ | ⟨rfl,k1,k2,k3,m1,m2,m3⟩ | ⟨rfl,rfl,rfl⟩ | ⟨rfl,rfl,rfl⟩ | ⟨rfl,rfl,m1,m2,m3⟩ | ⟨rfl,k1,k2,k3,rfl⟩ | ⟨rfl,k1,k2,k3,rfl⟩ | ⟨rfl,k1,k2,k3,rfl⟩ | ⟨rfl,k1,k2,k3,m1,m2,m3⟩ | ⟨rfl,rfl,rfl⟩ | ⟨rfl,rfl,m1,m2,m3⟩ | ⟨rfl,k1,k2,k3,rfl⟩ | ⟨rfl,k1,k2,k3,rfl⟩ | ⟨rfl,k1,k2,k3,rfl⟩ | ⟨rfl,k1,k2,k3,m1,m2,m3⟩
 all_goals
  have HR:=jh (heap_alloc_new W (.cells #[.int .i64 0,.slice none 0 0] 24))
  have HG:=jh (gBq (w:=W) (.cells #[.int .i64 0,.slice none 0 0] 24))
  go_enter Tryz.func115,Tryz.ntmps115
  go_wp2_with fail
  refine (of_any 4 _ _ _ _).mono ?_;rintro e w1 ⟨rfl,hg⟩
  replace HR:=bCq HR hg
  replace HG:=gCq HG hg
  clear hg
  go_wp2_with fail
  refine (of_any 5 _ _ _ _).mono ?_;rintro e w2 ⟨rfl,hg⟩
  replace HR:=bCq HR hg
  replace HG:=gCq HG hg
  clear hg
  have HLT:Hid (W.heap.size < w2.heap.size):=(Array.getElem?_eq_some_iff.1 HR.out).1
  obtain ⟨hg,hN,hM⟩:=start2 w2 (.cells #[.int .i64 4,.slice none 0 0] 24) (.cells #[.int .i64 5,.slice none 0 0] 24)
  have hszn:((w2.alloc (.cells #[.int .i64 4,.slice none 0 0] 24)).alloc (.cells #[.int .i64 5,.slice none 0 0] 24)).heap.size = w2.heap.size + 1 + 1:=by simp
  replace HR:=bCq HR hg
  replace HG:=gCq HG hg
  have n0:=c0q hN
  have n1:=c1q hN
  have m0:=c0q hM
  have m1:=c1q hM
  have q0:=c0q HR.out
  have q1:=c1q HR.out
  have q2:=free2_of HR.out
  clear hg
  go_wp2_with fail
  refine (isWhole_any _ _).mono ?_;rintro e w9 ⟨rfl,rfl⟩
  rw [wa]
  go_wp2_with fail
  generalize (w2.alloc (.cells #[.int .i64 4,.slice none 0 0] 24)).alloc (.cells #[.int .i64 5,.slice none 0 0] 24) = wn at *
  change bodyPost _ _ _ _ _ (set2 wn W.heap.size (.int .i64 0) (.slice none 0 0))
  have hb':=set2_block HR.out (.int .i64 0) (.slice none 0 0)
  have hg':=grow_set2 HG.out (Nat.le_refl _) (.int .i64 0) (.slice none 0 0)
  generalize set2 wn W.heap.size (.int .i64 0) (.slice none 0 0) = wf at *
  have z0:=c0q hb'
  have z1:=c1q hb'
  exact bodyPost_ret (v:=.tuple #[.agg #[.int .i64 0,.slice none 0 0],.bool false]) (by simp [results,Tryz.results115,go_sem,z0,z1]) rfl ⟨hg',.inl ⟨rfl,rfl⟩⟩
theorem rec_4 {p a b:Int} (h:(p = 69 /\ a = 5 /\ b = 5) \/ (p = 71 /\ a = 4 /\ b = 5) \/ (p = 71 /\ a = 5 /\ b = 4)) (W:World):Calls Tryz.prog 115 #[.int .i64 p,.int .i64 a,.int .i64 b] W (RecPost (some (.nd 5 [])) W):=by
 rcases h with ⟨rfl,rfl,rfl⟩ | ⟨rfl,rfl,rfl⟩ | ⟨rfl,rfl,rfl⟩
 all_goals
  have HR:=jh (heap_alloc_new W (.cells #[.int .i64 0,.slice none 0 0] 24))
  have HG:=jh (gBq (w:=W) (.cells #[.int .i64 0,.slice none 0 0] 24))
  go_enter Tryz.func115,Tryz.ntmps115
  go_wp2_with fail
  refine (of_any 4 _ _ _ _).mono ?_;rintro e w1 ⟨rfl,hg⟩
  replace HR:=bCq HR hg
  replace HG:=gCq HG hg
  clear hg
  go_wp2_with fail
  refine (of_any 5 _ _ _ _).mono ?_;rintro e w2 ⟨rfl,hg⟩
  replace HR:=bCq HR hg
  replace HG:=gCq HG hg
  clear hg
  have HLT:Hid (W.heap.size < w2.heap.size):=(Array.getElem?_eq_some_iff.1 HR.out).1
  obtain ⟨hg,hN,hM⟩:=start2 w2 (.cells #[.int .i64 4,.slice none 0 0] 24) (.cells #[.int .i64 5,.slice none 0 0] 24)
  have hszn:((w2.alloc (.cells #[.int .i64 4,.slice none 0 0] 24)).alloc (.cells #[.int .i64 5,.slice none 0 0] 24)).heap.size = w2.heap.size + 1 + 1:=by simp
  replace HR:=bCq HR hg
  replace HG:=gCq HG hg
  have n0:=c0q hN
  have n1:=c1q hN
  have m0:=c0q hM
  have m1:=c1q hM
  have q0:=c0q HR.out
  have q1:=c1q HR.out
  have q2:=free2_of HR.out
  clear hg
  go_wp2_with fail
  generalize (w2.alloc (.cells #[.int .i64 4,.slice none 0 0] 24)).alloc (.cells #[.int .i64 5,.slice none 0 0] 24) = wn at *
  change bodyPost _ _ _ _ _ (set2 wn W.heap.size (.int .i64 5) (.slice none 0 0))
  have hL:LiesT (fun b=>W.heap.size <= b /\ b ≠ W.heap.size) wn ((.nd 5 [])) (tyV 5 none 0 0):=lies0 _ _ ⟨by decide,by decide⟩
  have HL:=jh ((hL.setFar (R:=W.heap.size) (by simp) (.int .i64 5) (.slice none 0 0)).okMono (ok':=(W.heap.size <= ·)) (fun b _ h=>h.1))
  clear hL
  have hb':=set2_block HR.out (.int .i64 5) (.slice none 0 0)
  have hg':=grow_set2 HG.out (Nat.le_refl _) (.int .i64 5) (.slice none 0 0)
  generalize set2 wn W.heap.size (.int .i64 5) (.slice none 0 0) = wf at *
  have z0:=c0q hb'
  have z1:=c1q hb'
  exact bodyPost_ret (v:=.tuple #[.agg #[.int .i64 5,.slice none 0 0],.bool true]) (by simp [results,Tryz.results115,go_sem,z0,z1]) rfl ⟨hg',.inr ⟨_,_,_,_,_,rfl,rfl,HL.out⟩⟩
theorem rec_5 {p a b:Int} (h:(p = 70 /\ a = 5 /\ b = 5)) (W:World):Calls Tryz.prog 115 #[.int .i64 p,.int .i64 a,.int .i64 b] W (RecPost (some (.nd 9 [.nd 5 []])) W):=by
 obtain ⟨rfl,rfl,rfl⟩:=h
 have HR:=jh (heap_alloc_new W (.cells #[.int .i64 0,.slice none 0 0] 24))
 have HG:=jh (gBq (w:=W) (.cells #[.int .i64 0,.slice none 0 0] 24))
 go_enter Tryz.func115,Tryz.ntmps115
 go_wp2_with fail
 refine (of_any 4 _ _ _ _).mono ?_;rintro e w1 ⟨rfl,hg⟩
 replace HR:=bCq HR hg
 replace HG:=gCq HG hg
 clear hg
 go_wp2_with fail
 refine (of_any 5 _ _ _ _).mono ?_;rintro e w2 ⟨rfl,hg⟩
 replace HR:=bCq HR hg
 replace HG:=gCq HG hg
 clear hg
 have HLT:Hid (W.heap.size < w2.heap.size):=(Array.getElem?_eq_some_iff.1 HR.out).1
 obtain ⟨hg,hN,hM⟩:=start2 w2 (.cells #[.int .i64 4,.slice none 0 0] 24) (.cells #[.int .i64 5,.slice none 0 0] 24)
 have hszn:((w2.alloc (.cells #[.int .i64 4,.slice none 0 0] 24)).alloc (.cells #[.int .i64 5,.slice none 0 0] 24)).heap.size = w2.heap.size + 1 + 1:=by simp
 replace HR:=bCq HR hg
 replace HG:=gCq HG hg
 have n0:=c0q hN
 have n1:=c1q hN
 have m0:=c0q hM
 have m1:=c1q hM
 have q0:=c0q HR.out
 have q1:=c1q HR.out
 have q2:=free2_of HR.out
 clear hg
 go_wp2_with fail
 generalize (w2.alloc (.cells #[.int .i64 4,.slice none 0 0] 24)).alloc (.cells #[.int .i64 5,.slice none 0 0] 24) = wn at *
 have hX:=new_at (o:=.cells #[.int .i64 5,.slice none 0 0] 24) hszn
 refine (of_any 9 _ _ _ _).mono ?_;rintro e w3 ⟨rfl,hg⟩
 have HX:=jh (kBq hX hg)
 have hg2:=gTq (gBq _) hg
 replace HR:=jh (kBq HR.out hg2)
 replace HG:=jh (gTq HG.out hg2)
 clear hg hg2 hX q0 q1 q2
 have q0:=c0q HR.out
 have q1:=c1q HR.out
 have q2:=free2_of HR.out
 go_wp2_with fail
 change bodyPost _ _ _ _ _ (set2 w3 W.heap.size (.int .i64 9) (.slice (some ⟨w2.heap.size + 1 + 1,0,none⟩) 1 1))
 have hL:LiesT (fun b=>W.heap.size <= b /\ b ≠ W.heap.size) w3 ((.nd 9 [.nd 5 []])) (tyV 9 (some ⟨w2.heap.size + 1 + 1,0,none⟩) 1 1):=lies1 ⟨by decide,by decide⟩ (by have:=HLT.out;exact ⟨by omega,by omega⟩) HX.out (lies0 _ _ ⟨by decide,by decide⟩)
 have HL:=jh ((hL.setFar (R:=W.heap.size) (by simp) (.int .i64 9) (.slice (some ⟨w2.heap.size + 1 + 1,0,none⟩) 1 1)).okMono (ok':=(W.heap.size <= ·)) (fun b _ h=>h.1))
 clear hL
 have hb':=set2_block HR.out (.int .i64 9) (.slice (some ⟨w2.heap.size + 1 + 1,0,none⟩) 1 1)
 have hg':=grow_set2 HG.out (Nat.le_refl _) (.int .i64 9) (.slice (some ⟨w2.heap.size + 1 + 1,0,none⟩) 1 1)
 generalize set2 w3 W.heap.size (.int .i64 9) (.slice (some ⟨w2.heap.size + 1 + 1,0,none⟩) 1 1) = wf at *
 have z0:=c0q hb'
 have z1:=c1q hb'
 exact bodyPost_ret (v:=.tuple #[.agg #[.int .i64 9,.slice (some ⟨w2.heap.size + 1 + 1,0,none⟩) 1 1],.bool true]) (by simp [results,Tryz.results115,go_sem,z0,z1]) rfl ⟨hg',.inr ⟨_,_,_,_,_,rfl,rfl,HL.out⟩⟩
theorem rec_6 {p a b:Int} (h:(p = 72 /\ a = 3 /\ b = 3) \/ (p = 72 /\ a = 3 /\ b = 4) \/ (p = 72 /\ a = 4 /\ b = 3)) (wa:wholeB a = true) (wb:wholeB b = true) (W:World):Calls Tryz.prog 115 #[.int .i64 p,.int .i64 a,.int .i64 b] W (RecPost (some (divT (.nd 3 []) (.nd 4 []))) W):=by
 rcases h with ⟨rfl,rfl,rfl⟩ | ⟨rfl,rfl,rfl⟩ | ⟨rfl,rfl,rfl⟩
 all_goals
  have HR:=jh (heap_alloc_new W (.cells #[.int .i64 0,.slice none 0 0] 24))
  have HG:=jh (gBq (w:=W) (.cells #[.int .i64 0,.slice none 0 0] 24))
  go_enter Tryz.func115,Tryz.ntmps115
  go_wp2_with fail
  refine (of_any 4 _ _ _ _).mono ?_;rintro e w1 ⟨rfl,hg⟩
  replace HR:=bCq HR hg
  replace HG:=gCq HG hg
  clear hg
  go_wp2_with fail
  refine (of_any 5 _ _ _ _).mono ?_;rintro e w2 ⟨rfl,hg⟩
  replace HR:=bCq HR hg
  replace HG:=gCq HG hg
  clear hg
  have HLT:Hid (W.heap.size < w2.heap.size):=(Array.getElem?_eq_some_iff.1 HR.out).1
  obtain ⟨hg,hN,hM⟩:=start2 w2 (.cells #[.int .i64 4,.slice none 0 0] 24) (.cells #[.int .i64 5,.slice none 0 0] 24)
  have hszn:((w2.alloc (.cells #[.int .i64 4,.slice none 0 0] 24)).alloc (.cells #[.int .i64 5,.slice none 0 0] 24)).heap.size = w2.heap.size + 1 + 1:=by simp
  replace HR:=bCq HR hg
  replace HG:=gCq HG hg
  have n0:=c0q hN
  have n1:=c1q hN
  have m0:=c0q hM
  have m1:=c1q hM
  have q0:=c0q HR.out
  have q1:=c1q HR.out
  have q2:=free2_of HR.out
  clear hg
  go_wp2_with fail
  refine (isWhole_any _ _).mono ?_;rintro e w9 ⟨rfl,rfl⟩
  rw [wa]
  go_wp2_with fail
  refine (isWhole_any _ _).mono ?_;rintro e w9 ⟨rfl,rfl⟩
  rw [wb]
  go_wp2_with fail
  generalize (w2.alloc (.cells #[.int .i64 4,.slice none 0 0] 24)).alloc (.cells #[.int .i64 5,.slice none 0 0] 24) = wn at *
  have yn0:∀ w',wn.grownBy w' (some W.heap.size) -> w'.cell? ⟨w2.heap.size,0,none⟩ = some (.int .i64 4):=fun w' h=>(World.cell?_of_block (h.block _ (World.block_lt_of_cell? wn _ n0) (by have:=HLT.out;simp;omega))).trans n0
  have yn1:∀ w',wn.grownBy w' (some W.heap.size) -> w'.cell? ⟨w2.heap.size,1,none⟩ = some (.slice none 0 0):=fun w' h=>(World.cell?_of_block (h.block _ (World.block_lt_of_cell? wn _ n1) (by have:=HLT.out;simp;omega))).trans n1
  have hS0:wn.grownBy wn (some W.heap.size):=gRf _ _
  clear q0 q1 q2
  go_region_held3 (fun w'=>wn.grownBy w' (some W.heap.size)) (first | with_reducible assumption | with_reducible exact gDr (gRf _ _) | with_reducible exact grow_setR (by assumption)) (first
   | (go_at_call 125;refine (divided_any 3 4 ⟨by decide,by decide⟩ ⟨by decide,by decide⟩ _).mono ?_;rintro e w4 ⟨hg,a9,l9,c9,rfl,hL9⟩;have HL9:=jh (hL9.okMono (ok':=fun b=>W.heap.size <= b /\ b ≠ W.heap.size) (fun b _ h=>by have h1:=HLT.out;have h2:=HG3.out.size;have h3:_ <= b:=h;rw [hszn] at h2;exact ⟨by omega,by omega⟩));have HR4:=jh (kBq HR3.out hg);have HG4:=jh (gTq (gTq HG.out HG3.out) hg);have hS4:wn.grownBy w4 (some W.heap.size):=gAq (gTq HG3.out hg);have q0:=c0q HR4.out;have q1:=c1q HR4.out;have q2:=free2_of HR4.out;clear hg hL9;unfold tyV)
   | (go_at_call 29;refine (of_any 3 _ _ _ _).mono ?_;rintro e w3 ⟨rfl,hg⟩;have HR3:=jh (kBq HR.out (undrew hg));have HG3:=jh (undrew hg);have hS3:wn.grownBy w3 (some W.heap.size):=gAq HG3.out;clear hg))
  go_wp2_with fail
  change bodyPost _ _ _ _ _ (set2 w4 W.heap.size (.int .i64 9) (.slice a9 l9 c9))
  have hL:LiesT (fun b=>W.heap.size <= b /\ b ≠ W.heap.size) w4 ((divT (.nd 3 []) (.nd 4 []))) (tyV 9 a9 l9 c9):=HL9.out
  have HL:=jh ((hL.setFar (R:=W.heap.size) (by simp) (.int .i64 9) (.slice a9 l9 c9)).okMono (ok':=(W.heap.size <= ·)) (fun b _ h=>h.1))
  clear hL
  have hb':=set2_block HR4.out (.int .i64 9) (.slice a9 l9 c9)
  have hg':=grow_set2 HG4.out (Nat.le_refl _) (.int .i64 9) (.slice a9 l9 c9)
  generalize set2 w4 W.heap.size (.int .i64 9) (.slice a9 l9 c9) = wf at *
  have z0:=c0q hb'
  have z1:=c1q hb'
  exact bodyPost_ret (v:=.tuple #[.agg #[.int .i64 9,.slice a9 l9 c9],.bool true]) (by simp [results,Tryz.results115,go_sem,z0,z1]) rfl ⟨hg',.inr ⟨_,_,_,_,_,rfl,rfl,HL.out⟩⟩
theorem rec_7 {p a b:Int} (h:(p = 72 /\ a = 4 /\ b = 4)) (wa:wholeB a = true) (wb:wholeB b = true) (W:World):Calls Tryz.prog 115 #[.int .i64 p,.int .i64 a,.int .i64 b] W (RecPost (some (divT (.nd 4 []) (.nd 4 []))) W):=by
 obtain ⟨rfl,rfl,rfl⟩:=h
 have HR:=jh (heap_alloc_new W (.cells #[.int .i64 0,.slice none 0 0] 24))
 have HG:=jh (gBq (w:=W) (.cells #[.int .i64 0,.slice none 0 0] 24))
 go_enter Tryz.func115,Tryz.ntmps115
 go_wp2_with fail
 refine (of_any 4 _ _ _ _).mono ?_;rintro e w1 ⟨rfl,hg⟩
 replace HR:=bCq HR hg
 replace HG:=gCq HG hg
 clear hg
 go_wp2_with fail
 refine (of_any 5 _ _ _ _).mono ?_;rintro e w2 ⟨rfl,hg⟩
 replace HR:=bCq HR hg
 replace HG:=gCq HG hg
 clear hg
 have HLT:Hid (W.heap.size < w2.heap.size):=(Array.getElem?_eq_some_iff.1 HR.out).1
 obtain ⟨hg,hN,hM⟩:=start2 w2 (.cells #[.int .i64 4,.slice none 0 0] 24) (.cells #[.int .i64 5,.slice none 0 0] 24)
 have hszn:((w2.alloc (.cells #[.int .i64 4,.slice none 0 0] 24)).alloc (.cells #[.int .i64 5,.slice none 0 0] 24)).heap.size = w2.heap.size + 1 + 1:=by simp
 replace HR:=bCq HR hg
 replace HG:=gCq HG hg
 have n0:=c0q hN
 have n1:=c1q hN
 have m0:=c0q hM
 have m1:=c1q hM
 have q0:=c0q HR.out
 have q1:=c1q HR.out
 have q2:=free2_of HR.out
 clear hg
 go_wp2_with fail
 refine (isWhole_any _ _).mono ?_;rintro e w9 ⟨rfl,rfl⟩
 rw [wa]
 go_wp2_with fail
 refine (isWhole_any _ _).mono ?_;rintro e w9 ⟨rfl,rfl⟩
 rw [wb]
 go_wp2_with fail
 generalize (w2.alloc (.cells #[.int .i64 4,.slice none 0 0] 24)).alloc (.cells #[.int .i64 5,.slice none 0 0] 24) = wn at *
 refine (divided_any 4 4 ⟨by decide,by decide⟩ ⟨by decide,by decide⟩ _).mono ?_;rintro e w3 ⟨hg,a9,l9,c9,rfl,hL9⟩
 unfold tyV
 have HL9:=jh (hL9.okMono (ok':=fun b=>W.heap.size <= b /\ b ≠ W.heap.size) (fun b _ h=>by have h1:=HLT.out;have h2:wn.heap.size <= b:=h;rw [hszn] at h2;exact ⟨by omega,by omega⟩))
 replace HR:=bCq HR hg
 replace HG:=gCq HG hg
 clear hg hL9 q0 q1 q2
 have q0:=c0q HR.out
 have q1:=c1q HR.out
 have q2:=free2_of HR.out
 go_wp2_with fail
 change bodyPost _ _ _ _ _ (set2 w3 W.heap.size (.int .i64 9) (.slice a9 l9 c9))
 have hL:LiesT (fun b=>W.heap.size <= b /\ b ≠ W.heap.size) w3 ((divT (.nd 4 []) (.nd 4 []))) (tyV 9 a9 l9 c9):=HL9.out
 have HL:=jh ((hL.setFar (R:=W.heap.size) (by simp) (.int .i64 9) (.slice a9 l9 c9)).okMono (ok':=(W.heap.size <= ·)) (fun b _ h=>h.1))
 clear hL
 have hb':=set2_block HR.out (.int .i64 9) (.slice a9 l9 c9)
 have hg':=grow_set2 HG.out (Nat.le_refl _) (.int .i64 9) (.slice a9 l9 c9)
 generalize set2 w3 W.heap.size (.int .i64 9) (.slice a9 l9 c9) = wf at *
 have z0:=c0q hb'
 have z1:=c1q hb'
 exact bodyPost_ret (v:=.tuple #[.agg #[.int .i64 9,.slice a9 l9 c9],.bool true]) (by simp [results,Tryz.results115,go_sem,z0,z1]) rfl ⟨hg',.inr ⟨_,_,_,_,_,rfl,rfl,HL.out⟩⟩
theorem rec_8 {p a b:Int} (h:(p = 72 /\ a = 5 /\ b = 4)) (W:World):Calls Tryz.prog 115 #[.int .i64 p,.int .i64 a,.int .i64 b] W (RecPost (some (divT (.nd 5 []) (.nd 5 []))) W):=by
 obtain ⟨rfl,rfl,rfl⟩:=h
 have HR:=jh (heap_alloc_new W (.cells #[.int .i64 0,.slice none 0 0] 24))
 have HG:=jh (gBq (w:=W) (.cells #[.int .i64 0,.slice none 0 0] 24))
 go_enter Tryz.func115,Tryz.ntmps115
 go_wp2_with fail
 refine (of_any 4 _ _ _ _).mono ?_;rintro e w1 ⟨rfl,hg⟩
 replace HR:=bCq HR hg
 replace HG:=gCq HG hg
 clear hg
 go_wp2_with fail
 refine (of_any 5 _ _ _ _).mono ?_;rintro e w2 ⟨rfl,hg⟩
 replace HR:=bCq HR hg
 replace HG:=gCq HG hg
 clear hg
 have HLT:Hid (W.heap.size < w2.heap.size):=(Array.getElem?_eq_some_iff.1 HR.out).1
 obtain ⟨hg,hN,hM⟩:=start2 w2 (.cells #[.int .i64 4,.slice none 0 0] 24) (.cells #[.int .i64 5,.slice none 0 0] 24)
 have hszn:((w2.alloc (.cells #[.int .i64 4,.slice none 0 0] 24)).alloc (.cells #[.int .i64 5,.slice none 0 0] 24)).heap.size = w2.heap.size + 1 + 1:=by simp
 replace HR:=bCq HR hg
 replace HG:=gCq HG hg
 have n0:=c0q hN
 have n1:=c1q hN
 have m0:=c0q hM
 have m1:=c1q hM
 have q0:=c0q HR.out
 have q1:=c1q HR.out
 have q2:=free2_of HR.out
 clear hg
 go_wp2_with fail
 generalize (w2.alloc (.cells #[.int .i64 4,.slice none 0 0] 24)).alloc (.cells #[.int .i64 5,.slice none 0 0] 24) = wn at *
 refine (divided_any 5 5 ⟨by decide,by decide⟩ ⟨by decide,by decide⟩ _).mono ?_;rintro e w3 ⟨hg,a9,l9,c9,rfl,hL9⟩
 unfold tyV
 have HL9:=jh (hL9.okMono (ok':=fun b=>W.heap.size <= b /\ b ≠ W.heap.size) (fun b _ h=>by have h1:=HLT.out;have h2:wn.heap.size <= b:=h;rw [hszn] at h2;exact ⟨by omega,by omega⟩))
 replace HR:=bCq HR hg
 replace HG:=gCq HG hg
 clear hg hL9 q0 q1 q2
 have q0:=c0q HR.out
 have q1:=c1q HR.out
 have q2:=free2_of HR.out
 go_wp2_with fail
 change bodyPost _ _ _ _ _ (set2 w3 W.heap.size (.int .i64 9) (.slice a9 l9 c9))
 have hL:LiesT (fun b=>W.heap.size <= b /\ b ≠ W.heap.size) w3 ((divT (.nd 5 []) (.nd 5 []))) (tyV 9 a9 l9 c9):=HL9.out
 have HL:=jh ((hL.setFar (R:=W.heap.size) (by simp) (.int .i64 9) (.slice a9 l9 c9)).okMono (ok':=(W.heap.size <= ·)) (fun b _ h=>h.1))
 clear hL
 have hb':=set2_block HR.out (.int .i64 9) (.slice a9 l9 c9)
 have hg':=grow_set2 HG.out (Nat.le_refl _) (.int .i64 9) (.slice a9 l9 c9)
 generalize set2 w3 W.heap.size (.int .i64 9) (.slice a9 l9 c9) = wf at *
 have z0:=c0q hb'
 have z1:=c1q hb'
 exact bodyPost_ret (v:=.tuple #[.agg #[.int .i64 9,.slice a9 l9 c9],.bool true]) (by simp [results,Tryz.results115,go_sem,z0,z1]) rfl ⟨hg',.inr ⟨_,_,_,_,_,rfl,rfl,HL.out⟩⟩
theorem rec_9 {p a b:Int} (h:(p = 72 /\ a = 5 /\ b = 5)) (W:World):Calls Tryz.prog 115 #[.int .i64 p,.int .i64 a,.int .i64 b] W (RecPost (some (divT (.nd 4 []) (.nd 5 []))) W):=by
 obtain ⟨rfl,rfl,rfl⟩:=h
 have HR:=jh (heap_alloc_new W (.cells #[.int .i64 0,.slice none 0 0] 24))
 have HG:=jh (gBq (w:=W) (.cells #[.int .i64 0,.slice none 0 0] 24))
 go_enter Tryz.func115,Tryz.ntmps115
 go_wp2_with fail
 refine (of_any 4 _ _ _ _).mono ?_;rintro e w1 ⟨rfl,hg⟩
 replace HR:=bCq HR hg
 replace HG:=gCq HG hg
 clear hg
 go_wp2_with fail
 refine (of_any 5 _ _ _ _).mono ?_;rintro e w2 ⟨rfl,hg⟩
 replace HR:=bCq HR hg
 replace HG:=gCq HG hg
 clear hg
 have HLT:Hid (W.heap.size < w2.heap.size):=(Array.getElem?_eq_some_iff.1 HR.out).1
 obtain ⟨hg,hN,hM⟩:=start2 w2 (.cells #[.int .i64 4,.slice none 0 0] 24) (.cells #[.int .i64 5,.slice none 0 0] 24)
 have hszn:((w2.alloc (.cells #[.int .i64 4,.slice none 0 0] 24)).alloc (.cells #[.int .i64 5,.slice none 0 0] 24)).heap.size = w2.heap.size + 1 + 1:=by simp
 replace HR:=bCq HR hg
 replace HG:=gCq HG hg
 have n0:=c0q hN
 have n1:=c1q hN
 have m0:=c0q hM
 have m1:=c1q hM
 have q0:=c0q HR.out
 have q1:=c1q HR.out
 have q2:=free2_of HR.out
 clear hg
 go_wp2_with fail
 generalize (w2.alloc (.cells #[.int .i64 4,.slice none 0 0] 24)).alloc (.cells #[.int .i64 5,.slice none 0 0] 24) = wn at *
 refine (divided_any 4 5 ⟨by decide,by decide⟩ ⟨by decide,by decide⟩ _).mono ?_;rintro e w3 ⟨hg,a9,l9,c9,rfl,hL9⟩
 unfold tyV
 have HL9:=jh (hL9.okMono (ok':=fun b=>W.heap.size <= b /\ b ≠ W.heap.size) (fun b _ h=>by have h1:=HLT.out;have h2:wn.heap.size <= b:=h;rw [hszn] at h2;exact ⟨by omega,by omega⟩))
 replace HR:=bCq HR hg
 replace HG:=gCq HG hg
 clear hg hL9 q0 q1 q2
 have q0:=c0q HR.out
 have q1:=c1q HR.out
 have q2:=free2_of HR.out
 go_wp2_with fail
 change bodyPost _ _ _ _ _ (set2 w3 W.heap.size (.int .i64 9) (.slice a9 l9 c9))
 have hL:LiesT (fun b=>W.heap.size <= b /\ b ≠ W.heap.size) w3 ((divT (.nd 4 []) (.nd 5 []))) (tyV 9 a9 l9 c9):=HL9.out
 have HL:=jh ((hL.setFar (R:=W.heap.size) (by simp) (.int .i64 9) (.slice a9 l9 c9)).okMono (ok':=(W.heap.size <= ·)) (fun b _ h=>h.1))
 clear hL
 have hb':=set2_block HR.out (.int .i64 9) (.slice a9 l9 c9)
 have hg':=grow_set2 HG.out (Nat.le_refl _) (.int .i64 9) (.slice a9 l9 c9)
 generalize set2 w3 W.heap.size (.int .i64 9) (.slice a9 l9 c9) = wf at *
 have z0:=c0q hb'
 have z1:=c1q hb'
 exact bodyPost_ret (v:=.tuple #[.agg #[.int .i64 9,.slice a9 l9 c9],.bool true]) (by simp [results,Tryz.results115,go_sem,z0,z1]) rfl ⟨hg',.inr ⟨_,_,_,_,_,rfl,rfl,HL.out⟩⟩
theorem reckoned_any (p a b:Int) (hp:p = 69 \/ p = 70 \/ p = 71 \/ p = 72) (W:World):Calls Tryz.prog 115 #[.int .i64 p,.int .i64 a,.int .i64 b] W (RecPost (rKq p a b) W):=by
 rcases hp with rfl | rfl | rfl | rfl
 ·by_cases a3:a = 3
  ·subst a3;by_cases b3:b = 3
   ·subst b3;rw [show rKq 69 3 3 = _ from (show _ = some (.nd 3 []) from by simp [rKq,wholeB])];exact rec_0 (.inl ⟨rfl,rfl,rfl⟩) (by simp [wholeB]) (by simp [wholeB]) W
   ·by_cases b4:b = 4
    ·subst b4;rw [show rKq 69 3 4 = _ from (show _ = some (.nd 3 []) from by simp [rKq,wholeB])];exact rec_0 (.inr (.inl ⟨rfl,rfl,rfl⟩)) (by simp [wholeB]) (by simp [wholeB]) W
    ·by_cases b5:b = 5
     ·subst b5;rw [show rKq 69 3 5 = _ from (show _ = none from by simp [rKq,wholeB])];exact rec_1 (.inl ⟨rfl,rfl,rfl⟩) (by simp [wholeB]) (by simp [wholeB]) W
     ·rw [show rKq 69 3 b = _ from (show _ = none from by simp [rKq,wholeB,b3,b4,b5])];exact rec_1 (.inr (.inl ⟨rfl,rfl,(by simpa using b3),(by simpa using b4),(by simpa using b5)⟩)) (by simp [wholeB]) (by simp [wholeB,b3,b4]) W
  ·by_cases a4:a = 4
   ·subst a4;by_cases b3:b = 3
    ·subst b3;rw [show rKq 69 4 3 = _ from (show _ = some (.nd 3 []) from by simp [rKq,wholeB])];exact rec_0 (.inr (.inr (.inl ⟨rfl,rfl,rfl⟩))) (by simp [wholeB]) (by simp [wholeB]) W
    ·by_cases b4:b = 4
     ·subst b4;rw [show rKq 69 4 4 = _ from (show _ = some (.nd 4 []) from by simp [rKq,wholeB])];exact rec_2 (.inl ⟨rfl,rfl,rfl⟩) (by simp [wholeB]) (by simp [wholeB]) W
     ·by_cases b5:b = 5
      ·subst b5;rw [show rKq 69 4 5 = _ from (show _ = none from by simp [rKq,wholeB])];exact rec_1 (.inr (.inr (.inl ⟨rfl,rfl,rfl⟩))) (by simp [wholeB]) (by simp [wholeB]) W
      ·rw [show rKq 69 4 b = _ from (show _ = none from by simp [rKq,wholeB,b3,b4,b5])];exact rec_1 (.inr (.inr (.inr (.inl ⟨rfl,rfl,(by simpa using b3),(by simpa using b4),(by simpa using b5)⟩)))) (by simp [wholeB]) (by simp [wholeB,b3,b4]) W
   ·by_cases a5:a = 5
    ·subst a5;by_cases b3:b = 3
     ·subst b3;rw [show rKq 69 5 3 = _ from (show _ = none from by simp [rKq,wholeB])];exact rec_3 (.inl ⟨rfl,rfl,rfl⟩) (by simp [wholeB]) W
     ·by_cases b4:b = 4
      ·subst b4;rw [show rKq 69 5 4 = _ from (show _ = none from by simp [rKq,wholeB])];exact rec_3 (.inr (.inl ⟨rfl,rfl,rfl⟩)) (by simp [wholeB]) W
      ·by_cases b5:b = 5
       ·subst b5;rw [show rKq 69 5 5 = _ from (show _ = some (.nd 5 []) from by simp [rKq,wholeB])];exact rec_4 (.inl ⟨rfl,rfl,rfl⟩)  W
       ·rw [show rKq 69 5 b = _ from (show _ = none from by simp [rKq,wholeB,b3,b4,b5])];exact rec_3 (.inr (.inr (.inl ⟨rfl,rfl,(by simpa using b3),(by simpa using b4),(by simpa using b5)⟩))) (by simp [wholeB]) W
    ·by_cases b3:b = 3
     ·subst b3;rw [show rKq 69 a 3 = _ from (show _ = none from by simp [rKq,wholeB,a3,a4,a5])];exact rec_3 (.inr (.inr (.inr (.inl ⟨rfl,(by simpa using a3),(by simpa using a4),(by simpa using a5),rfl⟩)))) (by simp [wholeB,a3,a4]) W
     ·by_cases b4:b = 4
      ·subst b4;rw [show rKq 69 a 4 = _ from (show _ = none from by simp [rKq,wholeB,a3,a4,a5])];exact rec_3 (.inr (.inr (.inr (.inr (.inl ⟨rfl,(by simpa using a3),(by simpa using a4),(by simpa using a5),rfl⟩))))) (by simp [wholeB,a3,a4]) W
      ·by_cases b5:b = 5
       ·subst b5;rw [show rKq 69 a 5 = _ from (show _ = none from by simp [rKq,wholeB,a3,a4,a5])];exact rec_3 (.inr (.inr (.inr (.inr (.inr (.inl ⟨rfl,(by simpa using a3),(by simpa using a4),(by simpa using a5),rfl⟩)))))) (by simp [wholeB,a3,a4]) W
       ·rw [show rKq 69 a b = _ from (show _ = none from by simp [rKq,wholeB,a3,a4,a5,b3,b4,b5])];exact rec_3 (.inr (.inr (.inr (.inr (.inr (.inr (.inl ⟨rfl,(by simpa using a3),(by simpa using a4),(by simpa using a5),(by simpa using b3),(by simpa using b4),(by simpa using b5)⟩))))))) (by simp [wholeB,a3,a4]) W
 ·by_cases a3:a = 3
  ·subst a3;by_cases b3:b = 3
   ·subst b3;rw [show rKq 70 3 3 = _ from (show _ = some (.nd 3 []) from by simp [rKq,wholeB])];exact rec_0 (.inr (.inr (.inr (.inl ⟨rfl,rfl,rfl⟩)))) (by simp [wholeB]) (by simp [wholeB]) W
   ·by_cases b4:b = 4
    ·subst b4;rw [show rKq 70 3 4 = _ from (show _ = some (.nd 3 []) from by simp [rKq,wholeB])];exact rec_0 (.inr (.inr (.inr (.inr (.inl ⟨rfl,rfl,rfl⟩))))) (by simp [wholeB]) (by simp [wholeB]) W
    ·by_cases b5:b = 5
     ·subst b5;rw [show rKq 70 3 5 = _ from (show _ = none from by simp [rKq,wholeB])];exact rec_1 (.inr (.inr (.inr (.inr (.inl ⟨rfl,rfl,rfl⟩))))) (by simp [wholeB]) (by simp [wholeB]) W
     ·rw [show rKq 70 3 b = _ from (show _ = none from by simp [rKq,wholeB,b3,b4,b5])];exact rec_1 (.inr (.inr (.inr (.inr (.inr (.inl ⟨rfl,rfl,(by simpa using b3),(by simpa using b4),(by simpa using b5)⟩)))))) (by simp [wholeB]) (by simp [wholeB,b3,b4]) W
  ·by_cases a4:a = 4
   ·subst a4;by_cases b3:b = 3
    ·subst b3;rw [show rKq 70 4 3 = _ from (show _ = some (.nd 3 []) from by simp [rKq,wholeB])];exact rec_0 (.inr (.inr (.inr (.inr (.inr (.inl ⟨rfl,rfl,rfl⟩)))))) (by simp [wholeB]) (by simp [wholeB]) W
    ·by_cases b4:b = 4
     ·subst b4;rw [show rKq 70 4 4 = _ from (show _ = some (.nd 3 []) from by simp [rKq,wholeB])];exact rec_0 (.inr (.inr (.inr (.inr (.inr (.inr (.inl ⟨rfl,rfl,rfl⟩))))))) (by simp [wholeB]) (by simp [wholeB]) W
     ·by_cases b5:b = 5
      ·subst b5;rw [show rKq 70 4 5 = _ from (show _ = none from by simp [rKq,wholeB])];exact rec_1 (.inr (.inr (.inr (.inr (.inr (.inr (.inl ⟨rfl,rfl,rfl⟩))))))) (by simp [wholeB]) (by simp [wholeB]) W
      ·rw [show rKq 70 4 b = _ from (show _ = none from by simp [rKq,wholeB,b3,b4,b5])];exact rec_1 (.inr (.inr (.inr (.inr (.inr (.inr (.inr (.inl ⟨rfl,rfl,(by simpa using b3),(by simpa using b4),(by simpa using b5)⟩)))))))) (by simp [wholeB]) (by simp [wholeB,b3,b4]) W
   ·by_cases a5:a = 5
    ·subst a5;by_cases b3:b = 3
     ·subst b3;rw [show rKq 70 5 3 = _ from (show _ = none from by simp [rKq,wholeB])];exact rec_3 (.inr (.inr (.inr (.inr (.inr (.inr (.inr (.inl ⟨rfl,rfl,rfl⟩)))))))) (by simp [wholeB]) W
     ·by_cases b4:b = 4
      ·subst b4;rw [show rKq 70 5 4 = _ from (show _ = none from by simp [rKq,wholeB])];exact rec_3 (.inr (.inr (.inr (.inr (.inr (.inr (.inr (.inr (.inl ⟨rfl,rfl,rfl⟩))))))))) (by simp [wholeB]) W
      ·by_cases b5:b = 5
       ·subst b5;rw [show rKq 70 5 5 = _ from (show _ = some (.nd 9 [.nd 5 []]) from by simp [rKq,wholeB])];exact rec_5 ⟨rfl,rfl,rfl⟩  W
       ·rw [show rKq 70 5 b = _ from (show _ = none from by simp [rKq,wholeB,b3,b4,b5])];exact rec_3 (.inr (.inr (.inr (.inr (.inr (.inr (.inr (.inr (.inr (.inl ⟨rfl,rfl,(by simpa using b3),(by simpa using b4),(by simpa using b5)⟩)))))))))) (by simp [wholeB]) W
    ·by_cases b3:b = 3
     ·subst b3;rw [show rKq 70 a 3 = _ from (show _ = none from by simp [rKq,wholeB,a3,a4,a5])];exact rec_3 (.inr (.inr (.inr (.inr (.inr (.inr (.inr (.inr (.inr (.inr (.inl ⟨rfl,(by simpa using a3),(by simpa using a4),(by simpa using a5),rfl⟩))))))))))) (by simp [wholeB,a3,a4]) W
     ·by_cases b4:b = 4
      ·subst b4;rw [show rKq 70 a 4 = _ from (show _ = none from by simp [rKq,wholeB,a3,a4,a5])];exact rec_3 (.inr (.inr (.inr (.inr (.inr (.inr (.inr (.inr (.inr (.inr (.inr (.inl ⟨rfl,(by simpa using a3),(by simpa using a4),(by simpa using a5),rfl⟩)))))))))))) (by simp [wholeB,a3,a4]) W
      ·by_cases b5:b = 5
       ·subst b5;rw [show rKq 70 a 5 = _ from (show _ = none from by simp [rKq,wholeB,a3,a4,a5])];exact rec_3 (.inr (.inr (.inr (.inr (.inr (.inr (.inr (.inr (.inr (.inr (.inr (.inr (.inl ⟨rfl,(by simpa using a3),(by simpa using a4),(by simpa using a5),rfl⟩))))))))))))) (by simp [wholeB,a3,a4]) W
       ·rw [show rKq 70 a b = _ from (show _ = none from by simp [rKq,wholeB,a3,a4,a5,b3,b4,b5])];exact rec_3 (.inr (.inr (.inr (.inr (.inr (.inr (.inr (.inr (.inr (.inr (.inr (.inr (.inr (.inl ⟨rfl,(by simpa using a3),(by simpa using a4),(by simpa using a5),(by simpa using b3),(by simpa using b4),(by simpa using b5)⟩)))))))))))))) (by simp [wholeB,a3,a4]) W
 ·by_cases a3:a = 3
  ·subst a3;by_cases b3:b = 3
   ·subst b3;rw [show rKq 71 3 3 = _ from (show _ = some (.nd 3 []) from by simp [rKq,wholeB])];exact rec_0 (.inr (.inr (.inr (.inr (.inr (.inr (.inr (.inl ⟨rfl,rfl,rfl⟩)))))))) (by simp [wholeB]) (by simp [wholeB]) W
   ·by_cases b4:b = 4
    ·subst b4;rw [show rKq 71 3 4 = _ from (show _ = some (.nd 3 []) from by simp [rKq,wholeB])];exact rec_0 (.inr (.inr (.inr (.inr (.inr (.inr (.inr (.inr (.inl ⟨rfl,rfl,rfl⟩))))))))) (by simp [wholeB]) (by simp [wholeB]) W
    ·by_cases b5:b = 5
     ·subst b5;rw [show rKq 71 3 5 = _ from (show _ = none from by simp [rKq,wholeB])];exact rec_1 (.inr (.inr (.inr (.inr (.inr (.inr (.inr (.inr (.inl ⟨rfl,rfl,rfl⟩))))))))) (by simp [wholeB]) (by simp [wholeB]) W
     ·rw [show rKq 71 3 b = _ from (show _ = none from by simp [rKq,wholeB,b3,b4,b5])];exact rec_1 (.inr (.inr (.inr (.inr (.inr (.inr (.inr (.inr (.inr (.inl ⟨rfl,rfl,(by simpa using b3),(by simpa using b4),(by simpa using b5)⟩)))))))))) (by simp [wholeB]) (by simp [wholeB,b3,b4]) W
  ·by_cases a4:a = 4
   ·subst a4;by_cases b3:b = 3
    ·subst b3;rw [show rKq 71 4 3 = _ from (show _ = some (.nd 3 []) from by simp [rKq,wholeB])];exact rec_0 (.inr (.inr (.inr (.inr (.inr (.inr (.inr (.inr (.inr ⟨rfl,rfl,rfl⟩))))))))) (by simp [wholeB]) (by simp [wholeB]) W
    ·by_cases b4:b = 4
     ·subst b4;rw [show rKq 71 4 4 = _ from (show _ = some (.nd 4 []) from by simp [rKq,wholeB])];exact rec_2 (.inr ⟨rfl,rfl,rfl⟩) (by simp [wholeB]) (by simp [wholeB]) W
     ·by_cases b5:b = 5
      ·subst b5;rw [show rKq 71 4 5 = _ from (show _ = some (.nd 5 []) from by simp [rKq,wholeB])];exact rec_4 (.inr (.inl ⟨rfl,rfl,rfl⟩))  W
      ·rw [show rKq 71 4 b = _ from (show _ = none from by simp [rKq,wholeB,b3,b4,b5])];exact rec_1 (.inr (.inr (.inr (.inr (.inr (.inr (.inr (.inr (.inr (.inr (.inl ⟨rfl,rfl,(by simpa using b3),(by simpa using b4),(by simpa using b5)⟩))))))))))) (by simp [wholeB]) (by simp [wholeB,b3,b4]) W
   ·by_cases a5:a = 5
    ·subst a5;by_cases b3:b = 3
     ·subst b3;rw [show rKq 71 5 3 = _ from (show _ = none from by simp [rKq,wholeB])];exact rec_3 (.inr (.inr (.inr (.inr (.inr (.inr (.inr (.inr (.inr (.inr (.inr (.inr (.inr (.inr (.inl ⟨rfl,rfl,rfl⟩))))))))))))))) (by simp [wholeB]) W
     ·by_cases b4:b = 4
      ·subst b4;rw [show rKq 71 5 4 = _ from (show _ = some (.nd 5 []) from by simp [rKq,wholeB])];exact rec_4 (.inr (.inr ⟨rfl,rfl,rfl⟩))  W
      ·by_cases b5:b = 5
       ·subst b5;rw [show rKq 71 5 5 = _ from (show _ = none from by simp [rKq,wholeB])];exact rec_3 (.inr (.inr (.inr (.inr (.inr (.inr (.inr (.inr (.inr (.inr (.inr (.inr (.inr (.inr (.inr (.inl ⟨rfl,rfl,rfl⟩)))))))))))))))) (by simp [wholeB]) W
       ·rw [show rKq 71 5 b = _ from (show _ = none from by simp [rKq,wholeB,b3,b4,b5])];exact rec_3 (.inr (.inr (.inr (.inr (.inr (.inr (.inr (.inr (.inr (.inr (.inr (.inr (.inr (.inr (.inr (.inr (.inl ⟨rfl,rfl,(by simpa using b3),(by simpa using b4),(by simpa using b5)⟩))))))))))))))))) (by simp [wholeB]) W
    ·by_cases b3:b = 3
     ·subst b3;rw [show rKq 71 a 3 = _ from (show _ = none from by simp [rKq,wholeB,a3,a4,a5])];exact rec_3 (.inr (.inr (.inr (.inr (.inr (.inr (.inr (.inr (.inr (.inr (.inr (.inr (.inr (.inr (.inr (.inr (.inr (.inl ⟨rfl,(by simpa using a3),(by simpa using a4),(by simpa using a5),rfl⟩)))))))))))))))))) (by simp [wholeB,a3,a4]) W
     ·by_cases b4:b = 4
      ·subst b4;rw [show rKq 71 a 4 = _ from (show _ = none from by simp [rKq,wholeB,a3,a4,a5])];exact rec_3 (.inr (.inr (.inr (.inr (.inr (.inr (.inr (.inr (.inr (.inr (.inr (.inr (.inr (.inr (.inr (.inr (.inr (.inr (.inl ⟨rfl,(by simpa using a3),(by simpa using a4),(by simpa using a5),rfl⟩))))))))))))))))))) (by simp [wholeB,a3,a4]) W
      ·by_cases b5:b = 5
       ·subst b5;rw [show rKq 71 a 5 = _ from (show _ = none from by simp [rKq,wholeB,a3,a4,a5])];exact rec_3 (.inr (.inr (.inr (.inr (.inr (.inr (.inr (.inr (.inr (.inr (.inr (.inr (.inr (.inr (.inr (.inr (.inr (.inr (.inr (.inl ⟨rfl,(by simpa using a3),(by simpa using a4),(by simpa using a5),rfl⟩)))))))))))))))))))) (by simp [wholeB,a3,a4]) W
       ·rw [show rKq 71 a b = _ from (show _ = none from by simp [rKq,wholeB,a3,a4,a5,b3,b4,b5])];exact rec_3 (.inr (.inr (.inr (.inr (.inr (.inr (.inr (.inr (.inr (.inr (.inr (.inr (.inr (.inr (.inr (.inr (.inr (.inr (.inr (.inr (.inl ⟨rfl,(by simpa using a3),(by simpa using a4),(by simpa using a5),(by simpa using b3),(by simpa using b4),(by simpa using b5)⟩))))))))))))))))))))) (by simp [wholeB,a3,a4]) W
 ·by_cases a3:a = 3
  ·subst a3;by_cases b3:b = 3
   ·subst b3;rw [show rKq 72 3 3 = _ from (show _ = some (divT (.nd 3 []) (.nd 4 [])) from by simp [rKq,wholeB])];exact rec_6 (.inl ⟨rfl,rfl,rfl⟩) (by simp [wholeB]) (by simp [wholeB]) W
   ·by_cases b4:b = 4
    ·subst b4;rw [show rKq 72 3 4 = _ from (show _ = some (divT (.nd 3 []) (.nd 4 [])) from by simp [rKq,wholeB])];exact rec_6 (.inr (.inl ⟨rfl,rfl,rfl⟩)) (by simp [wholeB]) (by simp [wholeB]) W
    ·by_cases b5:b = 5
     ·subst b5;rw [show rKq 72 3 5 = _ from (show _ = none from by simp [rKq,wholeB])];exact rec_1 (.inr (.inr (.inr (.inr (.inr (.inr (.inr (.inr (.inr (.inr (.inr (.inl ⟨rfl,rfl,rfl⟩)))))))))))) (by simp [wholeB]) (by simp [wholeB]) W
     ·rw [show rKq 72 3 b = _ from (show _ = none from by simp [rKq,wholeB,b3,b4,b5])];exact rec_1 (.inr (.inr (.inr (.inr (.inr (.inr (.inr (.inr (.inr (.inr (.inr (.inr (.inl ⟨rfl,rfl,(by simpa using b3),(by simpa using b4),(by simpa using b5)⟩))))))))))))) (by simp [wholeB]) (by simp [wholeB,b3,b4]) W
  ·by_cases a4:a = 4
   ·subst a4;by_cases b3:b = 3
    ·subst b3;rw [show rKq 72 4 3 = _ from (show _ = some (divT (.nd 3 []) (.nd 4 [])) from by simp [rKq,wholeB])];exact rec_6 (.inr (.inr ⟨rfl,rfl,rfl⟩)) (by simp [wholeB]) (by simp [wholeB]) W
    ·by_cases b4:b = 4
     ·subst b4;rw [show rKq 72 4 4 = _ from (show _ = some (divT (.nd 4 []) (.nd 4 [])) from by simp [rKq,wholeB])];exact rec_7 ⟨rfl,rfl,rfl⟩ (by simp [wholeB]) (by simp [wholeB]) W
     ·by_cases b5:b = 5
      ·subst b5;rw [show rKq 72 4 5 = _ from (show _ = none from by simp [rKq,wholeB])];exact rec_1 (.inr (.inr (.inr (.inr (.inr (.inr (.inr (.inr (.inr (.inr (.inr (.inr (.inr (.inl ⟨rfl,rfl,rfl⟩)))))))))))))) (by simp [wholeB]) (by simp [wholeB]) W
      ·rw [show rKq 72 4 b = _ from (show _ = none from by simp [rKq,wholeB,b3,b4,b5])];exact rec_1 (.inr (.inr (.inr (.inr (.inr (.inr (.inr (.inr (.inr (.inr (.inr (.inr (.inr (.inr ⟨rfl,rfl,(by simpa using b3),(by simpa using b4),(by simpa using b5)⟩)))))))))))))) (by simp [wholeB]) (by simp [wholeB,b3,b4]) W
   ·by_cases a5:a = 5
    ·subst a5;by_cases b3:b = 3
     ·subst b3;rw [show rKq 72 5 3 = _ from (show _ = none from by simp [rKq,wholeB])];exact rec_3 (.inr (.inr (.inr (.inr (.inr (.inr (.inr (.inr (.inr (.inr (.inr (.inr (.inr (.inr (.inr (.inr (.inr (.inr (.inr (.inr (.inr (.inl ⟨rfl,rfl,rfl⟩)))))))))))))))))))))) (by simp [wholeB]) W
     ·by_cases b4:b = 4
      ·subst b4;rw [show rKq 72 5 4 = _ from (show _ = some (divT (.nd 5 []) (.nd 5 [])) from by simp [rKq,wholeB])];exact rec_8 ⟨rfl,rfl,rfl⟩  W
      ·by_cases b5:b = 5
       ·subst b5;rw [show rKq 72 5 5 = _ from (show _ = some (divT (.nd 4 []) (.nd 5 [])) from by simp [rKq,wholeB])];exact rec_9 ⟨rfl,rfl,rfl⟩  W
       ·rw [show rKq 72 5 b = _ from (show _ = none from by simp [rKq,wholeB,b3,b4,b5])];exact rec_3 (.inr (.inr (.inr (.inr (.inr (.inr (.inr (.inr (.inr (.inr (.inr (.inr (.inr (.inr (.inr (.inr (.inr (.inr (.inr (.inr (.inr (.inr (.inl ⟨rfl,rfl,(by simpa using b3),(by simpa using b4),(by simpa using b5)⟩))))))))))))))))))))))) (by simp [wholeB]) W
    ·by_cases b3:b = 3
     ·subst b3;rw [show rKq 72 a 3 = _ from (show _ = none from by simp [rKq,wholeB,a3,a4,a5])];exact rec_3 (.inr (.inr (.inr (.inr (.inr (.inr (.inr (.inr (.inr (.inr (.inr (.inr (.inr (.inr (.inr (.inr (.inr (.inr (.inr (.inr (.inr (.inr (.inr (.inl ⟨rfl,(by simpa using a3),(by simpa using a4),(by simpa using a5),rfl⟩)))))))))))))))))))))))) (by simp [wholeB,a3,a4]) W
     ·by_cases b4:b = 4
      ·subst b4;rw [show rKq 72 a 4 = _ from (show _ = none from by simp [rKq,wholeB,a3,a4,a5])];exact rec_3 (.inr (.inr (.inr (.inr (.inr (.inr (.inr (.inr (.inr (.inr (.inr (.inr (.inr (.inr (.inr (.inr (.inr (.inr (.inr (.inr (.inr (.inr (.inr (.inr (.inl ⟨rfl,(by simpa using a3),(by simpa using a4),(by simpa using a5),rfl⟩))))))))))))))))))))))))) (by simp [wholeB,a3,a4]) W
      ·by_cases b5:b = 5
       ·subst b5;rw [show rKq 72 a 5 = _ from (show _ = none from by simp [rKq,wholeB,a3,a4,a5])];exact rec_3 (.inr (.inr (.inr (.inr (.inr (.inr (.inr (.inr (.inr (.inr (.inr (.inr (.inr (.inr (.inr (.inr (.inr (.inr (.inr (.inr (.inr (.inr (.inr (.inr (.inr (.inl ⟨rfl,(by simpa using a3),(by simpa using a4),(by simpa using a5),rfl⟩)))))))))))))))))))))))))) (by simp [wholeB,a3,a4]) W
       ·rw [show rKq 72 a b = _ from (show _ = none from by simp [rKq,wholeB,a3,a4,a5,b3,b4,b5])];exact rec_3 (.inr (.inr (.inr (.inr (.inr (.inr (.inr (.inr (.inr (.inr (.inr (.inr (.inr (.inr (.inr (.inr (.inr (.inr (.inr (.inr (.inr (.inr (.inr (.inr (.inr (.inr ⟨rfl,(by simpa using a3),(by simpa using a4),(by simpa using a5),(by simpa using b3),(by simpa using b4),(by simpa using b5)⟩)))))))))))))))))))))))))) (by simp [wholeB,a3,a4]) W
end Go.Proofs.YtkglnoimbekhhaaGreat
