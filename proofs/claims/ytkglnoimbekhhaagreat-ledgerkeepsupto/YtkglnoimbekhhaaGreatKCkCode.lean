import Derived.Test.YtkglnoimbekhhaaGreatKZl
import Derived.Test.YtkglnoimbekhhaaGreatKZv
import Derived.Test.YtkglnoimbekhhaaGreatKZm
namespace Go.Proofs.YtkglnoimbekhhaaGreat
set_option maxRecDepth 100000
set_option maxHeartbeats 4000000
open Go.ChangeShapes Go.WideShapes Go.ChangeAt Go.RowKit
set_option linter.unusedVariables false
set_option linter.unusedSimpArgs false
theorem copies_nil (W:World) (a:Option Addr) (c:Nat):Calls Tryz.prog 59 #[.slice a 0 c] W fun e w'=>e = .returned (.slice none 0 0) /\ w' = W:=by
 go_enter Tryz.func59,Tryz.ntmps59
 go_wp2_with fail
 go_loopw [3,8] (fun lv iv wr=>wr = W /\ lv = .slice none 0 0 /\ iv = .int .i64 0) (fun _ _ _=>0)
 case atStart=>exact ⟨rfl,rfl,rfl⟩
 case round =>
  obtain ⟨hw,rfl,rfl⟩:=hrel
  replace hw:=hw.symm
  subst hw
  go_wp2_with fail
  go_ret
  exact ⟨rfl,rfl⟩
theorem set_cell0 {w:World} {g:Nat} {x0 x1:Value} {T:TypeId} (h:w.heap[g]? = some (.cells #[x0,x1] T (0,0))) (y:Value):(w.setCell ⟨g,0,none⟩ y).heap[g]? = some (.cells #[y,x1] T (0,0)):=by
 have h1:=heap_setCell_same w g 0 #[x0,x1] T y h
 simpa using h1
theorem renewed_any {W:World} {r:Led} {a:Option Addr} {l c:Nat} {f:Bool} {er:Int} (h:LedIs W r a l c f er) (hz:∀ ts,r = .ok f ts -> tysizes ts <= 1000000) :
 Calls Tryz.prog 42 #[.agg #[.slice a l c,.bool f],.int .i64 er] W (LPq r W):=by
 obtain ⟨hg3,hI3,hR3⟩:=start2 W (.cells #[.slice a l c,.bool f] 62) (.cells #[.slice none 0 0,.bool false] 62)
 have x0:=c0q hI3
 have x1:=c1q hI3
 have HG3:=jh hg3
 have HI3:=jh hI3
 have HR3:=jh hR3
 clear hI3 hR3
 rcases h with ⟨rfl,hne,rfl,rfl,rfl,rfl⟩ | ⟨ts,rfl,rfl,hr⟩
 ·clear hg3 hz
  go_enter Tryz.func42,Tryz.ntmps42
  go_wp2_with fail
  generalize (W.alloc _).alloc _ = W3 at *
  refine (copies_nil _ _ _).mono ?_;rintro e w1 ⟨rfl,rfl⟩
  have f0:=free2_of HI3.out
  have hI4:=set_cell0 HI3.out (.slice none 0 0)
  have hR4:(w1.setCell ⟨W.heap.size,0,none⟩ (.slice none 0 0)).heap[W.heap.size + 1]? = _:=((gSq (gRf w1 (some W.heap.size)) _ _ _).block _ (Array.getElem?_eq_some_iff.1 HR3.out).1 (by simp)).trans HR3.out
  have HG4:=jh (grow_setNew HG3.out (Nat.le_refl _) 0 none (.slice none 0 0))
  have x0':=c0q hI4
  have x1':=c1q hI4
  have q0:=c0q hR4
  have q1:=c1q hR4
  have q2:=free2_of hR4
  have HR4:=jh hR4
  clear hI4 hR4
  go_wp2_with fail
  generalize w1.setCell ⟨W.heap.size,0,none⟩ (.slice none 0 0) = w4 at *
  change bodyPost _ _ _ _ _ (set2 w4 (W.heap.size + 1) (.slice none 0 0) (.bool false))
  have hb':=set2_block HR4.out (.slice none 0 0) (.bool false)
  have hl':LPq (.no er) W (.returned (.tuple #[.agg #[.slice none 0 0,.bool false],.int .i64 er])) (set2 w4 (W.heap.size + 1) (.slice none 0 0) (.bool false)):=⟨grow_set2 HG4.out (Nat.le_succ _) _ _,.inl ⟨er,rfl,hne,rfl⟩⟩
  generalize set2 w4 (W.heap.size + 1) (.slice none 0 0) (.bool false) = wf at *
  have z0:=c0q hb'
  have z1:=c1q hb'
  exact bodyPost_ret (v:=.tuple #[.agg #[.slice none 0 0,.bool false],.int .i64 er]) (by simp [results,Tryz.results42,go_sem,z0,z1]) rfl hl'
 ·have HC:=jh (copies_any 1000000 (hr.grow hg3) (hz ts rfl) (Nat.le_refl _))
  clear hr hg3 hz
  go_enter Tryz.func42,Tryz.ntmps42
  go_wp2_with fail
  refine HC.out.mono ?_;rintro e w1 hp
  obtain ⟨hg,a2,c2,V2,rfl,hc2,hr2⟩:=hp
  obtain ⟨l2,hl2⟩:∃ l2,l2 = ts.length:=⟨_,rfl⟩
  have hrow:RowC w1 ts (.slice a2 l2 c2):=⟨a2,c2,V2,by rw [hl2],hc2,hr2.okMono (fun _ _ _=>trivial)⟩
  rw [← hl2]
  have HROW:=jh hrow
  replace HI3:=bCq HI3 hg
  replace HR3:=bCq HR3 hg
  replace HG3:=gCq HG3 hg
  clear hg hr2 hrow hl2 hc2 HC x0 x1
  have x0:=c0q HI3.out
  have x1:=c1q HI3.out
  have f0:=free2_of HI3.out
  have hI4:=set_cell0 HI3.out (.slice a2 l2 c2)
  have hR4:(w1.setCell ⟨W.heap.size,0,none⟩ (.slice a2 l2 c2)).heap[W.heap.size + 1]? = _:=((gSq (gRf w1 (some W.heap.size)) _ _ _).block _ (Array.getElem?_eq_some_iff.1 HR3.out).1 (by simp)).trans HR3.out
  have HG4:=jh (grow_setNew HG3.out (Nat.le_refl _) 0 none (.slice a2 l2 c2))
  have HROW4:Hid (RowC (w1.setCell ⟨W.heap.size,0,none⟩ (.slice a2 l2 c2)) ts (.slice a2 l2 c2)):=by
   obtain ⟨a',c',V,e,h1,hr⟩:=HROW.out
   have hs:Same (fun b=>True /\ b ≠ W.heap.size) w1 (w1.setCell ⟨W.heap.size,0,none⟩ (.slice a2 l2 c2)):=fun b o hk hlt=>World.cell?_of_block ((gSq (gRf w1 (some W.heap.size)) _ _ _).block b hlt (by have:=hk.2;simp;omega))
   have hr2:RowT (fun b=>True /\ b ≠ W.heap.size) w1 ts a' V:=⟨hr.1,fun i hi=>(hr.2.1 i hi).ne HI3.out,fun i hi=>(hr.2.2 i hi).ne HI3.out⟩
   exact ⟨a',c',V,e,h1,(hr2.same hs).okMono (fun _ _ _=>trivial)⟩
  have x0':=c0q hI4
  have x1':=c1q hI4
  have q0:=c0q hR4
  have q1:=c1q hR4
  have q2:=free2_of hR4
  have HR4:=jh hR4
  clear hI4 hR4
  go_wp2_with fail
  generalize w1.setCell ⟨W.heap.size,0,none⟩ (.slice a2 l2 c2) = w4 at *
  change bodyPost _ _ _ _ _ (set2 w4 (W.heap.size + 1) (.slice a2 l2 c2) (.bool f))
  have hb':=set2_block HR4.out (.slice a2 l2 c2) (.bool f)
  have hl':=is_end (W:=W) (R:=W.heap.size + 1) (f:=f) (ts:=ts) (r:=.ok f ts) rfl HROW4.out HG4.out (Nat.le_succ _) HR4.out
  generalize set2 w4 (W.heap.size + 1) (.slice a2 l2 c2) (.bool f) = wf at *
  have z0:=c0q hb'
  have z1:=c1q hb'
  exact bodyPost_ret (v:=.tuple #[.agg #[.slice a2 l2 c2,.bool f],.int .i64 0]) (by simp [results,Tryz.results42,go_sem,z0,z1]) rfl hl'
theorem tys_good:∀ {ts:List Ty},ts.all gYq = true -> tysizes ts <= ts.length * 300
 | [],_=>by simp [tysizes]
 | T :: ts,h=>by
  simp only [List.all_cons,Bool.and_eq_true] at h
  have h1:=tys_good h.2
  have h2:T.size <= 300:=by
   have h3:=h.1
   simp only [gYq,Bool.and_eq_true,decide_eq_true_eq] at h3
   exact h3.1.2
  simp only [tysizes,List.length_cons]
  omega
theorem code_any {W:World} {n:Tr} {u:Value} {s:List Ty} {sa:Option Addr} {sl sc:Nat} (hL:Lies (fun _=>True) W n u) (hs:RowC W s (.slice sa sl sc)) (hz:n.size <= 4611686018427387903)
 (hstep:∀ (t:Tr) (v:Value) (W2:World) (s2:List Ty) (a2:Option Addr) (l2 c2:Nat),t.size <= 300 -> Lies (fun _=>True) W2 t v -> RowC W2 s2 (.slice a2 l2 c2) -> s2.length <= 40 -> s2.all gYq = true -> Calls Tryz.prog 61 #[v,.slice a2 l2 c2] W2 (LPq (stepF 300 t s2) W2)) :
 Calls Tryz.prog 28 #[u,.slice sa sl sc] W (LPq (codeF n s) W):=by
 obtain ⟨na,nc,VN,e1,⟨ik,iN,ip,hss⟩,hRN⟩:=hL.invN
 obtain ⟨hl,hlc,hm⟩:=hs.len
 subst hl
 unfold maxLen at hm
 rw [e1] at hL ⊢
 obtain ⟨hg3,hI3,hR3⟩:=start2 W (.cells #[.int .i64 n.k0,.int .i64 n.n0,.int .i64 n.p0,.string n.s0,.slice na n.args0.length nc] 48) (.cells #[.slice none 0 0,.bool false] 62)
 obtain ⟨m0,m1,m2,m3,m4⟩:=box5 hI3
 have HGD:=jh (good_any (hL.same (sAl hg3) |>.okMono (fun b hb _=>hb)) (by omega))
 have HG3:=jh hg3
 have HR3:=jh hR3
 have HS3:=jh (hs.grow hg3)
 have HN3:=jh (hRN.same (sAl hg3))
 have HSTEP:=jh hstep
 obtain ⟨q,hq⟩:∃ q:Led,q = codeF n s:=⟨_,rfl⟩
 rw [← hq]
 unfold codeF at hq
 unfold nodeV at HGD ⊢
 generalize hge:goodF n = ge at *
 have HGE:=jh hge
 generalize hk:n.k0 = k at *
 clear hL hs hRN hg3 hI3 hR3 hstep hz e1 hge
 by_cases h1:ge = 0
 ·subst h1
  by_cases h2:k = 3
  ·subst h2
   by_cases h3:40 < s.length
   ·have HQ:Hid (q = .no 7):=by show _ = _;rw [hq];simp [h3]
    have h4:(s.length:Int) > 40:=by omega
    clear hq
    replace HG3:=HG3
    go_enter Tryz.func28,Tryz.ntmps28
    go_wp2_with fail
    refine HGD.out.mono ?_;rintro e w1 ⟨rfl,hg⟩
    replace HR3:=bCq HR3 hg
    replace HG3:=gCq HG3 hg
    replace HS3:=rCq HS3 hg
    replace HN3:=jh (HN3.out.same (sAl hg))
    replace m0:=kNq hg m0
    replace m4:=kNq hg m4
    clear hg HGD m1 m2 m3
    go_wp2_with fail
    refine (rLq 7 (by decide) _).mono ?_
    rintro e w7 hp
    rw [← HQ.out] at hp
    obtain ⟨a5,l5,c5,f5,er5,rfl,hS5,q0,q1,q2,HB5,HL5⟩:=lFq hp HG3.out (gRf _ _) HR3.out
    clear hp
    go_wp2_with fail
    exact eLq (fun w z0 z1=>by simp [results,Tryz.results28,go_sem,z0,z1]) rfl HB5.out HL5.out
   ·have h4:¬ (s.length:Int) > 40:=by omega
    cases hgd:s.all gYq with
    | false =>
     have HQ:Hid (q = .no 5):=by show _ = _;rw [hq];simp [h3,hgd]
     clear hq
     replace HG3:=HG3
     go_enter Tryz.func28,Tryz.ntmps28
     go_wp2_with fail
     refine HGD.out.mono ?_;rintro e w1 ⟨rfl,hg⟩
     replace HR3:=bCq HR3 hg
     replace HG3:=gCq HG3 hg
     replace HS3:=rCq HS3 hg
     replace HN3:=jh (HN3.out.same (sAl hg))
     replace m0:=kNq hg m0
     replace m4:=kNq hg m4
     clear hg HGD m1 m2 m3
     go_wp2_with fail
     have HA:=jh (allGood_any HS3.out)
     rw [hgd] at HA
     refine HA.out.mono ?_;rintro e w2 ⟨rfl,hg⟩
     replace HR3:=bCq HR3 hg
     replace HG3:=gCq HG3 hg
     clear hg HA
     go_wp2_with fail
     refine (rLq 5 (by decide) _).mono ?_
     rintro e w7 hp
     rw [← HQ.out] at hp
     obtain ⟨a5,l5,c5,f5,er5,rfl,hS5,q0,q1,q2,HB5,HL5⟩:=lFq hp HG3.out (gRf _ _) HR3.out
     clear hp
     go_wp2_with fail
     exact eLq (fun w z0 z1=>by simp [results,Tryz.results28,go_sem,z0,z1]) rfl HB5.out HL5.out
    | true =>
     have HQ:Hid (q = rowG (stepF 300) n.args0 false s):=by show _ = _;rw [hq];simp [h3,hgd]
     have HSM:Hid (n.size <= 300):=(good_firsts HGE.out).2
     have HGDY:=jh hgd
     clear hq hgd
     replace HG3:=HG3
     go_enter Tryz.func28,Tryz.ntmps28
     go_wp2_with fail
     refine HGD.out.mono ?_;rintro e w1 ⟨rfl,hg⟩
     replace HR3:=bCq HR3 hg
     replace HG3:=gCq HG3 hg
     replace HS3:=rCq HS3 hg
     replace HN3:=jh (HN3.out.same (sAl hg))
     replace m0:=kNq hg m0
     replace m4:=kNq hg m4
     clear hg HGD m1 m2 m3
     go_wp2_with fail
     have HA:=jh (allGood_any HS3.out)
     rw [HGDY.out] at HA
     refine HA.out.mono ?_;rintro e w2 ⟨rfl,hg⟩
     replace HR3:=bCq HR3 hg
     replace HG3:=gCq HG3 hg
     replace HS3:=rCq HS3 hg
     replace HN3:=jh (HN3.out.same (sAl hg))
     replace m4:=kNq hg m4
     clear hg HA
     have HROW:=jh (row_any (st:=stepF 300) (nc:=nc) (L:=40) (Nat.le_refl _) HN3.out HS3.out (by omega) HGDY.out (fun j hj W2 s2 a2 l2 c2 hg2 hr2 h40 hgo=>HSTEP.out n.args0[j] (VN j) W2 s2 a2 l2 c2 (by
      have h5:=HSM.out
      have h6:n.size = sizes n.args0 + 1:=by cases n;rfl
      have h7:=sizes_take_succ n.args0 j hj
      have h8:=sizes_take_le n.args0 (j + 1)
      omega) ((HN3.out.2.2 j hj).same (sAl hg2)) hr2 h40 hgo))
     rw [← HQ.out] at HROW
     go_wp2_with fail
     refine HROW.out.mono ?_;rintro e w4 hp4
     obtain ⟨a4,l4,c4,f4,er4,rfl,hg4,his4⟩:=hp4.is
     replace HR3:=jh (kBq HR3.out hg4)
     replace HG3:=jh (gTq HG3.out hg4)
     have HIS:=jh his4
     clear hp4 hg4 his4 HROW
     go_wp2_with fail
     refine (renewed_any HIS.out (fun ts hts=>by
      have h5:=HQ.out
      rw [hts] at h5
      have h6:=rowG_good (noTys_step 300) _ _ _ (by omega) HGDY.out (by simp) h5.symm
      have h7:=tys_good h6.2.1
      omega)).mono ?_
     rintro e w7 hp
     obtain ⟨a5,l5,c5,f5,er5,rfl,hS5,q0,q1,q2,HB5,HL5⟩:=lFq hp HG3.out (gRf _ _) HR3.out
     clear hp
     go_wp2_with fail
     exact eLq (fun w z0 z1=>by simp [results,Tryz.results28,go_sem,z0,z1]) rfl HB5.out HL5.out
  ·have HQ:Hid (q = .no 1):=by show _ = _;rw [hq];simp [h2]
   have n1:(k == 3) = false:=by simpa using h2
   have n2:(k != 3) = true:=by simpa using h2
   clear hq
   replace HG3:=HG3
   go_enter Tryz.func28,Tryz.ntmps28
   go_wp2_with fail
   refine HGD.out.mono ?_;rintro e w1 ⟨rfl,hg⟩
   replace HR3:=bCq HR3 hg
   replace HG3:=gCq HG3 hg
   replace HS3:=rCq HS3 hg
   replace HN3:=jh (HN3.out.same (sAl hg))
   replace m0:=kNq hg m0
   replace m4:=kNq hg m4
   clear hg HGD m1 m2 m3
   go_wp2_with fail
   refine (rLq 1 (by decide) _).mono ?_
   rintro e w7 hp
   rw [← HQ.out] at hp
   obtain ⟨a5,l5,c5,f5,er5,rfl,hS5,q0,q1,q2,HB5,HL5⟩:=lFq hp HG3.out (gRf _ _) HR3.out
   clear hp
   go_wp2_with fail
   exact eLq (fun w z0 z1=>by simp [results,Tryz.results28,go_sem,z0,z1]) rfl HB5.out HL5.out
 ·have HQ:Hid (q = .no ge):=by show _ = _;rw [hq];simp [h1]
  have n1:(ge == 0) = false:=by simpa using h1
  have n2:(ge != 0) = true:=by simpa using h1
  clear hq
  replace HG3:=HG3
  go_enter Tryz.func28,Tryz.ntmps28
  go_wp2_with fail
  refine HGD.out.mono ?_;rintro e w1 ⟨rfl,hg⟩
  replace HR3:=bCq HR3 hg
  replace HG3:=gCq HG3 hg
  replace HS3:=rCq HS3 hg
  replace HN3:=jh (HN3.out.same (sAl hg))
  replace m0:=kNq hg m0
  replace m4:=kNq hg m4
  clear hg HGD m1 m2 m3
  go_wp2_with fail
  refine (rLq ge h1 _).mono ?_
  rintro e w7 hp
  rw [← HQ.out] at hp
  obtain ⟨a5,l5,c5,f5,er5,rfl,hS5,q0,q1,q2,HB5,HL5⟩:=lFq hp HG3.out (gRf _ _) HR3.out
  clear hp
  go_wp2_with fail
  exact eLq (fun w z0 z1=>by simp [results,Tryz.results28,go_sem,z0,z1]) rfl HB5.out HL5.out
end Go.Proofs.YtkglnoimbekhhaaGreat
