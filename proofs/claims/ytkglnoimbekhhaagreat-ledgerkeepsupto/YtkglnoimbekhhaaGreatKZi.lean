import Derived.Test.YtkglnoimbekhhaaGreatKZd
import Derived.Test.YtkglnoimbekhhaaGreatKZt
namespace Go.Proofs.YtkglnoimbekhhaaGreat
set_option maxRecDepth 100000
set_option maxHeartbeats 4000000
open Go.ChangeShapes Go.WideShapes Go.ChangeAt Go.RowKit
set_option linter.unusedVariables false
set_option linter.unusedSimpArgs false
def LedIs (w:World) (r:Led) (a:Option Addr) (l c:Nat) (f:Bool) (er:Int):Prop :=
 (r = .no er /\ er ≠ 0 /\ a = none /\ l = 0 /\ c = 0 /\ f = false) \/ (∃ ts,r = .ok f ts /\ er = 0 /\ RowC w ts (.slice a l c))
theorem LPq.is {r:Led} {W:World} {e:Ending} {w':World} (h:LPq r W e w'):∃ a l c f er,e = .returned (.tuple #[.agg #[.slice a l c,.bool f],.int .i64 er]) /\ W.grownBy w' none /\ LedIs w' r a l c f er:=by
 rcases h.2 with ⟨er,h1,h2,rfl⟩ | ⟨f,ts,a,l,c,h1,rfl,h3⟩
 ·exact ⟨none,0,0,false,er,rfl,h.1,.inl ⟨h1,h2,rfl,rfl,rfl,rfl⟩⟩
 ·exact ⟨a,l,c,f,0,rfl,h.1,.inr ⟨ts,h1,rfl,h3⟩⟩
theorem LedIs.grow {w w':World} {r:Led} {a:Option Addr} {l c:Nat} {f:Bool} {er:Int} (h:LedIs w r a l c f er) (hg:w.grownBy w' none):LedIs w' r a l c f er:=by
 rcases h with h | ⟨ts,h1,h2,h3⟩
 ·exact .inl h
 ·exact .inr ⟨ts,h1,h2,h3.grow hg⟩
theorem box3 {w:World} {g:Nat} {T:TypeId} {x0 x1 x2:Value} (h:w.heap[g]? = some (.cells #[x0,x1,x2] T (0,0))):w.cell? ⟨g,0,none⟩ = some x0 /\ w.cell? ⟨g,1,none⟩ = some x1 /\ w.cell? ⟨g,2,none⟩ = some x2:=by
 refine ⟨?_,?_,?_⟩ <;> simp [World.cell?,h]
theorem led_any (a:Option Addr) (l c:Nat) (f:Bool) (er:Int) (W:World) :
 Calls Tryz.prog 124 #[.agg #[.slice a l c,.bool f],.int .i64 er] W fun e w'=>e = .returned (.agg #[.slice a l c,.bool f,.int .i64 er]) /\ W.grownBy w' none:=by
 have HG:=jh (gTq (gBq (w:=W) (.cells #[.slice a l c,.bool f] 62)) (gBq (.cells #[.slice a l c,.bool f,.int .i64 er] 145)))
 have hb:=new_two2 W (.cells #[.slice a l c,.bool f] 62) (.cells #[.slice a l c,.bool f,.int .i64 er] 145)
 go_enter Tryz.func124,Tryz.ntmps124
 go_wp2_with fail
 generalize (W.alloc _).alloc _ = wf at *
 obtain ⟨z0,z1,z2⟩:=box3 hb
 exact bodyPost_ret (v:=.agg #[.slice a l c,.bool f,.int .i64 er]) (by simp [results,Tryz.results124,go_sem,z0,z1,z2]) rfl ⟨rfl,HG.out⟩
theorem is_end {W w:World} {r:Led} {a:Option Addr} {l c:Nat} {f:Bool} {R l0 c0:Nat} {a0:Option Addr} {f0:Bool} {T:TypeId} {ts:List Ty} (hr:r = .ok f ts) (h:RowC w ts (.slice a l c)) (hg:W.grownBy w none) (hR:W.heap.size <= R) (hb:w.heap[R]? = some (.cells #[.slice a0 l0 c0,.bool f0] T (0,0))) :
 LPq r W (.returned (.tuple #[.agg #[.slice a l c,.bool f],.int .i64 0])) (set2 w R (.slice a l c) (.bool f)) :=
 ⟨grow_set2 hg hR _ _,.inr ⟨f,ts,a,l,c,hr,rfl,h.set hb _ _⟩⟩
theorem meet_any {W:World} {r1 r2:Led} {a1 a2:Option Addr} {l1 c1 l2 c2:Nat} {f1 f2:Bool} {e1 e2:Int} (h1:LedIs W r1 a1 l1 c1 f1 e1) (h2:LedIs W r2 a2 l2 c2 f2 e2) (hz:∀ ts,r1 = .ok f1 ts -> ts.length <= 20000000 /\ tysizes ts <= 20000000) :
 Calls Tryz.prog 123 #[.agg #[.slice a1 l1 c1,.bool f1,.int .i64 e1],.agg #[.slice a2 l2 c2,.bool f2,.int .i64 e2]] W (LPq (meetF r1 r2) W):=by
 obtain ⟨hg3,hA,hB,hR⟩:=start3 W (.cells #[.slice a1 l1 c1,.bool f1,.int .i64 e1] 145) (.cells #[.slice a2 l2 c2,.bool f2,.int .i64 e2] 145) (.cells #[.slice none 0 0,.bool false] 62)
 obtain ⟨x0,x1,x2⟩:=box3 hA
 obtain ⟨y0,y1,y2⟩:=box3 hB
 have q0:=c0q hR
 have q1:=c1q hR
 have q2:=free2_of hR
 have HG3:=jh hg3
 have HR:=jh hR
 clear hg3 hA hB hR
 rcases h1 with ⟨rfl,hne,rfl,rfl,rfl,rfl⟩ | ⟨ts1,rfl,rfl,hr1⟩
 ·have n1:(e1 == 0) = false:=by simpa using hne
  have n2:(e1 != 0) = true:=by simpa using hne
  go_enter Tryz.func123,Tryz.ntmps123
  go_wp2_with fail
  generalize ((W.alloc _).alloc _).alloc _ = W3 at *
  refine (rLq e1 hne _).mono ?_
  rintro e w5 hp
  obtain ⟨a5,l5,c5,f5,er5,rfl,hb5,hS5,hl5⟩:=led_end (o:=.cells #[] 0) hp HG3.out (gRf _ _) (by omega) HR.out
  clear q0 q1 q2
  have q0:=c0q hb5
  have q1:=c1q hb5
  have q2:=free2_of hb5
  have HL5:=jh hl5
  have HB5:=jh hb5
  clear hb5 hl5 hp
  go_wp2_with fail
  change bodyPost _ _ _ _ _ (set2 w5 (W.heap.size + 1 + 1) (.slice a5 l5 c5) (.bool f5))
  have hb':=set2_block HB5.out (.slice a5 l5 c5) (.bool f5)
  have hl':=HL5.out
  generalize set2 w5 (W.heap.size + 1 + 1) (.slice a5 l5 c5) (.bool f5) = wf at *
  have z0:=c0q hb'
  have z1:=c1q hb'
  exact bodyPost_ret (v:=.tuple #[.agg #[.slice a5 l5 c5,.bool f5],.int .i64 er5]) (by simp [results,Tryz.results123,go_sem,z0,z1]) rfl hl'
 ·rcases h2 with ⟨rfl,hne,rfl,rfl,rfl,rfl⟩ | ⟨ts2,rfl,rfl,hr2⟩
  ·have n1:(e2 == 0) = false:=by simpa using hne
   have n2:(e2 != 0) = true:=by simpa using hne
   clear hr1 hz
   go_enter Tryz.func123,Tryz.ntmps123
   go_wp2_with fail
   generalize ((W.alloc _).alloc _).alloc _ = W3 at *
   refine (rLq e2 hne _).mono ?_
   rintro e w5 hp
   obtain ⟨a5,l5,c5,f5,er5,rfl,hb5,hS5,hl5⟩:=led_end (o:=.cells #[] 0) hp HG3.out (gRf _ _) (by omega) HR.out
   clear q0 q1 q2
   have q0:=c0q hb5
   have q1:=c1q hb5
   have q2:=free2_of hb5
   have HL5:=jh hl5
   have HB5:=jh hb5
   clear hb5 hl5 hp
   go_wp2_with fail
   change bodyPost _ _ _ _ _ (set2 w5 (W.heap.size + 1 + 1) (.slice a5 l5 c5) (.bool f5))
   have hb':=set2_block HB5.out (.slice a5 l5 c5) (.bool f5)
   have hl':=HL5.out
   generalize set2 w5 (W.heap.size + 1 + 1) (.slice a5 l5 c5) (.bool f5) = wf at *
   have z0:=c0q hb'
   have z1:=c1q hb'
   exact bodyPost_ret (v:=.tuple #[.agg #[.slice a5 l5 c5,.bool f5],.int .i64 er5]) (by simp [results,Tryz.results123,go_sem,z0,z1]) rfl hl'
  ·cases f1 with
   | true =>
    obtain ⟨hg4,_,_,hR4⟩:=start3 W (.cells #[.slice a1 l1 c1,.bool true,.int .i64 0] 145) (.cells #[.slice a2 l2 c2,.bool f2,.int .i64 0] 145) (.cells #[.slice a2 l2 c2,.bool f2] 62)
    have z0:=c0q hR4
    have z1:=c1q hR4
    have HL:Hid (LPq (meetF (.ok true ts1) (.ok f2 ts2)) W (.returned (.tuple #[.agg #[.slice a2 l2 c2,.bool f2],.int .i64 0])) _):=⟨hg4,.inr ⟨f2,ts2,a2,l2,c2,by simp [meetF],rfl,hr2.grow hg4⟩⟩
    clear hr1 hr2 hz hg4 hR4
    go_enter Tryz.func123,Tryz.ntmps123
    go_wp2_with fail
    exact bodyPost_ret (v:=.tuple #[.agg #[.slice a2 l2 c2,.bool f2],.int .i64 0]) (by simp [results,Tryz.results123,go_sem,z0,z1]) rfl HL.out
   | false =>
    cases f2 with
    | true =>
     obtain ⟨hg4,_,_,hR4⟩:=start3 W (.cells #[.slice a1 l1 c1,.bool false,.int .i64 0] 145) (.cells #[.slice a2 l2 c2,.bool true,.int .i64 0] 145) (.cells #[.slice a1 l1 c1,.bool false] 62)
     have z0:=c0q hR4
     have z1:=c1q hR4
     have HL:Hid (LPq (meetF (.ok false ts1) (.ok true ts2)) W (.returned (.tuple #[.agg #[.slice a1 l1 c1,.bool false],.int .i64 0])) _):=⟨hg4,.inr ⟨false,ts1,a1,l1,c1,by simp [meetF],rfl,hr1.grow hg4⟩⟩
     clear hr1 hr2 hz hg4 hR4
     go_enter Tryz.func123,Tryz.ntmps123
     go_wp2_with fail
     exact bodyPost_ret (v:=.tuple #[.agg #[.slice a1 l1 c1,.bool false],.int .i64 0]) (by simp [results,Tryz.results123,go_sem,z0,z1]) rfl HL.out
    | false =>
     obtain ⟨_,hz2⟩:=hz ts1 rfl
     have hrr1:=hr1
     obtain ⟨b1,d1,V1,ee1,_,hrow1⟩:=hr1
     obtain ⟨b2,d2,V2,ee2,_,hrow2⟩:=hr2
     simp only [Value.slice.injEq] at ee1 ee2
     obtain ⟨rfl,rfl,rfl⟩:=ee1
     obtain ⟨rfl,rfl,rfl⟩:=ee2
     have HE:=jh (eqTypes_any (ca:=c1) (cb:=c2) hrow1 hrow2 (by omega) _ HG3.out)
     have HR1:=jh (hrr1.grow HG3.out)
     clear hrr1 hrow1 hrow2 hz hz2
     cases hq:sameTs ts1 ts2 with
     | true =>
      rw [hq] at HE
      have HQ:=jh hq
      clear hq
      go_enter Tryz.func123,Tryz.ntmps123
      go_wp2_with fail
      refine HE.out.mono ?_;rintro e w4 ⟨rfl,hg⟩
      replace HR:=bCq HR hg
      replace x0:=kNq hg x0
      replace x1:=kNq hg x1
      replace HR1:=jh (HR1.out.grow hg)
      replace HG3:=gCq HG3 hg
      clear hg HE q0 q1 q2
      have q0:=c0q HR.out
      have q1:=c1q HR.out
      have q2:=free2_of HR.out
      have HL:=jh (is_end (W:=W) (R:=W.heap.size + 1 + 1) (f:=false) (ts:=ts1) (r:=meetF (.ok false ts1) (.ok false ts2)) (by simp [meetF,HQ.out]) HR1.out HG3.out (by omega) HR.out)
      go_wp2_with fail
      change bodyPost _ _ _ _ _ (set2 w4 (W.heap.size + 1 + 1) (.slice a1 ts1.length c1) (.bool false))
      have hb':=set2_block HR.out (.slice a1 ts1.length c1) (.bool false)
      have hl':=HL.out
      generalize set2 w4 (W.heap.size + 1 + 1) (.slice a1 ts1.length c1) (.bool false) = wf at *
      have z0:=c0q hb'
      have z1:=c1q hb'
      exact bodyPost_ret (v:=.tuple #[.agg #[.slice a1 ts1.length c1,.bool false],.int .i64 0]) (by simp [results,Tryz.results123,go_sem,z0,z1]) rfl hl'
     | false =>
      rw [hq] at HE
      have HQ:Hid (meetF (.ok false ts1) (.ok false ts2) = .no 5):=by show _ = _;simp [meetF,hq]
      clear hq
      go_enter Tryz.func123,Tryz.ntmps123
      go_wp2_with fail
      refine HE.out.mono ?_;rintro e w4 ⟨rfl,hg⟩
      replace HR:=bCq HR hg
      replace HG3:=gCq HG3 hg
      clear hg HE q0 q1 q2
      go_wp2_with fail
      refine (rLq 5 (by decide) _).mono ?_
      rintro e w5 hp
      obtain ⟨a5,l5,c5,f5,er5,rfl,hb5,hS5,hl5⟩:=led_end (o:=.cells #[] 0) hp HG3.out (gRf _ _) (by omega) HR.out
      have q0:=c0q hb5
      have q1:=c1q hb5
      have q2:=free2_of hb5
      rw [← HQ.out] at hl5
      have HL5:=jh hl5
      have HB5:=jh hb5
      clear hb5 hl5 hp
      go_wp2_with fail
      change bodyPost _ _ _ _ _ (set2 w5 (W.heap.size + 1 + 1) (.slice a5 l5 c5) (.bool f5))
      have hb':=set2_block HB5.out (.slice a5 l5 c5) (.bool f5)
      have hl':=HL5.out
      generalize set2 w5 (W.heap.size + 1 + 1) (.slice a5 l5 c5) (.bool f5) = wf at *
      have z0:=c0q hb'
      have z1:=c1q hb'
      exact bodyPost_ret (v:=.tuple #[.agg #[.slice a5 l5 c5,.bool f5],.int .i64 er5]) (by simp [results,Tryz.results123,go_sem,z0,z1]) rfl hl'
def belowM (T:Ty):Led -> Led
 | .no e=>.no e
 | .ok f ts=>if f = true then .no 1 else pFq ts [T]
theorem box9' {w:World} {g:Nat} {T:TypeId} {x0 x1 x2 x3 x4 x5 x6 x7 x8:Value} (h:w.heap[g]? = some (.cells #[x0,x1,x2,x3,x4,x5,x6,x7,x8] T (0,0))):w.cell? ⟨g,3,none⟩ = some x3:=(box9 h).2.2.2.1
theorem through_any {W:World} {p n:Int} {ta da na:Option Addr} {rb ro tl tc rl rc dl dc nl nc:Nat} {dk dn dp:Int} {ds:ByteArray} {x y z:List Ty} {xv yv zv:Value} {r:Led} (hx:RowC W x xv) (hy:RowC W y yv) (hz:RowC W z zv) (hrl:1 <= rl)
 (hcell:W.cell? ⟨rb,ro,none⟩ = some (.slice na nl nc)) (hrow:∀ W2,W.grownBy W2 none -> Calls Tryz.prog 43 #[.slice na nl nc,xv] W2 (LPq r W2))
 (hsz:∀ f ts,r = .ok f ts -> ts.length <= 20000000 /\ tysizes ts <= 20000000) (hy4:y.length <= 20000000) (hz4:z.length <= 20000000) :
 Calls Tryz.prog 112 #[insV p n ta tl tc (some ⟨rb,ro,none⟩) rl rc dk dn dp ds da dl dc,xv,yv,zv] W (LPq (match meetF r (pFq y []) with
  | .no e=>.no e
  | .ok _ _=>pFq z []) W):=by
 obtain ⟨xa,xl,xc,e1⟩:=hx.form3
 obtain ⟨ya,yl,yc,e2⟩:=hy.form3
 obtain ⟨za,zl,zc,e3⟩:=hz.form3
 subst e1;subst e2;subst e3
 unfold insV
 obtain ⟨hg3,hI3,hR3⟩:=start2 W (.cells #[.int .i64 p,.int .i64 n,.slice ta tl tc,.slice (some ⟨rb,ro,none⟩) rl rc,.int .i64 dk,.int .i64 dn,.int .i64 dp,.string ds,.slice da dl dc] 115) (.cells #[.slice none 0 0,.bool false] 62)
 have i3:=box9' hI3
 have xr:=kNq hg3 hcell
 have b0:0 < rl:=by omega
 have b1:(0:Int) < (rl:Int):=by omega
 have HROW:=jh (hrow _ hg3)
 have HY:=jh (hy.grow hg3)
 have HZ:=jh (hz.grow hg3)
 have HG3:=jh hg3
 have HR3:=jh hR3
 have HSZ:=jh hsz
 clear hg3 hI3 hR3 hx hy hz hrow hcell hsz
 obtain ⟨q,hq⟩:∃ q:Led,q = (match meetF r (pFq y []) with
  | .no e=>.no e
  | .ok _ _=>pFq z []):=⟨_,rfl⟩
 rw [← hq]
 have HQ:=jh hq
 clear hq
 go_enter Tryz.func112,Tryz.ntmps112
 go_wp2_with fail
 generalize (W.alloc _).alloc _ = W3 at *
 refine HROW.out.mono ?_;rintro e w1 hp1
 obtain ⟨a1,l1,c1,f1,er1,rfl,hg,his1⟩:=hp1.is
 have HI1:=jh his1
 replace HY:=jh (HY.out.grow hg)
 replace HZ:=jh (HZ.out.grow hg)
 replace HR3:=bCq HR3 hg
 replace HG3:=gCq HG3 hg
 clear hg his1 hp1 HROW i3 xr
 go_wp2_with fail
 refine (led_any _ _ _ _ _ _).mono ?_;rintro e w2 ⟨rfl,hg⟩
 replace HI1:=jh (HI1.out.grow hg)
 replace HY:=jh (HY.out.grow hg)
 replace HZ:=jh (HZ.out.grow hg)
 replace HR3:=bCq HR3 hg
 replace HG3:=gCq HG3 hg
 clear hg
 go_wp2_with fail
 refine (pAq HY.out (RowC.nil _ none 0) (by simp;omega)).mono ?_;rintro e w3 hp3
 obtain ⟨a3,l3,c3,f3,er3,rfl,hg,his3⟩:=hp3.is
 have HI3:=jh his3
 replace HI1:=jh (HI1.out.grow hg)
 replace HZ:=jh (HZ.out.grow hg)
 replace HR3:=bCq HR3 hg
 replace HG3:=gCq HG3 hg
 clear hg his3 hp3 HY
 go_wp2_with fail
 refine (led_any _ _ _ _ _ _).mono ?_;rintro e w4 ⟨rfl,hg⟩
 replace HI1:=jh (HI1.out.grow hg)
 replace HI3:=jh (HI3.out.grow hg)
 replace HZ:=jh (HZ.out.grow hg)
 replace HR3:=bCq HR3 hg
 replace HG3:=gCq HG3 hg
 clear hg
 go_wp2_with fail
 refine (meet_any HI1.out HI3.out (fun ts h=>HSZ.out _ ts h)).mono ?_;rintro e w5 hp5
 generalize meetF r (pFq y []) = m at *
 obtain ⟨a6,l6,c6,f6,er6,rfl,hg,his6⟩:=hp5.is
 replace HZ:=jh (HZ.out.grow hg)
 replace HR3:=bCq HR3 hg
 replace HG3:=gCq HG3 hg
 clear hg hp5 HI1 HI3 HSZ
 rcases his6 with ⟨rfl,hne,rfl,rfl,rfl,rfl⟩ | ⟨ts6,rfl,rfl,hr6⟩
 ·obtain rfl:q = .no er6:=HQ.out
  have n1:(er6 == 0) = false:=by simpa using hne
  have n2:(er6 != 0) = true:=by simpa using hne
  go_wp2_with fail
  refine (rLq er6 hne _).mono ?_
  rintro e w7 hp
  obtain ⟨a5,l5,c5,f5,er5,rfl,hS5,q0,q1,q2,HB5,HL5⟩:=lFq hp HG3.out (gBq _) HR3.out
  clear hp
  go_wp2_with fail
  exact eLq (fun w z0 z1=>by simp [results,Tryz.results112,go_sem,z0,z1]) rfl HB5.out HL5.out
 ·obtain rfl:q = pFq z []:=HQ.out
  clear hr6
  go_wp2_with fail
  refine (pAq (HZ.out.grow (gBq _)) (RowC.nil _ none 0) (by simp;omega)).mono ?_
  rintro e w7 hp
  obtain ⟨a5,l5,c5,f5,er5,rfl,hS5,q0,q1,q2,HB5,HL5⟩:=lFq hp HG3.out (gBq _) HR3.out
  clear hp
  go_wp2_with fail
  exact eLq (fun w z0 z1=>by simp [results,Tryz.results112,go_sem,z0,z1]) rfl HB5.out HL5.out
theorem below_any {W:World} {p n t0:Int} {ta da na a0:Option Addr} {rb ro tl tc rl rc dl dc nl nc l0 k0:Nat} {dk dn dp:Int} {ds:ByteArray} {T:Ty} {sv:Value} {r:Led} (hT:LiesT (fun _=>True) W T (tyV t0 a0 l0 k0)) (hsv:∃ a l c,sv = .slice a l c) (hrl:1 <= rl)
 (hcell:W.cell? ⟨rb,ro,none⟩ = some (.slice na nl nc)) (hrow:∀ W2,W.grownBy W2 none -> Calls Tryz.prog 43 #[.slice na nl nc,sv] W2 (LPq r W2))
 (hsz:∀ f ts,r = .ok f ts -> ts.length <= 1000000) :
 Calls Tryz.prog 113 #[insV p n ta tl tc (some ⟨rb,ro,none⟩) rl rc dk dn dp ds da dl dc,tyV t0 a0 l0 k0,sv] W (LPq (belowM T r) W):=by
 obtain ⟨xa,xl,xc,e1⟩:=hsv
 subst e1
 have HT0:=jh hT
 clear hT
 unfold insV tyV
 obtain ⟨hg3,hI3,hB3,hR3⟩:=start3 W (.cells #[.int .i64 p,.int .i64 n,.slice ta tl tc,.slice (some ⟨rb,ro,none⟩) rl rc,.int .i64 dk,.int .i64 dn,.int .i64 dp,.string ds,.slice da dl dc] 115) (.cells #[.int .i64 t0,.slice a0 l0 k0] 24) (.cells #[.slice none 0 0,.bool false] 62)
 have i3:=box9' hI3
 have xr:=kNq hg3 hcell
 have m0:=c0q hB3
 have m1:=c1q hB3
 have b0:0 < rl:=by omega
 have b1:(0:Int) < (rl:Int):=by omega
 have HROW:=jh (hrow _ hg3)
 have HT:=jh (HT0.out.same (sAl hg3))
 have HG3:=jh hg3
 have HR3:=jh hR3
 have HSZ:=jh hsz
 obtain ⟨q,hq⟩:∃ q:Led,q = belowM T r:=⟨_,rfl⟩
 rw [← hq]
 have HQ:=jh hq
 clear hq hg3 hI3 hB3 hR3 hrow hcell hsz HT0
 go_enter Tryz.func113,Tryz.ntmps113
 go_wp2_with fail
 generalize ((W.alloc _).alloc _).alloc _ = W3 at *
 refine HROW.out.mono ?_;rintro e w1 hp1
 obtain ⟨a1,l1,c1,f1,er1,rfl,hg,his1⟩:=hp1.is
 replace HT:=jh (HT.out.same (sAl hg))
 replace HR3:=bCq HR3 hg
 replace HG3:=gCq HG3 hg
 replace m0:=kNq hg m0
 replace m1:=kNq hg m1
 clear hg hp1 HROW i3 xr
 rcases his1 with ⟨rfl,hne,rfl,rfl,rfl,rfl⟩ | ⟨ts1,rfl,rfl,hr1⟩
 ·obtain rfl:q = .no er1:=HQ.out
  have n1:(er1 == 0) = false:=by simpa using hne
  have n2:(er1 != 0) = true:=by simpa using hne
  go_wp2_with fail
  refine (rLq er1 hne _).mono ?_
  rintro e w7 hp
  obtain ⟨a5,l5,c5,f5,er5,rfl,hb5,hS5,hl5⟩:=led_end (o:=.cells #[] 0) hp HG3.out (gBq _) (by omega) HR3.out
  have q0:=c0q hb5
  have q1:=c1q hb5
  have q2:=free2_of hb5
  have HL5:=jh hl5
  have HB5:=jh hb5
  clear hb5 hl5 hp
  go_wp2_with fail
  change bodyPost _ _ _ _ _ (set2 w7 (W.heap.size + 1 + 1) (.slice a5 l5 c5) (.bool f5))
  have hb':=set2_block HB5.out (.slice a5 l5 c5) (.bool f5)
  have hl':=HL5.out
  generalize set2 w7 (W.heap.size + 1 + 1) (.slice a5 l5 c5) (.bool f5) = wf at *
  have z0:=c0q hb'
  have z1:=c1q hb'
  exact bodyPost_ret (v:=.tuple #[.agg #[.slice a5 l5 c5,.bool f5],.int .i64 er5]) (by simp [results,Tryz.results113,go_sem,z0,z1]) rfl hl'
 ·cases f1 with
  | true =>
   obtain rfl:q = .no 1:=HQ.out
   clear hr1
   go_wp2_with fail
   refine (rLq 1 (by decide) _).mono ?_
   rintro e w7 hp
   obtain ⟨a5,l5,c5,f5,er5,rfl,hb5,hS5,hl5⟩:=led_end (o:=.cells #[] 0) hp HG3.out (gBq _) (by omega) HR3.out
   have q0:=c0q hb5
   have q1:=c1q hb5
   have q2:=free2_of hb5
   have HL5:=jh hl5
   have HB5:=jh hb5
   clear hb5 hl5 hp
   go_wp2_with fail
   change bodyPost _ _ _ _ _ (set2 w7 (W.heap.size + 1 + 1) (.slice a5 l5 c5) (.bool f5))
   have hb':=set2_block HB5.out (.slice a5 l5 c5) (.bool f5)
   have hl':=HL5.out
   generalize set2 w7 (W.heap.size + 1 + 1) (.slice a5 l5 c5) (.bool f5) = wf at *
   have z0:=c0q hb'
   have z1:=c1q hb'
   exact bodyPost_ret (v:=.tuple #[.agg #[.slice a5 l5 c5,.bool f5],.int .i64 er5]) (by simp [results,Tryz.results113,go_sem,z0,z1]) rfl hl'
  | false =>
   obtain rfl:q = pFq ts1 [T]:=HQ.out
   have HR1:=jh hr1
   have hl1:=HSZ.out _ ts1 rfl
   have hgt:=gBq (w:=w1) (.cells #[.slice a1 l1 c1,.bool false] 62)
   have hbt:=heap_alloc_new w1 (.cells #[.slice a1 l1 c1,.bool false] 62)
   have t0':=c0q hbt
   have t1':=c1q hbt
   replace m0:=kNq hgt m0
   replace m1:=kNq hgt m1
   replace HR1:=jh (HR1.out.grow hgt)
   replace HT:=jh (HT.out.same (sAl hgt))
   replace HR3:=jh (kBq HR3.out hgt)
   replace HG3:=jh (gTq HG3.out hgt)
   have hsz:(w1.alloc (.cells #[.slice a1 l1 c1,.bool false] 62)).heap.size = w1.heap.size + 1:=by simp
   clear hr1 hgt hbt
   go_wp2_with fail
   generalize w1.alloc (.cells #[.slice a1 l1 c1,.bool false] 62) = w2 at *
   refine (pAq (HR1.out.grow (gBq _)) (RowC.one (new_at hsz) (HT.out.same (sAl (gBq _)))) (by simp;omega)).mono ?_
   rintro e w7 hp
   obtain ⟨a5,l5,c5,f5,er5,rfl,hb5,hS5,hl5⟩:=led_end (o:=.cells #[] 0) hp HG3.out (gBq _) (by omega) HR3.out
   have q0:=c0q hb5
   have q1:=c1q hb5
   have q2:=free2_of hb5
   have HL5:=jh hl5
   have HB5:=jh hb5
   clear hb5 hl5 hp
   go_wp2_with fail
   change bodyPost _ _ _ _ _ (set2 w7 (W.heap.size + 1 + 1) (.slice a5 l5 c5) (.bool f5))
   have hb':=set2_block HB5.out (.slice a5 l5 c5) (.bool f5)
   have hl':=HL5.out
   generalize set2 w7 (W.heap.size + 1 + 1) (.slice a5 l5 c5) (.bool f5) = wf at *
   have z0:=c0q hb'
   have z1:=c1q hb'
   exact bodyPost_ret (v:=.tuple #[.agg #[.slice a5 l5 c5,.bool f5],.int .i64 er5]) (by simp [results,Tryz.results113,go_sem,z0,z1]) rfl hl'
theorem ag1_any {W:World} {T:Ty} {t:Int} {a:Option Addr} {l c:Nat} (hT:LiesT (fun _=>True) W T (tyV t a l c)) :
 Calls Tryz.prog 58 #[tyV t a l c] W fun e w'=>e = .returned (.bool (!gYq T)) /\ W.grownBy w' none:=by
 have HG0:=jh (gBq (w:=W) (.cells #[.int .i64 t,.slice a l c] 24))
 have hb:=heap_alloc_new W (.cells #[.int .i64 t,.slice a l c] 24)
 have x0:=c0q hb
 have x1:=c1q hb
 have H:=jh (kgood_any (hT.same (sAl HG0.out)).low)
 unfold tyV at H ⊢
 clear hT hb
 generalize gYq T = g at *
 go_enter Tryz.func58,Tryz.ntmps58
 go_wp2_with fail
 refine H.out.mono ?_;rintro e w1 ⟨rfl,hg⟩
 have HG:=jh (gTq HG0.out hg)
 clear hg
 go_wp2_with fail
 go_ret
 exact ⟨rfl,HG.out⟩
theorem ent_ag1:∀ args w,(callFunc 58 args).run Tryz.prog w = .ok (.enter 58 args) w:=fun args w=>by simp [go_sem]
theorem indexT_any {W:World} {s:List Ty} {a:Option Addr} {l c:Nat} (hs:RowC W s (.slice a l c)) :
 Calls Tryz.prog 80 #[.slice a l c,.func (.func 58) #[] #[]] W fun e w'=>∃ r:Int,e = .returned (.int .i64 r) /\ ((0 <= r /\ s.all gYq = false) \/ (r = -1 /\ s.all gYq = true)) /\ W.grownBy w' none:=by
 obtain ⟨hsl,hsc,hn⟩:=hs.len
 subst hsl
 unfold maxLen at hn
 have HS:=jh hs
 have eg:=ent_ag1
 clear hs
 go_enter Tryz.func80,Tryz.ntmps80
 go_wp2_with fail
 go_loopw [8] (fun iv wr=>∃ j:Nat,j <= s.length /\ iv = .int .i64 j /\ (∀ i (h:i < s.length),i < j -> gYq s[i] = true) /\ W.grownBy wr none) (fun iv _=>s.length - (intOf iv).toNat)
 case atStart=>exact ⟨0,Nat.zero_le _,rfl,fun i h hi=>by omega,gRf _ _⟩
 case round =>
  obtain ⟨j,hj,rfl,hall,hgr⟩:=hrel
  have HALL:=jh hall
  have HGR:=jh hgr
  clear hall
  by_cases hlt:j < s.length
  ·obtain ⟨b,o,t,a',l',k',rfl,x0,x1,hL⟩:=(HS.out.grow hgr).at j hlt
   have hty:tAq s j = s[j]:=by unfold tAq;rw [List.getElem?_eq_getElem hlt];rfl
   rw [hty] at hL
   rw [show 2 * j = j * 2 from Nat.mul_comm _ _] at x0 x1
   rw [← Nat.add_assoc] at x1
   have HK:=jh (ag1_any hL)
   unfold tyV at HK
   have hj2:(j:Int) < (s.length:Int):=by omega
   clear hL hgr hty
   cases hq:gYq s[j] with
   | true =>
    rw [hq] at HK
    have HQ:=jh hq
    clear hq
    go_wp2_with fail
    refine HK.out.mono ?_;rintro e w1 ⟨rfl,hg⟩
    have HG:=jh (gTq HGR.out hg)
    clear hg
    go_wp2_with fail
    go_roundw
    case rel =>
     refine ⟨j + 1,by omega,by go_num,fun i h hi=>?_,HG.out⟩
     by_cases e:i = j
     ·subst e;exact HQ.out
     ·exact HALL.out i h (by omega)
    case measure=>simp [intOf];omega
   | false =>
    rw [hq] at HK
    have HQ:=jh hq
    clear hq
    go_wp2_with fail
    refine HK.out.mono ?_;rintro e w1 ⟨rfl,hg⟩
    have HG:=jh (gTq HGR.out hg)
    clear hg
    go_wp2_with fail
    go_ret
    refine ⟨_,rfl,.inl ⟨by omega,?_⟩,HG.out⟩
    cases hA:s.all gYq with
    | false=>rfl
    | true=>have:=List.all_eq_true.1 hA s[j] (List.getElem_mem hlt);rw [HQ.out] at this;cases this
  ·have hall2:s.all gYq = true:=List.all_eq_true.2 fun x hx=>by
    obtain ⟨i,hi,rfl⟩:=List.getElem_of_mem hx
    exact HALL.out i hi (by omega)
   have HA:=jh hall2
   have hj3:¬ (j:Int) < (s.length:Int):=by omega
   clear hall2 hgr
   go_wp2_with fail
   go_ret
   refine ⟨_,rfl,.inr ⟨rfl,?_⟩,HGR.out⟩
   first | exact HA.out | exact List.all_eq_true.1 HA.out
theorem containsT_any {W:World} {s:List Ty} {a:Option Addr} {l c:Nat} (hs:RowC W s (.slice a l c)) :
 Calls Tryz.prog 57 #[.slice a l c,.func (.func 58) #[] #[]] W fun e w'=>e = .returned (.bool (!s.all gYq)) /\ W.grownBy w' none:=by
 have H:=jh (indexT_any hs)
 clear hs
 generalize s.all gYq = q at *
 go_enter Tryz.func57,Tryz.ntmps57
 go_wp2_with fail
 refine H.out.mono ?_;rintro e w1 ⟨r,rfl,hr,hg⟩
 have HG:=jh hg
 have HR:=jh hr
 clear hg hr
 go_wp2_with fail
 go_ret
 refine Lf.retb ?_ HG.out
 rcases HR.out with ⟨h1,rfl⟩ | ⟨rfl,rfl⟩
 ·simp [h1]
 ·rfl
theorem allGood_any {W:World} {s:List Ty} {a:Option Addr} {l c:Nat} (hs:RowC W s (.slice a l c)) :
 Calls Tryz.prog 41 #[.slice a l c] W fun e w'=>e = .returned (.bool (s.all gYq)) /\ W.grownBy w' none:=by
 have H:=jh (containsT_any hs)
 clear hs
 generalize s.all gYq = q at *
 go_enter Tryz.func41,Tryz.ntmps41
 go_wp2_with fail
 refine H.out.mono ?_;rintro e w1 ⟨rfl,hg⟩
 have HG:=jh hg
 clear hg
 go_wp2_with fail
 go_ret
 refine Lf.retb ?_ HG.out
 simp
theorem kept_any {W:World} {r:Led} {a:Option Addr} {l c:Nat} {f:Bool} {er:Int} (h:LedIs W r a l c f er) :
 Calls Tryz.prog 60 #[.agg #[.slice a l c,.bool f],.int .i64 er] W (LPq (keptF r) W):=by
 obtain ⟨hg3,hI3,hR3⟩:=start2 W (.cells #[.slice a l c,.bool f] 62) (.cells #[.slice none 0 0,.bool false] 62)
 have x0:=c0q hI3
 have x1:=c1q hI3
 have q0:=c0q hR3
 have q1:=c1q hR3
 have q2:=free2_of hR3
 have HG3:=jh hg3
 have HI3:=jh hI3
 have HR3:=jh hR3
 clear hI3 hR3
 rcases h with ⟨rfl,hne,rfl,rfl,rfl,rfl⟩ | ⟨ts,rfl,rfl,hr⟩
 ·have n1:(er == 0) = false:=by simpa using hne
  have n2:(er != 0) = true:=by simpa using hne
  clear hg3
  go_enter Tryz.func60,Tryz.ntmps60
  go_wp2_with fail
  generalize (W.alloc _).alloc _ = W3 at *
  refine (rLq er hne _).mono ?_
  rintro e w7 hp
  obtain ⟨a5,l5,c5,f5,er5,rfl,hb5,hS5,hl5⟩:=led_end (o:=.cells #[] 0) hp HG3.out (gRf _ _) (Nat.le_succ _) HR3.out
  clear q0 q1 q2
  have q0:=c0q hb5
  have q1:=c1q hb5
  have q2:=free2_of hb5
  have HL5:=jh hl5
  have HB5:=jh hb5
  clear hb5 hl5 hp
  go_wp2_with fail
  exact eLq (fun w z0 z1=>by simp [results,Tryz.results60,go_sem,z0,z1]) rfl HB5.out HL5.out
 ·obtain ⟨hl,hlc,hn⟩:=hr.len
  subst hl
  unfold maxLen at hn
  have HA:=jh (allGood_any (hr.grow hg3))
  have HRW:=jh (hr.grow hg3)
  by_cases h40:40 < ts.length
  ·have hq:keptF (.ok f ts) = .no 7:=by simp only [keptF];rw [if_pos h40]
   rw [hq]
   have h41:(ts.length:Int) > 40:=by omega
   clear hq hr hg3 HA
   go_enter Tryz.func60,Tryz.ntmps60
   go_wp2_with fail
   generalize (W.alloc _).alloc _ = W3 at *
   refine (rLq 7 (by decide) _).mono ?_
   rintro e w7 hp
   obtain ⟨a5,l5,c5,f5,er5,rfl,hb5,hS5,hl5⟩:=led_end (o:=.cells #[] 0) hp HG3.out (gRf _ _) (Nat.le_succ _) HR3.out
   clear q0 q1 q2
   have q0:=c0q hb5
   have q1:=c1q hb5
   have q2:=free2_of hb5
   have HL5:=jh hl5
   have HB5:=jh hb5
   clear hb5 hl5 hp
   go_wp2_with fail
   exact eLq (fun w z0 z1=>by simp [results,Tryz.results60,go_sem,z0,z1]) rfl HB5.out HL5.out
  ·have h41:¬ (ts.length:Int) > 40:=by omega
   cases hg:ts.all gYq with
   | false =>
    have hq:keptF (.ok f ts) = .no 4:=by simp only [keptF];rw [if_neg h40,if_neg (by rw [hg];decide)]
    rw [hq]
    rw [hg] at HA
    clear hq hr hg3 hg
    go_enter Tryz.func60,Tryz.ntmps60
    go_wp2_with fail
    refine HA.out.mono ?_;rintro e w1 ⟨rfl,hg⟩
    replace HR3:=bCq HR3 hg
    replace HG3:=gCq HG3 hg
    clear hg HA
    go_wp2_with fail
    refine (rLq 4 (by decide) _).mono ?_
    rintro e w7 hp
    obtain ⟨a5,l5,c5,f5,er5,rfl,hb5,hS5,hl5⟩:=led_end (o:=.cells #[] 0) hp HG3.out (gRf _ _) (Nat.le_succ _) HR3.out
    clear q0 q1 q2
    have q0:=c0q hb5
    have q1:=c1q hb5
    have q2:=free2_of hb5
    have HL5:=jh hl5
    have HB5:=jh hb5
    clear hb5 hl5 hp
    go_wp2_with fail
    exact eLq (fun w z0 z1=>by simp [results,Tryz.results60,go_sem,z0,z1]) rfl HB5.out HL5.out
   | true =>
    have hq:keptF (.ok f ts) = .ok f ts:=by simp only [keptF];rw [if_neg h40,if_pos hg]
    rw [hq]
    rw [hg] at HA
    clear hq hr hg3 hg
    go_enter Tryz.func60,Tryz.ntmps60
    go_wp2_with fail
    refine HA.out.mono ?_;rintro e w1 ⟨rfl,hg⟩
    replace HI3:=bCq HI3 hg
    replace HR3:=bCq HR3 hg
    replace HG3:=gCq HG3 hg
    replace HRW:=jh (HRW.out.grow hg)
    clear hg HA q0 q1 q2 x0 x1
    have x0:=c0q HI3.out
    have x1:=c1q HI3.out
    have q0:=c0q HR3.out
    have q1:=c1q HR3.out
    have q2:=free2_of HR3.out
    have HL:=jh (is_end (W:=W) (R:=W.heap.size + 1) (f:=f) (ts:=ts) (r:=.ok f ts) rfl HRW.out HG3.out (Nat.le_succ _) HR3.out)
    go_wp2_with fail
    change bodyPost _ _ _ _ _ (set2 w1 (W.heap.size + 1) (.slice a ts.length c) (.bool f))
    have hb':=set2_block HR3.out (.slice a ts.length c) (.bool f)
    have hl':=HL.out
    generalize set2 w1 (W.heap.size + 1) (.slice a ts.length c) (.bool f) = wf at *
    have z0:=c0q hb'
    have z1:=c1q hb'
    exact bodyPost_ret (v:=.tuple #[.agg #[.slice a ts.length c,.bool f],.int .i64 0]) (by simp [results,Tryz.results60,go_sem,z0,z1]) rfl hl'
end Go.Proofs.YtkglnoimbekhhaaGreat
