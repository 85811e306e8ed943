import Derived.Test.YtkglnoimbekhhaaGreatKCkReckoned
namespace Go.Proofs.YtkglnoimbekhhaaGreat
set_option maxRecDepth 100000
set_option maxHeartbeats 4000000
open Go.ChangeShapes Go.WideShapes Go.ChangeAt Go.RowKit
set_option linter.unusedVariables false
set_option linter.unusedSimpArgs false
theorem grow_set2N {w0 w:World} {b:Nat} {x y:Value} (h:w0.grownBy w none) (hb:w0.heap.size <= b):w0.grownBy ((w.setCell ⟨b,0,none⟩ x).setCell ⟨b,1,none⟩ y) none:=grow_setNew (grow_setNew h hb _ _ _) hb _ _ _
def RecCut (r:Option Ty) (W3:World) (pv qv:Value) (wx:World):Prop :=
 ∃ (bp:Nat) (bb:Bool) (t:Int) (a:Option Addr) (l k:Nat),pv = .pointer (some ⟨bp,0,none⟩) /\ qv = .bool bb /\ wx.heap[bp]? = some (.cells #[.int .i64 t,.slice a l k] 24 (0,0)) /\ W3.grownBy wx none /\
  ((bb = true /\ ∃ T,r = some T /\ LiesT (fun _=>True) wx T (tyV t a l k)) \/ (bb = false /\ r = none))
theorem RecPost.form {r:Option Ty} {W:World} {e:Ending} {w':World} (h:RecPost r W e w'):∃ bb t a l k,e = .returned (.tuple #[.agg #[.int .i64 t,.slice a l k],.bool bb]) /\ W.grownBy w' none /\ ((bb = true /\ ∃ T,r = some T /\ LiesT (W.heap.size <= ·) w' T (tyV t a l k)) \/ (bb = false /\ r = none)):=by
 rcases h.2 with ⟨h1,rfl⟩ | ⟨T,t,a,l,c,h1,rfl,h2⟩
 ·exact ⟨false,0,none,0,0,rfl,h.1,.inr ⟨rfl,h1⟩⟩
 ·exact ⟨true,t,a,l,c,rfl,h.1,.inl ⟨rfl,T,h1,h2⟩⟩
theorem recCut_one {r:Option Ty} {W3 w4:World} {t:Int} {a:Option Addr} {l k:Nat} {bb:Bool} {H:Nat} (hg:W3.drew.grownBy w4 none) (h:(bb = true /\ ∃ T,r = some T /\ LiesT (H <= ·) w4 T (tyV t a l k)) \/ (bb = false /\ r = none)) :
 RecCut r W3 (.pointer (some ⟨w4.heap.size,0,none⟩)) (.bool bb) (w4.alloc (.cells #[.int .i64 t,.slice a l k] 24)):=by
 refine ⟨_,bb,t,a,l,k,rfl,rfl,heap_alloc_new _ _,gTq (undrew hg) (gBq _),?_⟩
 rcases h with ⟨h1,T,h2,h3⟩ | h
 ·exact .inl ⟨h1,T,h2,(h3.okMono (fun _ _ _=>trivial)).same (sAl (gBq _))⟩
 ·exact .inr h
theorem recCut_two {r:Option Ty} {W3 w4:World} {o:Obj} {t:Int} {a:Option Addr} {l k:Nat} {bb:Bool} {x y:Value} (hg:(W3.alloc o).drew.grownBy w4 none) (hb:w4.heap[W3.heap.size]? = some (.cells #[x,y] 24 (0,0))) (h:(bb = true /\ ∃ T,r = some T /\ LiesT ((W3.alloc o).drew.heap.size <= ·) w4 T (tyV t a l k)) \/ (bb = false /\ r = none)) :
 RecCut r W3 (.pointer (some ⟨W3.heap.size,0,none⟩)) (.bool bb) (set2 w4 W3.heap.size (.int .i64 t) (.slice a l k)):=by
 refine ⟨_,bb,t,a,l,k,rfl,rfl,set2_block hb _ _,grow_set2 (gTq (gBq _) (undrew hg)) (Nat.le_refl _) _ _,?_⟩
 rcases h with ⟨h1,T,h2,h3⟩ | h
 ·refine .inl ⟨h1,T,h2,(h3.setFar ?_ _ _).okMono (fun _ _ _=>trivial)⟩
  show ¬ (W3.alloc o).heap.size <= W3.heap.size
  rw [World.size_alloc];omega
 ·exact .inr h
theorem reckons_two {W:World} {p n:Int} {ta ra da:Option Addr} {tl tc rl rc dl dc:Nat} {dk dn dp:Int} {ds:ByteArray} {s:List Ty} {sv:Value} (hp:p = 69 \/ p = 70 \/ p = 71 \/ p = 72) (hs:RowC W s sv) (hc:sFq s [0,0] = true) (hn:s.length <= 1000) :
 Calls Tryz.prog 87 #[insV p n ta tl tc ra rl rc dk dn dp ds da dl dc,sv] W (LPq (match rKq p (tAq s 0).t (tAq s 1).t with
  | some T=>pFq (s.drop 2) [T]
  | none=>.no 5) W):=by
 obtain ⟨sa,sl,sc,e1⟩:=hs.form3
 subst e1
 unfold insV
 have HP:=jh hp
 have p1:(p == 93) = false:=by rw [beq_eq_false_iff_ne];omega
 have p2:(p == 94) = false:=by rw [beq_eq_false_iff_ne];omega
 have p3:(p == 95) = false:=by rw [beq_eq_false_iff_ne];omega
 have p4:(decide (p = 69 \/ p = 70 \/ p = 71 \/ p = 72)) = true:=by simpa using hp
 obtain ⟨hg3,hI3,hR3,hK3⟩:=start3 W (.cells #[.int .i64 p,.int .i64 n,.slice ta tl tc,.slice ra rl rc,.int .i64 dk,.int .i64 dn,.int .i64 dp,.string ds,.slice da dl dc] 115) (.cells #[.slice none 0 0,.bool false] 62) (.cells #[.int .i64 0,.int .i64 0] 3)
 have hs3:=hs.grow hg3
 have HST:=jh (sTq (ks:=[0,0]) (kc:=2) hs3 (kinds2 hK3) (by decide))
 rw [hc] at HST
 have hlen:2 <= s.length:=slq hc
 obtain ⟨hsl,hsc,_⟩:=hs3.len
 obtain ⟨b,o,t0,a0,l0,k0,rfl,x0a,x0b,hA0⟩:=hs3.at 0 (by omega)
 obtain ⟨_,_,t1,a1,l1,k1,eb,x1a,x1b,hA1⟩:=hs3.at 1 (by omega)
 simp only [Option.some.injEq,Addr.mk.injEq,and_true] at eb
 obtain ⟨rfl,rfl⟩:=eb
 obtain ⟨e0,_⟩:=hA0.args
 obtain ⟨e1,_⟩:=hA1.args
 rw [e0,e1]
 have bz1:(1:Int) <= (sl:Int):=by omega
 have by0:0 < sl:=by omega
 have bz2:(2:Int) <= (sl:Int):=by omega
 have by1:(1:Int) < (sl:Int):=by omega
 have b1:(sl:Int) <= (sc:Int):=by omega
 have HSL:=jh hsl
 have HG3:=jh hg3
 have HI3:=jh hI3
 have HR3:=jh hR3
 have HS3:=jh hs3
 have HLEN:=jh hlen
 simp only [Nat.reduceMul,Nat.reduceAdd,Nat.add_zero,Nat.mul_zero,Nat.zero_add] at x0a x0b x1a x1b
 obtain ⟨r,hr⟩:∃ r,r = rKq p t0 t1:=⟨_,rfl⟩
 rw [← hr]
 have HRR:=jh hr
 clear hg3 hI3 hR3 hs hs3 hsl hlen hc hK3 hA0 hA1 e0 e1 hr hp
 go_enter Tryz.func87,Tryz.ntmps87
 go_wp2_with fail
 refine (isOfTwo_any p _).mono ?_;rintro e w9 ⟨rfl,rfl⟩
 rw [p4]
 go_wp2_with fail
 refine HST.out.mono ?_;rintro e w1 ⟨rfl,rfl⟩
 clear HST
 generalize ((W.alloc _).alloc _).alloc _ = W3 at *
 obtain ⟨i0,i1,i2,i3,_⟩:=box9 HI3.out
 have y0a:=fun (w':World) (h:W3.grownBy w' none)=>aI (kNq h x0a) (aI (kNq h x1a) (kNq h i0))
 have hS0:W3.grownBy W3 none:=gRf _ _
 go_wp2_with fail
 go_cut [6,7] (fun pv qv wx=>RecCut r W3 pv qv wx)
 case first =>
  go_region_held3 (fun w'=>W3.grownBy w' none) (first | with_reducible assumption | with_reducible exact gDr (gRf _ _) | with_reducible exact grow_set2N (by assumption) (Nat.le_refl _) | with_reducible exact gTq (by assumption) (gBq _) | with_reducible exact gDr (gBq _)) (first
   | (go_at_call 115;refine (reckoned_any _ _ _ HP.out _).mono ?_;rintro e w4 hp4;obtain ⟨bb,t4,a4,l4,k4,rfl,hg4,h4⟩:=hp4.form;have hS4:W3.grownBy w4 none:=gTq (gDr (gBq _)) hg4;have hb9:w4.heap[W3.heap.size]? = some (.cells #[.int .i64 0,.slice none 0 0] 24 (0,0)):=(hg4.block _ (by simp) (by simp)).trans (heap_alloc_new W3 _);have q0:=c0q hb9;have q1:=c1q hb9;have q2:=free2_of hb9;have HB9:=jh hb9;rw [← HRR.out] at h4;have H4:=jh h4;have HG4:=jh hg4;clear hp4 hg4 h4 hb9)
   | (go_at_call 115;refine (reckoned_any _ _ _ HP.out _).mono ?_;rintro e w4 hp4;obtain ⟨bb,t4,a4,l4,k4,rfl,hg4,h4⟩:=hp4.form;have hS4:W3.grownBy w4 none:=undrew hg4;rw [← HRR.out] at h4;have H4:=jh h4;have HG4:=jh hg4;clear hp4 hg4 h4))
  all_goals
   go_wp2_with fail
   go_meet
   first
   | with_reducible exact recCut_one HG4.out H4.out
   | exact recCut_two HG4.out HB9.out H4.out
 case rest =>
  obtain ⟨bp,bb,t4,a4,l4,k4,rfl,rfl,hbp,hg,h4⟩:=hcut
  replace HR3:=bCq HR3 hg
  replace HS3:=rCq HS3 hg
  replace HG3:=gCq HG3 hg
  replace i0:=kNq hg i0
  clear hg y0a hS0 x0a x0b x1a x1b i1 i2 i3
  rcases h4 with ⟨rfl,T,e4,hT4⟩ | ⟨rfl,e4⟩
  ·subst e4
   have xp:=c0q hbp
   have xq:=c1q hbp
   have yp:=fun (w':World) (h:wc.grownBy w' (some (W.heap.size + 1)))=>aI (kDq HR3.out h xp xp) (kDq HR3.out h xp xq)
   have HT4:=jh hT4
   have hS0:wc.grownBy wc (some (W.heap.size + 1)):=gRf _ _
   clear hT4 hbp
   rcases (show (sc = 2 /\ sl = 2) \/ (¬ sc = 2 /\ ¬ sc - 2 = 0) by omega) with ⟨rfl,rfl⟩ | ⟨hc2,hc3⟩
   have HD:=jh (HS3.out.dropAll 2 (by have:=HSL.out;omega) (some ⟨b,o,none⟩) 0)
   rotate_left
   have HD:=jh (HS3.out.drop 2 HLEN.out)
   all_goals
    go_wp2_with fail
    go_region_held3 (fun w'=>wc.grownBy w' (some (W.heap.size + 1))) (first | with_reducible assumption | with_reducible exact gDr (gRf _ _) | with_reducible exact grow_setR (by assumption) | with_reducible exact gTr (by assumption) (gAq (gBq _)) | with_reducible exact gDr (gAq (gBq _))) (first
     | (go_at_call 108;refine (pAq (HD.out.grow (gDr (gBq _))) (RowC.dr (RowC.one (heap_alloc_new wc _) (HT4.out.same (sAl (gBq _))))) (by simp;omega)).mono ?_;rintro e w5 hp;obtain ⟨a5,l5,c5,f5,er5,rfl,hS5,q0,q1,q2,HB5,HL5⟩:=lFq hp HG3.out (gDr (gBq _)) HR3.out;clear hp))
    go_wp2_with fail
    exact eLq (fun w z0 z1=>by simp [results,Tryz.results87,go_sem,z0,z1]) rfl HB5.out HL5.out
  ·subst e4
   clear hbp
   go_wp2_with fail
   refine (rLq 5 (by decide) _).mono ?_
   rintro e w5 hp
   obtain ⟨a5,l5,c5,f5,er5,rfl,hS5,q0,q1,q2,HB5,HL5⟩:=lFq hp HG3.out (gRf _ _) HR3.out
   clear hp
   go_wp2_with fail
   exact eLq (fun w z0 z1=>by simp [results,Tryz.results87,go_sem,z0,z1]) rfl HB5.out HL5.out
theorem reckons_twon {W:World} {p n:Int} {ta ra da:Option Addr} {tl tc rl rc dl dc:Nat} {dk dn dp:Int} {ds:ByteArray} {s:List Ty} {sv:Value} (hp:p = 69 \/ p = 70 \/ p = 71 \/ p = 72) (hs:RowC W s sv) (hc:sFq s [0,0] = false) :
 Calls Tryz.prog 87 #[insV p n ta tl tc ra rl rc dk dn dp ds da dl dc,sv] W (LPq (.no 5) W):=by
 obtain ⟨sa,sl,sc,e1⟩:=hs.form3
 subst e1
 unfold insV
 have p1:(p == 93) = false:=by rw [beq_eq_false_iff_ne];omega
 have p2:(p == 94) = false:=by rw [beq_eq_false_iff_ne];omega
 have p3:(p == 95) = false:=by rw [beq_eq_false_iff_ne];omega
 have p4:(decide (p = 69 \/ p = 70 \/ p = 71 \/ p = 72)) = true:=by simpa using hp
 obtain ⟨hg3,hI3,hR3,hK3⟩:=start3 W (.cells #[.int .i64 p,.int .i64 n,.slice ta tl tc,.slice ra rl rc,.int .i64 dk,.int .i64 dn,.int .i64 dp,.string ds,.slice da dl dc] 115) (.cells #[.slice none 0 0,.bool false] 62) (.cells #[.int .i64 0,.int .i64 0] 3)
 have HST:=jh (sTq (ks:=[0,0]) (kc:=2) (hs.grow hg3) (kinds2 hK3) (by decide))
 rw [hc] at HST
 have HG3:=jh hg3
 have HI3:=jh hI3
 have HR3:=jh hR3
 clear hg3 hI3 hR3 hs hc hK3 hp
 go_enter Tryz.func87,Tryz.ntmps87
 go_wp2_with fail
 refine (isOfTwo_any p _).mono ?_;rintro e w9 ⟨rfl,rfl⟩
 rw [p4]
 go_wp2_with fail
 refine HST.out.mono ?_;rintro e w1 ⟨rfl,rfl⟩
 clear HST
 generalize ((W.alloc _).alloc _).alloc _ = W3 at *
 go_wp2_with fail
 refine (rLq 5 (by decide) _).mono ?_
 rintro e w5 hp
 obtain ⟨a5,l5,c5,f5,er5,rfl,hS5,q0,q1,q2,HB5,HL5⟩:=lFq hp HG3.out (gRf _ _) HR3.out
 clear hp
 go_wp2_with fail
 exact eLq (fun w z0 z1=>by simp [results,Tryz.results87,go_sem,z0,z1]) rfl HB5.out HL5.out
end Go.Proofs.YtkglnoimbekhhaaGreat
