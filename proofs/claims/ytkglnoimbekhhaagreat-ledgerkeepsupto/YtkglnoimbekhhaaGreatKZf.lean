import Derived.Test.YtkglnoimbekhhaaGreatKZd
namespace Go.Proofs.YtkglnoimbekhhaaGreat
set_option maxRecDepth 100000
set_option maxHeartbeats 4000000
open Go.ChangeShapes Go.WideShapes Go.ChangeAt Go.RowKit
set_option linter.unusedVariables false
set_option linter.unusedSimpArgs false
theorem concat_w1 {W:World} {x y:List Ty} {xv yv:Value} (hx:RowC W x xv) (hy:RowC W y yv) (hn:x.length + y.length <= 20000000) :
 Calls Tryz.prog 110 #[.slice (some ⟨W.heap.size,0,none⟩) 2 2] (W.alloc (.cells #[xv,yv] 22)).drew fun e w'=>∃ v,e = .returned v /\ RowC w' (x ++ y) v /\ W.grownBy w' none :=
 (concat_any (W:=(W.alloc _).drew) (heap_alloc_new W _) (hx.grow (gDr (gBq _))) (hy.grow (gDr (gBq _))) hn).mono fun e w' ⟨v,h1,h2,h3⟩=>⟨v,h1,h2,gTq (gDr (gBq _)) h3⟩
theorem concat_w2 {W:World} {o:Obj} {x y:List Ty} {xv yv:Value} (hx:RowC W x xv) (hy:RowC W y yv) (hn:x.length + y.length <= 20000000) :
 Calls Tryz.prog 110 #[.slice (some ⟨W.heap.size,0,none⟩) 2 2] ((W.alloc (.cells #[xv,yv] 22)).alloc o).drew fun e w'=>∃ v,e = .returned v /\ RowC w' (x ++ y) v /\ W.grownBy w' none /\ w'.heap[W.heap.size + 1]? = some o :=
 (concat_any (W:=((W.alloc _).alloc _).drew) (heap_keep (heap_alloc_new W _)) (hx.grow (gDr (gTq (gBq _) (gBq _)))) (hy.grow (gDr (gTq (gBq _) (gBq _)))) hn).mono fun e w' ⟨v,h1,h2,h3⟩=>⟨v,h1,h2,gTq (gDr (gTq (gBq _) (gBq _))) h3,kBq (new_two2 W _ _) (undrew h3)⟩
theorem concat_w3 {W:World} {o:Obj} {x y:List Ty} {xv yv:Value} (hx:RowC W x xv) (hy:RowC W y yv) (hn:x.length + y.length <= 20000000) :
 Calls Tryz.prog 110 #[.slice (some ⟨W.heap.size + 1,0,none⟩) 2 2] ((W.alloc o).alloc (.cells #[xv,yv] 22)).drew fun e w'=>∃ v,e = .returned v /\ RowC w' (x ++ y) v /\ W.grownBy w' none /\ w'.heap[W.heap.size]? = some o :=
 (concat_any (W:=((W.alloc _).alloc _).drew) (new_two2 W _ _) (hx.grow (gDr (gTq (gBq _) (gBq _)))) (hy.grow (gDr (gTq (gBq _) (gBq _)))) hn).mono fun e w' ⟨v,h1,h2,h3⟩=>⟨v,h1,h2,gTq (gDr (gTq (gBq _) (gBq _))) h3,kBq (rNw W _ _) (undrew h3)⟩
theorem moves_43 {W:World} {m:Nat} {ta ra da:Option Addr} {tl tc rl rc dl dc:Nat} {dk dn dp:Int} {ds:ByteArray} {s:List Ty} {sv:Value} (hs:RowC W s sv) (hm:m < s.length) (hn:s.length <= 1000) :
 Calls Tryz.prog 82 #[insV 43 (m:Int) ta tl tc ra rl rc dk dn dp ds da dl dc,sv] W (LPq (pFq (s.take m ++ s.drop (m + 1)) [tAq s m]) W):=by
 obtain ⟨sa,sl,sc,e1⟩:=hs.form3
 subst e1
 unfold insV
 obtain ⟨hg3,hI3,hR3⟩:=start2 W (.cells #[.int .i64 43,.int .i64 (m:Int),.slice ta tl tc,.slice ra rl rc,.int .i64 dk,.int .i64 dn,.int .i64 dp,.string ds,.slice da dl dc] 115) (.cells #[.slice none 0 0,.bool false] 62)
 have hs3:=hs.grow hg3
 obtain ⟨hsl,hsc,_⟩:=hs3.len
 obtain ⟨b,o,t0,a0,l0,k0,rfl,x0a,x0b,hA0⟩:=hs3.at m hm
 have b1:(sl:Int) <= (sc:Int):=by omega
 have b2:(m:Int) + 1 <= (sl:Int):=by omega
 have b3:(m:Int) < (sl:Int):=by omega
 have b4:m < sl:=by omega
 have b5:(m:Int) <= 1000:=by omega
 have b6:(0:Int) <= (m:Int):=by omega
 have b7:(m:Int) <= (sc:Int):=by omega
 have b8:IntKind.i64.wrap ((m:Int) + 1) = (m:Int) + 1:=by rw [IntKind.wrap_i64];omega
 have b9:(0:Int) <= (m:Int) + 1:=by omega
 have b12:(m:Int) + 1 <= (sc:Int):=by omega
 rw [show 2 * m = m * 2 from Nat.mul_comm _ _] at x0a x0b
 rw [← Nat.add_assoc] at x0b
 have HA0:=jh hA0
 have HG3:=jh hg3
 have HI3:=jh hI3
 have HR3:=jh hR3
 have HS3:=jh hs3
 have HSL:=jh hsl
 obtain ⟨i0,i1,i2,i3,_⟩:=box9 hI3
 clear hg3 hI3 hR3 hs hs3 hA0 hsl hm
 go_enter Tryz.func82,Tryz.ntmps82
 go_wp2_with fail
 generalize (W.alloc _).alloc _ = W3 at *
 have y0a:=fun (w':World) (h:W3.grownBy w' (some (W.heap.size + 1)))=>aI (kDq HR3.out h x0a x0a) (aI (kDq HR3.out h x0a x0b) ((box9 (keepI HI3.out h)).2.1))
 have hS0:W3.grownBy W3 (some (W.heap.size + 1)):=gRf _ _
 by_cases hc2:sc = m + 1
 ·subst hc2
  obtain rfl:sl = m + 1:=by omega
  have d1:(m:Int) <= (m:Int) + 1:=by omega
  have d2:(m:Int) < (m:Int) + 1:=by omega
  have d3:m < m + 1:=by omega
  have HX:=jh (HS3.out.take m (m + 1) (by have:=HSL.out;omega) (by omega))
  have HY:=jh (HS3.out.dropAll (m + 1) (by have:=HSL.out;omega) (some ⟨b,o,none⟩) 0)
  go_region_held3 (fun w'=>W3.grownBy w' (some (W.heap.size + 1))) (first | with_reducible assumption | with_reducible exact gDr (gRf _ _) | with_reducible exact grow_setR (by assumption) | with_reducible exact gTr (by assumption) (gAq (gBq _)) | with_reducible exact gDr (gAq (gBq _)) | with_reducible exact gDr (gAq (gTq (gBq _) (gBq _)))) (first
   | (go_at_call 110;with_reducible refine (concat_w1 HX.out HY.out (by have:=HSL.out;simp;omega)).mono ?_;rintro e w4 ⟨v4,rfl,hr4,hg4⟩;obtain ⟨a4,l4,c4,e4⟩:=hr4.form3;subst e4;have HR4:=jh hr4;have HG4:=jh hg4;have hS4:W3.grownBy w4 (some (W.heap.size + 1)):=gAq HG4.out;clear hr4 hg4)
   | (go_at_call 110;with_reducible refine (concat_w2 HX.out HY.out (by have:=HSL.out;simp;omega)).mono ?_;rintro e w4 ⟨v4,rfl,hr4,hg4,hx4⟩;obtain ⟨a4,l4,c4,e4⟩:=hr4.form3;subst e4;have HR4:=jh hr4;have HG4:=jh hg4;have HXC:=jh hx4;clear hx4;have hS4:W3.grownBy w4 (some (W.heap.size + 1)):=gAq HG4.out;clear hr4 hg4)
   | (go_at_call 110;with_reducible refine (concat_w3 HX.out HY.out (by have:=HSL.out;simp;omega)).mono ?_;rintro e w4 ⟨v4,rfl,hr4,hg4,hx4⟩;obtain ⟨a4,l4,c4,e4⟩:=hr4.form3;subst e4;have HR4:=jh hr4;have HG4:=jh hg4;have HXC:=jh hx4;clear hx4;have hS4:W3.grownBy w4 (some (W.heap.size + 1)):=gAq HG4.out;clear hr4 hg4)
   | (go_at_call 108;have hx:=HXC.out;clear hx;refine (pAq HR4.out (RowC.one HXC.out (HA0.out.same (sAl HG4.out))) (by have:=HSL.out;simp;omega)).mono ?_;rintro e w5 hp;obtain ⟨a5,l5,c5,f5,er5,rfl,hS5,q0,q1,q2,HB5,HL5⟩:=lFq hp HG3.out HG4.out HR3.out;clear hp)
   | (go_at_call 108;refine (pAq (HR4.out.grow (gBq _)) (RowC.one (heap_alloc_new w4 _) (HA0.out.same (sAl (gTq HG4.out (gBq _))))) (by have:=HSL.out;simp;omega)).mono ?_;rintro e w5 hp;obtain ⟨a5,l5,c5,f5,er5,rfl,hS5,q0,q1,q2,HB5,HL5⟩:=lFq hp HG3.out (gTq HG4.out (gBq _)) HR3.out;clear hp))
  all_goals
   go_wp2_with fail
   exact eLq (fun w z0 z1=>by simp [results,Tryz.results82,go_sem,z0,z1]) rfl HB5.out HL5.out
 ·have hc3:¬ sc - (m + 1) = 0:=by omega
  have HX:=jh (HS3.out.take m sc (by have:=HSL.out;omega) (by omega))
  have HY:=jh (HS3.out.drop (m + 1) (by have:=HSL.out;omega))
  go_region_held3 (fun w'=>W3.grownBy w' (some (W.heap.size + 1))) (first | with_reducible assumption | with_reducible exact gDr (gRf _ _) | with_reducible exact grow_setR (by assumption) | with_reducible exact gTr (by assumption) (gAq (gBq _)) | with_reducible exact gDr (gAq (gBq _)) | with_reducible exact gDr (gAq (gTq (gBq _) (gBq _)))) (first
   | (go_at_call 110;with_reducible refine (concat_w1 HX.out HY.out (by have:=HSL.out;simp;omega)).mono ?_;rintro e w4 ⟨v4,rfl,hr4,hg4⟩;obtain ⟨a4,l4,c4,e4⟩:=hr4.form3;subst e4;have HR4:=jh hr4;have HG4:=jh hg4;have hS4:W3.grownBy w4 (some (W.heap.size + 1)):=gAq HG4.out;clear hr4 hg4)
   | (go_at_call 110;with_reducible refine (concat_w2 HX.out HY.out (by have:=HSL.out;simp;omega)).mono ?_;rintro e w4 ⟨v4,rfl,hr4,hg4,hx4⟩;obtain ⟨a4,l4,c4,e4⟩:=hr4.form3;subst e4;have HR4:=jh hr4;have HG4:=jh hg4;have HXC:=jh hx4;clear hx4;have hS4:W3.grownBy w4 (some (W.heap.size + 1)):=gAq HG4.out;clear hr4 hg4)
   | (go_at_call 110;with_reducible refine (concat_w3 HX.out HY.out (by have:=HSL.out;simp;omega)).mono ?_;rintro e w4 ⟨v4,rfl,hr4,hg4,hx4⟩;obtain ⟨a4,l4,c4,e4⟩:=hr4.form3;subst e4;have HR4:=jh hr4;have HG4:=jh hg4;have HXC:=jh hx4;clear hx4;have hS4:W3.grownBy w4 (some (W.heap.size + 1)):=gAq HG4.out;clear hr4 hg4)
   | (go_at_call 108;have hx:=HXC.out;clear hx;refine (pAq HR4.out (RowC.one HXC.out (HA0.out.same (sAl HG4.out))) (by have:=HSL.out;simp;omega)).mono ?_;rintro e w5 hp;obtain ⟨a5,l5,c5,f5,er5,rfl,hS5,q0,q1,q2,HB5,HL5⟩:=lFq hp HG3.out HG4.out HR3.out;clear hp)
   | (go_at_call 108;refine (pAq (HR4.out.grow (gBq _)) (RowC.one (heap_alloc_new w4 _) (HA0.out.same (sAl (gTq HG4.out (gBq _))))) (by have:=HSL.out;simp;omega)).mono ?_;rintro e w5 hp;obtain ⟨a5,l5,c5,f5,er5,rfl,hS5,q0,q1,q2,HB5,HL5⟩:=lFq hp HG3.out (gTq HG4.out (gBq _)) HR3.out;clear hp))
  all_goals
   go_wp2_with fail
   exact eLq (fun w z0 z1=>by simp [results,Tryz.results82,go_sem,z0,z1]) rfl HB5.out HL5.out
theorem moves_44z {W:World} {ta ra da:Option Addr} {tl tc rl rc dl dc:Nat} {dk dn dp:Int} {ds:ByteArray} {s:List Ty} {sv:Value} (hs:RowC W s sv) (hm:0 < s.length) (hc1:∀ a l c,sv = .slice a l c -> c = 1) (hn:s.length <= 1000) :
 Calls Tryz.prog 82 #[insV 44 0 ta tl tc ra rl rc dk dn dp ds da dl dc,sv] W (LPq (pFq (s.take 1 ++ s.drop 1) ((s.drop 1).take 0)) W):=by
 obtain ⟨sa,sl,sc,e1⟩:=hs.form3
 subst e1
 obtain rfl:sc = 1:=hc1 _ _ _ rfl
 clear hc1
 unfold insV
 obtain ⟨hg3,hI3,hR3⟩:=start2 W (.cells #[.int .i64 44,.int .i64 0,.slice ta tl tc,.slice ra rl rc,.int .i64 dk,.int .i64 dn,.int .i64 dp,.string ds,.slice da dl dc] 115) (.cells #[.slice none 0 0,.bool false] 62)
 have hs3:=hs.grow hg3
 obtain ⟨hsl,hsc,_⟩:=hs3.len
 obtain ⟨b,o,t0,a0,l0,k0,rfl,x0a,x0b,hA0⟩:=hs3.at 0 hm
 obtain rfl:sl = 1:=by omega
 have hw1:IntKind.i64.wrap (0 + 1) = 1:=by rw [IntKind.wrap_i64];omega
 have hw2:IntKind.i64.wrap 1 = 1:=by rw [IntKind.wrap_i64];omega
 simp only [Nat.mul_zero,Nat.add_zero,Nat.zero_add] at x0a x0b
 have HA0:=jh hA0
 have HG3:=jh hg3
 have HI3:=jh hI3
 have HR3:=jh hR3
 have HS3:=jh hs3
 have HSL:=jh hsl
 obtain ⟨i0,i1,i2,i3,_⟩:=box9 hI3
 clear hg3 hI3 hR3 hs hs3 hA0 hsl hm
 go_enter Tryz.func82,Tryz.ntmps82
 go_wp2_with fail
 generalize (W.alloc _).alloc _ = W3 at *
 have y0a:=fun (w':World) (h:W3.grownBy w' (some (W.heap.size + 1)))=>aI (kDq HR3.out h x0a x0a) (aI (kDq HR3.out h x0a x0b) ((box9 (keepI HI3.out h)).2.1))
 have hS0:W3.grownBy W3 (some (W.heap.size + 1)):=gRf _ _
 have HX:=jh (HS3.out.take 1 1 (by have:=HSL.out;omega) (by omega))
 have HY:=jh (HS3.out.dropAll 1 (by have:=HSL.out;omega) (some ⟨b,o,none⟩) 0)
 have HZ:Hid (RowC W3 ((s.drop 1).take 0) (.slice (some ⟨b,o,none⟩) 0 0)):=RowC.nil _ _ _
 go_region_held3 (fun w'=>W3.grownBy w' (some (W.heap.size + 1))) (first | with_reducible assumption | with_reducible exact gDr (gRf _ _) | with_reducible exact grow_setR (by assumption) | with_reducible exact gTr (by assumption) (gAq (gBq _)) | with_reducible exact gDr (gAq (gBq _)) | with_reducible exact gDr (gAq (gTq (gBq _) (gBq _)))) (first
  | (go_at_call 110;with_reducible refine (concat_w1 HX.out HY.out (by have:=HSL.out;simp;omega)).mono ?_;rintro e w4 ⟨v4,rfl,hr4,hg4⟩;obtain ⟨a4,l4,c4,e4⟩:=hr4.form3;subst e4;have HR4:=jh hr4;have HG4:=jh hg4;have hS4:W3.grownBy w4 (some (W.heap.size + 1)):=gAq HG4.out;clear hr4 hg4)
  | (go_at_call 108;refine (pAq HR4.out (HZ.out.grow HG4.out) (by have:=HSL.out;simp;omega)).mono ?_;rintro e w5 hp;obtain ⟨a5,l5,c5,f5,er5,rfl,hS5,q0,q1,q2,HB5,HL5⟩:=lFq hp HG3.out HG4.out HR3.out;clear hp))
 all_goals
  go_wp2_with fail
  exact eLq (fun w z0 z1=>by simp [results,Tryz.results82,go_sem,z0,z1]) rfl HB5.out HL5.out
theorem moves_44 {W:World} {m:Nat} {ta ra da:Option Addr} {tl tc rl rc dl dc:Nat} {dk dn dp:Int} {ds:ByteArray} {s:List Ty} {sv:Value} (hs:RowC W s sv) (hm:m < s.length) (hn:s.length <= 1000) :
 Calls Tryz.prog 82 #[insV 44 (m:Int) ta tl tc ra rl rc dk dn dp ds da dl dc,sv] W (LPq (pFq (s.take 1 ++ s.drop (m + 1)) ((s.drop 1).take m)) W):=by
 by_cases hz:m = 0 /\ ∀ a l c,sv = .slice a l c -> c = 1
 ·obtain ⟨rfl,hc1⟩:=hz
  simpa using moves_44z (ta:=ta) (tl:=tl) (tc:=tc) (ra:=ra) (rl:=rl) (rc:=rc) (dk:=dk) (dn:=dn) (dp:=dp) (ds:=ds) (da:=da) (dl:=dl) (dc:=dc) hs hm hc1 hn
 obtain ⟨sa,sl,sc,e1⟩:=hs.form3
 subst e1
 have hz2:¬ (m = 0 /\ sc = 1):=fun h=>hz ⟨h.1,fun a l c e=>by simp only [Value.slice.injEq] at e;omega⟩
 clear hz
 unfold insV
 obtain ⟨hg3,hI3,hR3⟩:=start2 W (.cells #[.int .i64 44,.int .i64 (m:Int),.slice ta tl tc,.slice ra rl rc,.int .i64 dk,.int .i64 dn,.int .i64 dp,.string ds,.slice da dl dc] 115) (.cells #[.slice none 0 0,.bool false] 62)
 have hs3:=hs.grow hg3
 obtain ⟨hsl,hsc,_⟩:=hs3.len
 obtain ⟨b,o,t0,a0,l0,k0,rfl,x0a,x0b,hA0⟩:=hs3.at m hm
 have b1:(sl:Int) <= (sc:Int):=by omega
 have b2:(m:Int) + 1 <= (sl:Int):=by omega
 have b3:(m:Int) < (sl:Int):=by omega
 have b4:m < sl:=by omega
 have b5:(m:Int) <= 1000:=by omega
 have b6:(0:Int) <= (m:Int):=by omega
 have b7:(m:Int) <= (sc:Int):=by omega
 have b8:IntKind.i64.wrap ((m:Int) + 1) = (m:Int) + 1:=by rw [IntKind.wrap_i64];omega
 have b9:(0:Int) <= (m:Int) + 1:=by omega
 have b12:(m:Int) + 1 <= (sc:Int):=by omega
 have b13:(1:Int) <= (sc:Int):=by omega
 have b14:(1:Int) <= (m:Int) + 1:=by omega
 rw [show 2 * m = m * 2 from Nat.mul_comm _ _] at x0a x0b
 rw [← Nat.add_assoc] at x0b
 have HA0:=jh hA0
 have HG3:=jh hg3
 have HI3:=jh hI3
 have HR3:=jh hR3
 have HS3:=jh hs3
 have HSL:=jh hsl
 obtain ⟨i0,i1,i2,i3,_⟩:=box9 hI3
 clear hg3 hI3 hR3 hs hs3 hA0 hsl hm
 go_enter Tryz.func82,Tryz.ntmps82
 go_wp2_with fail
 generalize (W.alloc _).alloc _ = W3 at *
 have y0a:=fun (w':World) (h:W3.grownBy w' (some (W.heap.size + 1)))=>aI (kDq HR3.out h x0a x0a) (aI (kDq HR3.out h x0a x0b) ((box9 (keepI HI3.out h)).2.1))
 have hS0:W3.grownBy W3 (some (W.heap.size + 1)):=gRf _ _
 by_cases hc2:sc = m + 1
 ·subst hc2
  obtain rfl:sl = m + 1:=by omega
  have d1:(m:Int) <= (m:Int) + 1:=by omega
  have d2:(m:Int) < (m:Int) + 1:=by omega
  have d3:m < m + 1:=by omega
  have HX:=jh (HS3.out.take 1 (m + 1) (by have:=HSL.out;omega) (by omega))
  have HY:=jh (HS3.out.dropAll (m + 1) (by have:=HSL.out;omega) (some ⟨b,o,none⟩) 0)
  have hm0:¬ m = 0:=by omega
  have HZ:=jh ((HS3.out.drop 1 (by have:=HSL.out;omega)).take m m (by have:=HSL.out;simp;omega) (by omega))
  go_region_held3 (fun w'=>W3.grownBy w' (some (W.heap.size + 1))) (first | with_reducible assumption | with_reducible exact gDr (gRf _ _) | with_reducible exact grow_setR (by assumption) | with_reducible exact gTr (by assumption) (gAq (gBq _)) | with_reducible exact gDr (gAq (gBq _)) | with_reducible exact gDr (gAq (gTq (gBq _) (gBq _)))) (first
   | (go_at_call 110;with_reducible refine (concat_w1 HX.out HY.out (by have:=HSL.out;simp;omega)).mono ?_;rintro e w4 ⟨v4,rfl,hr4,hg4⟩;obtain ⟨a4,l4,c4,e4⟩:=hr4.form3;subst e4;have HR4:=jh hr4;have HG4:=jh hg4;have hS4:W3.grownBy w4 (some (W.heap.size + 1)):=gAq HG4.out;clear hr4 hg4)
   | (go_at_call 108;refine (pAq HR4.out (HZ.out.grow HG4.out) (by have:=HSL.out;simp;omega)).mono ?_;rintro e w5 hp;obtain ⟨a5,l5,c5,f5,er5,rfl,hS5,q0,q1,q2,HB5,HL5⟩:=lFq hp HG3.out HG4.out HR3.out;clear hp))
  all_goals
   go_wp2_with fail
   exact eLq (fun w z0 z1=>by simp [results,Tryz.results82,go_sem,z0,z1]) rfl HB5.out HL5.out
 ·have hc3:¬ sc - (m + 1) = 0:=by omega
  have hc4:¬ sc - 1 = 0:=by omega
  have hc6:¬ sc <= 1:=by omega
  have HX:=jh (HS3.out.take 1 sc (by have:=HSL.out;omega) (by omega))
  have HY:=jh (HS3.out.drop (m + 1) (by have:=HSL.out;omega))
  have HZ:=jh ((HS3.out.drop 1 (by have:=HSL.out;omega)).take m (sc - 1) (by have:=HSL.out;simp;omega) (by omega))
  go_region_held3 (fun w'=>W3.grownBy w' (some (W.heap.size + 1))) (first | with_reducible assumption | with_reducible exact gDr (gRf _ _) | with_reducible exact grow_setR (by assumption) | with_reducible exact gTr (by assumption) (gAq (gBq _)) | with_reducible exact gDr (gAq (gBq _)) | with_reducible exact gDr (gAq (gTq (gBq _) (gBq _)))) (first
   | (go_at_call 110;with_reducible refine (concat_w1 HX.out HY.out (by have:=HSL.out;simp;omega)).mono ?_;rintro e w4 ⟨v4,rfl,hr4,hg4⟩;obtain ⟨a4,l4,c4,e4⟩:=hr4.form3;subst e4;have HR4:=jh hr4;have HG4:=jh hg4;have hS4:W3.grownBy w4 (some (W.heap.size + 1)):=gAq HG4.out;clear hr4 hg4)
   | (go_at_call 108;refine (pAq HR4.out (HZ.out.grow HG4.out) (by have:=HSL.out;simp;omega)).mono ?_;rintro e w5 hp;obtain ⟨a5,l5,c5,f5,er5,rfl,hS5,q0,q1,q2,HB5,HL5⟩:=lFq hp HG3.out HG4.out HR3.out;clear hp))
  all_goals
   go_wp2_with fail
   exact eLq (fun w z0 z1=>by simp [results,Tryz.results82,go_sem,z0,z1]) rfl HB5.out HL5.out
end Go.Proofs.YtkglnoimbekhhaaGreat
