import Derived.Test.YtkglnoimbekhhaaGreatKZd
import Derived.Test.YtkglnoimbekhhaaGreatKZb
namespace Go.Proofs.YtkglnoimbekhhaaGreat
set_option maxRecDepth 100000
set_option maxHeartbeats 4000000
open Go.ChangeShapes Go.WideShapes Go.ChangeAt Go.RowKit
set_option linter.unusedVariables false
set_option linter.unusedSimpArgs false
theorem vouches_84 {W:World} {n:Int} {ta ra da:Option Addr} {tl tc rl rc dl dc:Nat} {dk dn dp:Int} {ds:ByteArray} {s types:List Ty} {sv:Value} (hs:RowC W s sv) (hT:RowC W types (.slice ta tl tc)) (hc:sFq s [0,4] = true) (ht0:compT (tAq s 0) = true) (hz0:(tAq s 0).size <= 50000000) (hgd:s.all gYq = true) (hn:s.length <= 1000) :
 Calls Tryz.prog 90 #[insV 84 n ta tl tc ra rl rc dk dn dp ds da dl dc,sv] W (LPq (pFq (s.drop 2) [(.nd 9 [(.nd 15 [(tAq s 0)])])]) W):=by
 obtain ⟨sa,sl,sc,e1⟩:=hs.form3
 subst e1
 unfold insV
 obtain ⟨hg3,hI3,hR3⟩:=start2 W (.cells #[.int .i64 84,.int .i64 n,.slice ta tl tc,.slice ra rl rc,.int .i64 dk,.int .i64 dn,.int .i64 dp,.string ds,.slice da dl dc] 115) (.cells #[.slice none 0 0,.bool false] 62)
 have hs3:=hs.grow hg3
 have hT3:=hT.grow hg3
 have hlen:2 <= s.length:=slq hc
 obtain ⟨hsl,hsc,_⟩:=hs3.len
 obtain ⟨b,o,t0,a0,l0,k0,rfl,x0a,x0b,hA0⟩:=hs3.at 0 (by omega)
 have HA0:=jh hA0
 have bz1:(1:Int) <= (sl:Int):=by omega
 have by0:0 < sl:=by omega
 have bz2:(2:Int) <= (sl:Int):=by omega
 have by1:(1:Int) < (sl:Int):=by omega
 have b1:(sl:Int) <= (sc:Int):=by omega
 have HSL:=jh hsl
 have HG3:=jh hg3
 have HI3:=jh hI3
 have HR3:=jh hR3
 have HS3:=jh hs3
 have HLEN:=jh hlen
 simp only [Nat.reduceMul,Nat.reduceAdd,Nat.add_zero,Nat.mul_zero,Nat.zero_add] at x0a x0b
 obtain ⟨i0,i1,i2,i3,_⟩:=box9 hI3
 clear hg3 hI3 hR3 hs hs3 hT hT3 hsl hlen hgd hA0
 go_enter Tryz.func90,Tryz.ntmps90
 go_wp2_with fail
 generalize (W.alloc _).alloc _ = W3 at *
 refine (of_any 4 _ _ _ _).mono ?_;rintro e w1 ⟨rfl,hg⟩
 replace x0a:=kNq hg x0a
 replace x0b:=kNq hg x0b
 replace i0:=kNq hg i0
 replace i2:=kNq hg i2
 replace HI3:=bCq HI3 hg
 replace HR3:=bCq HR3 hg
 replace HS3:=rCq HS3 hg
 replace HG3:=gCq HG3 hg
 replace HA0:=tCq HA0 hg
 clear hg
 have hg:=gBq (w:=w1) (.cells #[.int .i64 4,.slice none 0 0] 24)
 have hN:=heap_alloc_new w1 (.cells #[.int .i64 4,.slice none 0 0] 24)
 replace x0a:=kNq hg x0a
 replace x0b:=kNq hg x0b
 replace i0:=kNq hg i0
 replace i2:=kNq hg i2
 replace HI3:=bCq HI3 hg
 replace HR3:=bCq HR3 hg
 replace HS3:=rCq HS3 hg
 replace HG3:=gCq HG3 hg
 replace HA0:=tCq HA0 hg
 clear hg
 have hszn:(w1.alloc (.cells #[.int .i64 4,.slice none 0 0] 24)).heap.size = w1.heap.size + 1:=by simp
 go_wp2_with fail
 generalize w1.alloc (.cells #[.int .i64 4,.slice none 0 0] 24) = wn at *
 have xna:=c0q hN
 have xnb:=c1q hN
 have HAnat:Hid (LiesT (fun _=>True) wn (.nd 4 []) (tyV 4 none 0 0)):=LiesT.oq ⟨by decide,by decide⟩ (RowC.nil _ none 0)
 clear hN
 have hg:=gBq (w:=wn) (.cells #[.int .i64 0,.int .i64 4] 3)
 have hK3:=new_at (o:=(.cells #[.int .i64 0,.int .i64 4] 3)) hszn
 have HST:=jh (sTq (ks:=[0,4]) (kc:=2) (HS3.out.grow hg) (kinds2 hK3) (by decide))
 rw [hc] at HST
 refine HST.out.mono ?_;rintro e w2 ⟨rfl,rfl⟩
 clear HST hK3
 replace x0a:=kNq hg x0a
 replace x0b:=kNq hg x0b
 replace xna:=kNq hg xna
 replace xnb:=kNq hg xnb
 replace i0:=kNq hg i0
 replace i2:=kNq hg i2
 replace HI3:=bCq HI3 hg
 replace HR3:=bCq HR3 hg
 replace HS3:=rCq HS3 hg
 replace HG3:=gCq HG3 hg
 replace HA0:=tCq HA0 hg
 replace HAnat:=tCq HAnat hg
 clear hg
 generalize wn.alloc _ = wk at *
 go_wp2_with fail
 refine (comparable_any HA0.out.low hz0).mono ?_;rintro e wt0 ⟨rfl,hg⟩
 rw [ht0]
 replace x0a:=kNq hg x0a
 replace x0b:=kNq hg x0b
 replace xna:=kNq hg xna
 replace xnb:=kNq hg xnb
 replace i0:=kNq hg i0
 replace i2:=kNq hg i2
 replace HI3:=bCq HI3 hg
 replace HR3:=bCq HR3 hg
 replace HS3:=rCq HS3 hg
 replace HG3:=gCq HG3 hg
 replace HA0:=tCq HA0 hg
 replace HAnat:=tCq HAnat hg
 clear hg
 have yx0a:=fun (w':World) (h:wt0.grownBy w' (some (W.heap.size + 1)))=>aI (kDq HR3.out h x0a x0a) (aI (kDq HR3.out h x0a x0b) (aI (kDq HR3.out h xna xna) (kDq HR3.out h xna xnb)))
 have hS3:wt0.grownBy wt0 (some (W.heap.size + 1)):=gRf _ _
 rcases (show (sc = 2 /\ sl = 2) \/ (¬ sc = 2 /\ ¬ sc - 2 = 0) by omega) with ⟨rfl,rfl⟩ | ⟨hc2,hc3⟩
 have HD:=jh (HS3.out.dropAll 2 (by have:=HSL.out;omega) (some ⟨b,o,none⟩) 0)
 rotate_left
 have HD:=jh (HS3.out.drop 2 (by have:=HLEN.out;omega))
 all_goals
  go_wp2_with fail
  go_region_held3 (fun w'=>wt0.grownBy w' (some (W.heap.size + 1))) (first | with_reducible assumption | with_reducible exact gDr (gRf _ _) | with_reducible exact grow_setR (by assumption) | with_reducible exact gTr (by assumption) (gAq (gBq _)) | with_reducible exact gDr (gAq (gBq _))) (first
   | (go_at_call 29;have hprev:=HG10.out;clear hprev;refine (of_any 9 _ _ _ _).mono ?_;rintro e w11 ⟨rfl,hg⟩;have HU1:=jh (LiesT.oq (t:=9) ⟨by decide,by decide⟩ (RowC.grow (RowC.one (heap_alloc_new w10 _) (HU0.out.same (sAl (gBq _)))) hg));have HU0:=jh (HU0.out.same (sAl (gTq (gBq _) hg)));have HG11:Hid (wt0.grownBy w11 none):=gTq (gTq HG10.out (gBq _)) hg;have hS:wt0.grownBy w11 (some (W.heap.size + 1)):=gAq HG11.out;clear hg)
   | (go_at_call 29;refine (of_any 15 _ _ _ _).mono ?_;rintro e w10 ⟨rfl,hg⟩;have HU0:=jh (LiesT.oq (t:=15) ⟨by decide,by decide⟩ (RowC.grow (RowC.one (heap_alloc_new wt0 _) (HA0.out.same (sAl (gBq _)))) (undrew hg)));have HG10:Hid (wt0.grownBy w10 none):=gTq (gBq _) (undrew hg);have hS:wt0.grownBy w10 (some (W.heap.size + 1)):=gAq HG10.out;clear hg)
   | (go_at_call 108;have hprev:=HG11.out;clear hprev;refine (pAq (HD.out.grow (gTq HG11.out (gBq _))) (RowC.one (heap_alloc_new w11 _) (HU1.out.same (sAl (gBq _)))) (by simp;omega)).mono ?_;rintro e w5 hp;obtain ⟨a5,l5,c5,f5,er5,rfl,hS5,q0,q1,q2,HB5,HL5⟩:=lFq hp HG3.out (gTq HG11.out (gBq _)) HR3.out;clear hp))
  go_wp2_with fail
  exact eLq (fun w z0 z1=>by simp [results,Tryz.results90,go_sem,z0,z1]) rfl HB5.out HL5.out
theorem vouches_84n {W:World} {n:Int} {ta ra da:Option Addr} {tl tc rl rc dl dc:Nat} {dk dn dp:Int} {ds:ByteArray} {s types:List Ty} {sv:Value} (hs:RowC W s sv) (hT:RowC W types (.slice ta tl tc)) (hc:sFq s [0,4] = false) (hgd:s.all gYq = true) (hn:s.length <= 1000) :
 Calls Tryz.prog 90 #[insV 84 n ta tl tc ra rl rc dk dn dp ds da dl dc,sv] W (LPq (.no 5) W):=by
 obtain ⟨sa,sl,sc,e1⟩:=hs.form3
 subst e1
 unfold insV
 obtain ⟨hg3,hI3,hR3⟩:=start2 W (.cells #[.int .i64 84,.int .i64 n,.slice ta tl tc,.slice ra rl rc,.int .i64 dk,.int .i64 dn,.int .i64 dp,.string ds,.slice da dl dc] 115) (.cells #[.slice none 0 0,.bool false] 62)
 have hs3:=hs.grow hg3
 have hT3:=hT.grow hg3
 have hlen:0 <= s.length:=Nat.zero_le _
 obtain ⟨hsl,hsc,_⟩:=hs3.len
 have b1:(sl:Int) <= (sc:Int):=by omega
 have HSL:=jh hsl
 have HG3:=jh hg3
 have HI3:=jh hI3
 have HR3:=jh hR3
 have HS3:=jh hs3
 have HLEN:=jh hlen
 obtain ⟨i0,i1,i2,i3,_⟩:=box9 hI3
 clear hg3 hI3 hR3 hs hs3 hT hT3 hsl hlen hgd
 go_enter Tryz.func90,Tryz.ntmps90
 go_wp2_with fail
 generalize (W.alloc _).alloc _ = W3 at *
 refine (of_any 4 _ _ _ _).mono ?_;rintro e w1 ⟨rfl,hg⟩
 replace i0:=kNq hg i0
 replace i2:=kNq hg i2
 replace HI3:=bCq HI3 hg
 replace HR3:=bCq HR3 hg
 replace HS3:=rCq HS3 hg
 replace HG3:=gCq HG3 hg
 clear hg
 have hg:=gBq (w:=w1) (.cells #[.int .i64 4,.slice none 0 0] 24)
 have hN:=heap_alloc_new w1 (.cells #[.int .i64 4,.slice none 0 0] 24)
 replace i0:=kNq hg i0
 replace i2:=kNq hg i2
 replace HI3:=bCq HI3 hg
 replace HR3:=bCq HR3 hg
 replace HS3:=rCq HS3 hg
 replace HG3:=gCq HG3 hg
 clear hg
 have hszn:(w1.alloc (.cells #[.int .i64 4,.slice none 0 0] 24)).heap.size = w1.heap.size + 1:=by simp
 go_wp2_with fail
 generalize w1.alloc (.cells #[.int .i64 4,.slice none 0 0] 24) = wn at *
 have xna:=c0q hN
 have xnb:=c1q hN
 have HAnat:Hid (LiesT (fun _=>True) wn (.nd 4 []) (tyV 4 none 0 0)):=LiesT.oq ⟨by decide,by decide⟩ (RowC.nil _ none 0)
 clear hN
 have hg:=gBq (w:=wn) (.cells #[.int .i64 0,.int .i64 4] 3)
 have hK3:=new_at (o:=(.cells #[.int .i64 0,.int .i64 4] 3)) hszn
 have HST:=jh (sTq (ks:=[0,4]) (kc:=2) (HS3.out.grow hg) (kinds2 hK3) (by decide))
 rw [hc] at HST
 refine HST.out.mono ?_;rintro e w2 ⟨rfl,rfl⟩
 clear HST hK3
 replace xna:=kNq hg xna
 replace xnb:=kNq hg xnb
 replace i0:=kNq hg i0
 replace i2:=kNq hg i2
 replace HI3:=bCq HI3 hg
 replace HR3:=bCq HR3 hg
 replace HS3:=rCq HS3 hg
 replace HG3:=gCq HG3 hg
 replace HAnat:=tCq HAnat hg
 clear hg
 generalize wn.alloc _ = wk at *
 have yxna:=fun (w':World) (h:wk.grownBy w' (some (W.heap.size + 1)))=>aI (kDq HR3.out h xna xna) (kDq HR3.out h xna xnb)
 have hS3:wk.grownBy wk (some (W.heap.size + 1)):=gRf _ _
 go_wp2_with fail
 refine (rLq 5 (by decide) _).mono ?_
 rintro e w5 hp
 obtain ⟨a5,l5,c5,f5,er5,rfl,hS5,q0,q1,q2,HB5,HL5⟩:=lFq hp HG3.out (gRf _ _) HR3.out
 clear hp
 go_wp2_with fail
 exact eLq (fun w z0 z1=>by simp [results,Tryz.results90,go_sem,z0,z1]) rfl HB5.out HL5.out
theorem vouches_84n1 {W:World} {n:Int} {ta ra da:Option Addr} {tl tc rl rc dl dc:Nat} {dk dn dp:Int} {ds:ByteArray} {s types:List Ty} {sv:Value} (hs:RowC W s sv) (hT:RowC W types (.slice ta tl tc)) (hc:sFq s [0,4] = true) (ht0:compT (tAq s 0) = false) (hz0:(tAq s 0).size <= 50000000) (hgd:s.all gYq = true) (hn:s.length <= 1000) :
 Calls Tryz.prog 90 #[insV 84 n ta tl tc ra rl rc dk dn dp ds da dl dc,sv] W (LPq (.no 5) W):=by
 obtain ⟨sa,sl,sc,e1⟩:=hs.form3
 subst e1
 unfold insV
 obtain ⟨hg3,hI3,hR3⟩:=start2 W (.cells #[.int .i64 84,.int .i64 n,.slice ta tl tc,.slice ra rl rc,.int .i64 dk,.int .i64 dn,.int .i64 dp,.string ds,.slice da dl dc] 115) (.cells #[.slice none 0 0,.bool false] 62)
 have hs3:=hs.grow hg3
 have hT3:=hT.grow hg3
 have hlen:2 <= s.length:=slq hc
 obtain ⟨hsl,hsc,_⟩:=hs3.len
 obtain ⟨b,o,t0,a0,l0,k0,rfl,x0a,x0b,hA0⟩:=hs3.at 0 (by omega)
 have HA0:=jh hA0
 have bz1:(1:Int) <= (sl:Int):=by omega
 have by0:0 < sl:=by omega
 have bz2:(2:Int) <= (sl:Int):=by omega
 have by1:(1:Int) < (sl:Int):=by omega
 have b1:(sl:Int) <= (sc:Int):=by omega
 have HSL:=jh hsl
 have HG3:=jh hg3
 have HI3:=jh hI3
 have HR3:=jh hR3
 have HS3:=jh hs3
 have HLEN:=jh hlen
 simp only [Nat.reduceMul,Nat.reduceAdd,Nat.add_zero,Nat.mul_zero,Nat.zero_add] at x0a x0b
 obtain ⟨i0,i1,i2,i3,_⟩:=box9 hI3
 clear hg3 hI3 hR3 hs hs3 hT hT3 hsl hlen hgd hA0
 go_enter Tryz.func90,Tryz.ntmps90
 go_wp2_with fail
 generalize (W.alloc _).alloc _ = W3 at *
 refine (of_any 4 _ _ _ _).mono ?_;rintro e w1 ⟨rfl,hg⟩
 replace x0a:=kNq hg x0a
 replace x0b:=kNq hg x0b
 replace i0:=kNq hg i0
 replace i2:=kNq hg i2
 replace HI3:=bCq HI3 hg
 replace HR3:=bCq HR3 hg
 replace HS3:=rCq HS3 hg
 replace HG3:=gCq HG3 hg
 replace HA0:=tCq HA0 hg
 clear hg
 have hg:=gBq (w:=w1) (.cells #[.int .i64 4,.slice none 0 0] 24)
 have hN:=heap_alloc_new w1 (.cells #[.int .i64 4,.slice none 0 0] 24)
 replace x0a:=kNq hg x0a
 replace x0b:=kNq hg x0b
 replace i0:=kNq hg i0
 replace i2:=kNq hg i2
 replace HI3:=bCq HI3 hg
 replace HR3:=bCq HR3 hg
 replace HS3:=rCq HS3 hg
 replace HG3:=gCq HG3 hg
 replace HA0:=tCq HA0 hg
 clear hg
 have hszn:(w1.alloc (.cells #[.int .i64 4,.slice none 0 0] 24)).heap.size = w1.heap.size + 1:=by simp
 go_wp2_with fail
 generalize w1.alloc (.cells #[.int .i64 4,.slice none 0 0] 24) = wn at *
 have xna:=c0q hN
 have xnb:=c1q hN
 have HAnat:Hid (LiesT (fun _=>True) wn (.nd 4 []) (tyV 4 none 0 0)):=LiesT.oq ⟨by decide,by decide⟩ (RowC.nil _ none 0)
 clear hN
 have hg:=gBq (w:=wn) (.cells #[.int .i64 0,.int .i64 4] 3)
 have hK3:=new_at (o:=(.cells #[.int .i64 0,.int .i64 4] 3)) hszn
 have HST:=jh (sTq (ks:=[0,4]) (kc:=2) (HS3.out.grow hg) (kinds2 hK3) (by decide))
 rw [hc] at HST
 refine HST.out.mono ?_;rintro e w2 ⟨rfl,rfl⟩
 clear HST hK3
 replace x0a:=kNq hg x0a
 replace x0b:=kNq hg x0b
 replace xna:=kNq hg xna
 replace xnb:=kNq hg xnb
 replace i0:=kNq hg i0
 replace i2:=kNq hg i2
 replace HI3:=bCq HI3 hg
 replace HR3:=bCq HR3 hg
 replace HS3:=rCq HS3 hg
 replace HG3:=gCq HG3 hg
 replace HA0:=tCq HA0 hg
 replace HAnat:=tCq HAnat hg
 clear hg
 generalize wn.alloc _ = wk at *
 go_wp2_with fail
 refine (comparable_any HA0.out.low hz0).mono ?_;rintro e wt0 ⟨rfl,hg⟩
 rw [ht0]
 replace x0a:=kNq hg x0a
 replace x0b:=kNq hg x0b
 replace xna:=kNq hg xna
 replace xnb:=kNq hg xnb
 replace i0:=kNq hg i0
 replace i2:=kNq hg i2
 replace HI3:=bCq HI3 hg
 replace HR3:=bCq HR3 hg
 replace HS3:=rCq HS3 hg
 replace HG3:=gCq HG3 hg
 replace HA0:=tCq HA0 hg
 replace HAnat:=tCq HAnat hg
 clear hg
 have yx0a:=fun (w':World) (h:wt0.grownBy w' (some (W.heap.size + 1)))=>aI (kDq HR3.out h x0a x0a) (aI (kDq HR3.out h x0a x0b) (aI (kDq HR3.out h xna xna) (kDq HR3.out h xna xnb)))
 have hS3:wt0.grownBy wt0 (some (W.heap.size + 1)):=gRf _ _
 go_wp2_with fail
 refine (rLq 5 (by decide) _).mono ?_
 rintro e w5 hp
 obtain ⟨a5,l5,c5,f5,er5,rfl,hS5,q0,q1,q2,HB5,HL5⟩:=lFq hp HG3.out (gRf _ _) HR3.out
 clear hp
 go_wp2_with fail
 exact eLq (fun w z0 z1=>by simp [results,Tryz.results90,go_sem,z0,z1]) rfl HB5.out HL5.out
theorem vouches_85 {W:World} {n:Int} {ta ra da:Option Addr} {tl tc rl rc dl dc:Nat} {dk dn dp:Int} {ds:ByteArray} {s types:List Ty} {sv:Value} (hs:RowC W s sv) (hT:RowC W types (.slice ta tl tc)) (hc:sFq s [15] = true) (hgd:s.all gYq = true) (hn:s.length <= 1000) :
 Calls Tryz.prog 90 #[insV 85 n ta tl tc ra rl rc dk dn dp ds da dl dc,sv] W (LPq (pFq s [(.nd 11 [(.nd 7 []),(.nd 11 [(tAq (tAq s 0).args 0),(.nd 4 [])])])]) W):=by
 obtain ⟨sa,sl,sc,e1⟩:=hs.form3
 subst e1
 unfold insV
 obtain ⟨hg3,hI3,hR3⟩:=start2 W (.cells #[.int .i64 85,.int .i64 n,.slice ta tl tc,.slice ra rl rc,.int .i64 dk,.int .i64 dn,.int .i64 dp,.string ds,.slice da dl dc] 115) (.cells #[.slice none 0 0,.bool false] 62)
 have hs3:=hs.grow hg3
 have hT3:=hT.grow hg3
 have hlen:1 <= s.length:=slq hc
 obtain ⟨hsl,hsc,_⟩:=hs3.len
 obtain ⟨b,o,t0,a0,l0,k0,rfl,x0a,x0b,hA0⟩:=hs3.at 0 (by omega)
 have HA0:=jh hA0
 have hq0:(tAq s 0).args.length = 1:=cAq hc hgd 0 15 1 rfl (by decide) (by decide)
 obtain ⟨_,hr0⟩:=hA0.args
 obtain ⟨el0,ec0,_⟩:=hr0.len
 rw [hq0] at el0 ec0
 subst el0
 have HQ0:=jh hr0
 have HQL:=jh hq0
 obtain ⟨nb0,no0,t00,a00,l00,k00,rfl,x00a,x00b,hA00⟩:=hr0.at 0 (by omega)
 have HA00:=jh hA00
 have bz1:(1:Int) <= (sl:Int):=by omega
 have by0:0 < sl:=by omega
 have b1:(sl:Int) <= (sc:Int):=by omega
 have HSL:=jh hsl
 have HG3:=jh hg3
 have HI3:=jh hI3
 have HR3:=jh hR3
 have HS3:=jh hs3
 have HLEN:=jh hlen
 simp only [Nat.reduceMul,Nat.reduceAdd,Nat.add_zero,Nat.mul_zero,Nat.zero_add] at x0a x0b x00a x00b
 obtain ⟨i0,i1,i2,i3,_⟩:=box9 hI3
 clear hg3 hI3 hR3 hs hs3 hT hT3 hsl hlen hgd hA0 hr0 hq0 hA00
 go_enter Tryz.func90,Tryz.ntmps90
 go_wp2_with fail
 generalize (W.alloc _).alloc _ = W3 at *
 refine (of_any 4 _ _ _ _).mono ?_;rintro e w1 ⟨rfl,hg⟩
 replace x0a:=kNq hg x0a
 replace x0b:=kNq hg x0b
 replace x00a:=kNq hg x00a
 replace x00b:=kNq hg x00b
 replace i0:=kNq hg i0
 replace i2:=kNq hg i2
 replace HI3:=bCq HI3 hg
 replace HR3:=bCq HR3 hg
 replace HS3:=rCq HS3 hg
 replace HG3:=gCq HG3 hg
 replace HA0:=tCq HA0 hg
 replace HA00:=tCq HA00 hg
 replace HQ0:=rCq HQ0 hg
 clear hg
 have hg:=gBq (w:=w1) (.cells #[.int .i64 4,.slice none 0 0] 24)
 have hN:=heap_alloc_new w1 (.cells #[.int .i64 4,.slice none 0 0] 24)
 replace x0a:=kNq hg x0a
 replace x0b:=kNq hg x0b
 replace x00a:=kNq hg x00a
 replace x00b:=kNq hg x00b
 replace i0:=kNq hg i0
 replace i2:=kNq hg i2
 replace HI3:=bCq HI3 hg
 replace HR3:=bCq HR3 hg
 replace HS3:=rCq HS3 hg
 replace HG3:=gCq HG3 hg
 replace HA0:=tCq HA0 hg
 replace HA00:=tCq HA00 hg
 replace HQ0:=rCq HQ0 hg
 clear hg
 have hszn:(w1.alloc (.cells #[.int .i64 4,.slice none 0 0] 24)).heap.size = w1.heap.size + 1:=by simp
 go_wp2_with fail
 generalize w1.alloc (.cells #[.int .i64 4,.slice none 0 0] 24) = wn at *
 have xna:=c0q hN
 have xnb:=c1q hN
 have HAnat:Hid (LiesT (fun _=>True) wn (.nd 4 []) (tyV 4 none 0 0)):=LiesT.oq ⟨by decide,by decide⟩ (RowC.nil _ none 0)
 clear hN
 have hg:=gBq (w:=wn) (.cells #[.int .i64 15] 3)
 have hK3:=new_at (o:=(.cells #[.int .i64 15] 3)) hszn
 have HST:=jh (sTq (ks:=[15]) (kc:=1) (HS3.out.grow hg) (kinds1 hK3) (by decide))
 rw [hc] at HST
 refine HST.out.mono ?_;rintro e w2 ⟨rfl,rfl⟩
 clear HST hK3
 replace x0a:=kNq hg x0a
 replace x0b:=kNq hg x0b
 replace x00a:=kNq hg x00a
 replace x00b:=kNq hg x00b
 replace xna:=kNq hg xna
 replace xnb:=kNq hg xnb
 replace i0:=kNq hg i0
 replace i2:=kNq hg i2
 replace HI3:=bCq HI3 hg
 replace HR3:=bCq HR3 hg
 replace HS3:=rCq HS3 hg
 replace HG3:=gCq HG3 hg
 replace HA0:=tCq HA0 hg
 replace HA00:=tCq HA00 hg
 replace HAnat:=tCq HAnat hg
 replace HQ0:=rCq HQ0 hg
 clear hg
 generalize wn.alloc _ = wk at *
 have yx0a:=fun (w':World) (h:wk.grownBy w' (some (W.heap.size + 1)))=>aI (kDq HR3.out h x0a x0a) (aI (kDq HR3.out h x0a x0b) (aI (kDq HR3.out h x00a x00a) (aI (kDq HR3.out h x00a x00b) (aI (kDq HR3.out h xna xna) (kDq HR3.out h xna xnb)))))
 have hS3:wk.grownBy wk (some (W.heap.size + 1)):=gRf _ _
 have HD:=HS3
 go_wp2_with fail
 go_region_held3 (fun w'=>wk.grownBy w' (some (W.heap.size + 1))) (first | with_reducible assumption | with_reducible exact gDr (gRf _ _) | with_reducible exact grow_setR (by assumption) | with_reducible exact gTr (by assumption) (gAq (gBq _)) | with_reducible exact gDr (gAq (gBq _))) (first
  | (go_at_call 29;have hprev:=HG11.out;clear hprev;refine (of_any 11 _ _ _ _).mono ?_;rintro e w12 ⟨rfl,hg⟩;have HU2:=jh (LiesT.oq (t:=11) ⟨by decide,by decide⟩ (RowC.grow (RowC.two (heap_alloc_new w11 _) (HU0.out.same (sAl (gBq _))) (HU1.out.same (sAl (gBq _)))) hg));have HU0:=jh (HU0.out.same (sAl (gTq (gBq _) hg)));have HU1:=jh (HU1.out.same (sAl (gTq (gBq _) hg)));have HG12:Hid (wk.grownBy w12 none):=gTq (gTq HG11.out (gBq _)) hg;have hS:wk.grownBy w12 (some (W.heap.size + 1)):=gAq HG12.out;clear hg)
  | (go_at_call 29;have hprev:=HG10.out;clear hprev;have hx:=HXB.out;clear hx;refine (of_any 11 _ _ _ _).mono ?_;rintro e w11 ⟨rfl,hg⟩;have HU1:=jh (LiesT.oq (t:=11) ⟨by decide,by decide⟩ (RowC.grow (RowC.two HXB.out (HA00.out.same (sAl HG10.out)) (HAnat.out.same (sAl HG10.out))) hg));have HU0:=jh (HU0.out.same (sAl hg));have HG11:Hid (wk.grownBy w11 none):=gTq HG10.out hg;have hS:wk.grownBy w11 (some (W.heap.size + 1)):=gAq HG11.out;clear hg)
  | (go_at_call 29;have hprev:=HG10.out;clear hprev;refine (of_any 11 _ _ _ _).mono ?_;rintro e w11 ⟨rfl,hg⟩;have HU1:=jh (LiesT.oq (t:=11) ⟨by decide,by decide⟩ (RowC.grow (RowC.two (heap_alloc_new w10 _) (HA00.out.same (sAl (gTq HG10.out (gBq _)))) (HAnat.out.same (sAl (gTq HG10.out (gBq _))))) hg));have HU0:=jh (HU0.out.same (sAl (gTq (gBq _) hg)));have HG11:Hid (wk.grownBy w11 none):=gTq (gTq HG10.out (gBq _)) hg;have hS:wk.grownBy w11 (some (W.heap.size + 1)):=gAq HG11.out;clear hg)
  | (go_at_call 29;refine (of_any 7 _ _ _ _).mono ?_;rintro e w10 ⟨rfl,hg⟩;have HU0:=jh (LiesT.oq (t:=7) ⟨by decide,by decide⟩ (RowC.grow (RowC.nil _ none 0) (undrew hg)));have HG10:Hid (wk.grownBy w10 none):=gTq (gRf _ _) (undrew hg);have hS:wk.grownBy w10 (some (W.heap.size + 1)):=gAq HG10.out;clear hg)
  | (go_at_call 29;refine (of_any 7 _ _ _ _).mono ?_;rintro e w10 ⟨rfl,hg⟩;have HU0:=jh (LiesT.oq (t:=7) ⟨by decide,by decide⟩ (RowC.grow (RowC.nil _ none 0) hg));have HXB:=jh ((hg.block _ (by simp) (by simp)).trans (heap_alloc_new wk _));have HG10:Hid (wk.grownBy w10 none):=gTq (gBq _) (undrew hg);have hS:wk.grownBy w10 (some (W.heap.size + 1)):=gAq HG10.out;clear hg)
  | (go_at_call 108;have hprev:=HG12.out;clear hprev;refine (pAq (HD.out.grow (gTq HG12.out (gBq _))) (RowC.one (heap_alloc_new w12 _) (HU2.out.same (sAl (gBq _)))) (by simp;omega)).mono ?_;rintro e w5 hp;obtain ⟨a5,l5,c5,f5,er5,rfl,hS5,q0,q1,q2,HB5,HL5⟩:=lFq hp HG3.out (gTq HG12.out (gBq _)) HR3.out;clear hp))
 all_goals
  go_wp2_with fail
  exact eLq (fun w z0 z1=>by simp [results,Tryz.results90,go_sem,z0,z1]) rfl HB5.out HL5.out
theorem vouches_85n {W:World} {n:Int} {ta ra da:Option Addr} {tl tc rl rc dl dc:Nat} {dk dn dp:Int} {ds:ByteArray} {s types:List Ty} {sv:Value} (hs:RowC W s sv) (hT:RowC W types (.slice ta tl tc)) (hc:sFq s [15] = false) (hgd:s.all gYq = true) (hn:s.length <= 1000) :
 Calls Tryz.prog 90 #[insV 85 n ta tl tc ra rl rc dk dn dp ds da dl dc,sv] W (LPq (.no 5) W):=by
 obtain ⟨sa,sl,sc,e1⟩:=hs.form3
 subst e1
 unfold insV
 obtain ⟨hg3,hI3,hR3⟩:=start2 W (.cells #[.int .i64 85,.int .i64 n,.slice ta tl tc,.slice ra rl rc,.int .i64 dk,.int .i64 dn,.int .i64 dp,.string ds,.slice da dl dc] 115) (.cells #[.slice none 0 0,.bool false] 62)
 have hs3:=hs.grow hg3
 have hT3:=hT.grow hg3
 have hlen:0 <= s.length:=Nat.zero_le _
 obtain ⟨hsl,hsc,_⟩:=hs3.len
 have b1:(sl:Int) <= (sc:Int):=by omega
 have HSL:=jh hsl
 have HG3:=jh hg3
 have HI3:=jh hI3
 have HR3:=jh hR3
 have HS3:=jh hs3
 have HLEN:=jh hlen
 obtain ⟨i0,i1,i2,i3,_⟩:=box9 hI3
 clear hg3 hI3 hR3 hs hs3 hT hT3 hsl hlen hgd
 go_enter Tryz.func90,Tryz.ntmps90
 go_wp2_with fail
 generalize (W.alloc _).alloc _ = W3 at *
 refine (of_any 4 _ _ _ _).mono ?_;rintro e w1 ⟨rfl,hg⟩
 replace i0:=kNq hg i0
 replace i2:=kNq hg i2
 replace HI3:=bCq HI3 hg
 replace HR3:=bCq HR3 hg
 replace HS3:=rCq HS3 hg
 replace HG3:=gCq HG3 hg
 clear hg
 have hg:=gBq (w:=w1) (.cells #[.int .i64 4,.slice none 0 0] 24)
 have hN:=heap_alloc_new w1 (.cells #[.int .i64 4,.slice none 0 0] 24)
 replace i0:=kNq hg i0
 replace i2:=kNq hg i2
 replace HI3:=bCq HI3 hg
 replace HR3:=bCq HR3 hg
 replace HS3:=rCq HS3 hg
 replace HG3:=gCq HG3 hg
 clear hg
 have hszn:(w1.alloc (.cells #[.int .i64 4,.slice none 0 0] 24)).heap.size = w1.heap.size + 1:=by simp
 go_wp2_with fail
 generalize w1.alloc (.cells #[.int .i64 4,.slice none 0 0] 24) = wn at *
 have xna:=c0q hN
 have xnb:=c1q hN
 have HAnat:Hid (LiesT (fun _=>True) wn (.nd 4 []) (tyV 4 none 0 0)):=LiesT.oq ⟨by decide,by decide⟩ (RowC.nil _ none 0)
 clear hN
 have hg:=gBq (w:=wn) (.cells #[.int .i64 15] 3)
 have hK3:=new_at (o:=(.cells #[.int .i64 15] 3)) hszn
 have HST:=jh (sTq (ks:=[15]) (kc:=1) (HS3.out.grow hg) (kinds1 hK3) (by decide))
 rw [hc] at HST
 refine HST.out.mono ?_;rintro e w2 ⟨rfl,rfl⟩
 clear HST hK3
 replace xna:=kNq hg xna
 replace xnb:=kNq hg xnb
 replace i0:=kNq hg i0
 replace i2:=kNq hg i2
 replace HI3:=bCq HI3 hg
 replace HR3:=bCq HR3 hg
 replace HS3:=rCq HS3 hg
 replace HG3:=gCq HG3 hg
 replace HAnat:=tCq HAnat hg
 clear hg
 generalize wn.alloc _ = wk at *
 have yxna:=fun (w':World) (h:wk.grownBy w' (some (W.heap.size + 1)))=>aI (kDq HR3.out h xna xna) (kDq HR3.out h xna xnb)
 have hS3:wk.grownBy wk (some (W.heap.size + 1)):=gRf _ _
 go_wp2_with fail
 refine (rLq 5 (by decide) _).mono ?_
 rintro e w5 hp
 obtain ⟨a5,l5,c5,f5,er5,rfl,hS5,q0,q1,q2,HB5,HL5⟩:=lFq hp HG3.out (gRf _ _) HR3.out
 clear hp
 go_wp2_with fail
 exact eLq (fun w z0 z1=>by simp [results,Tryz.results90,go_sem,z0,z1]) rfl HB5.out HL5.out
theorem vouches_86 {W:World} {n:Int} {ta ra da:Option Addr} {tl tc rl rc dl dc:Nat} {dk dn dp:Int} {ds:ByteArray} {s types:List Ty} {sv:Value} (hs:RowC W s sv) (hT:RowC W types (.slice ta tl tc)) (hc:sFq s [15,11] = true) (ht0:sFq (tAq s 1).args [4,4] = true) (hgd:s.all gYq = true) (hn:s.length <= 1000) :
 Calls Tryz.prog 90 #[insV 86 n ta tl tc ra rl rc dk dn dp ds da dl dc,sv] W (LPq (pFq (s.drop 2) [(.nd 9 [(.nd 11 [(tAq s 0),(tAq s 0)])])]) W):=by
 obtain ⟨sa,sl,sc,e1⟩:=hs.form3
 subst e1
 unfold insV
 obtain ⟨hg3,hI3,hR3⟩:=start2 W (.cells #[.int .i64 86,.int .i64 n,.slice ta tl tc,.slice ra rl rc,.int .i64 dk,.int .i64 dn,.int .i64 dp,.string ds,.slice da dl dc] 115) (.cells #[.slice none 0 0,.bool false] 62)
 have hs3:=hs.grow hg3
 have hT3:=hT.grow hg3
 have hlen:2 <= s.length:=slq hc
 obtain ⟨hsl,hsc,_⟩:=hs3.len
 obtain ⟨b,o,t0,a0,l0,k0,rfl,x0a,x0b,hA0⟩:=hs3.at 0 (by omega)
 have HA0:=jh hA0
 obtain ⟨_,_,t1,a1,l1,k1,eb,x1a,x1b,hA1⟩:=hs3.at 1 (by omega)
 simp only [Option.some.injEq,Addr.mk.injEq,and_true] at eb
 obtain ⟨rfl,rfl⟩:=eb
 have HA1:=jh hA1
 have hq1:(tAq s 1).args.length = 2:=cAq hc hgd 1 11 2 rfl (by decide) (by decide)
 obtain ⟨_,hr1⟩:=hA1.args
 obtain ⟨el1,ec1,_⟩:=hr1.len
 rw [hq1] at el1 ec1
 subst el1
 have HQ1:=jh hr1
 have HQL:=jh hq1
 have bz1:(1:Int) <= (sl:Int):=by omega
 have by0:0 < sl:=by omega
 have bz2:(2:Int) <= (sl:Int):=by omega
 have by1:(1:Int) < (sl:Int):=by omega
 have b1:(sl:Int) <= (sc:Int):=by omega
 have HSL:=jh hsl
 have HG3:=jh hg3
 have HI3:=jh hI3
 have HR3:=jh hR3
 have HS3:=jh hs3
 have HLEN:=jh hlen
 simp only [Nat.reduceMul,Nat.reduceAdd,Nat.add_zero,Nat.mul_zero,Nat.zero_add] at x0a x0b x1a x1b
 obtain ⟨i0,i1,i2,i3,_⟩:=box9 hI3
 clear hg3 hI3 hR3 hs hs3 hT hT3 hsl hlen hgd hA0 hA1 hr1 hq1
 go_enter Tryz.func90,Tryz.ntmps90
 go_wp2_with fail
 generalize (W.alloc _).alloc _ = W3 at *
 refine (of_any 4 _ _ _ _).mono ?_;rintro e w1 ⟨rfl,hg⟩
 replace x0a:=kNq hg x0a
 replace x0b:=kNq hg x0b
 replace x1a:=kNq hg x1a
 replace x1b:=kNq hg x1b
 replace i0:=kNq hg i0
 replace i2:=kNq hg i2
 replace HI3:=bCq HI3 hg
 replace HR3:=bCq HR3 hg
 replace HS3:=rCq HS3 hg
 replace HG3:=gCq HG3 hg
 replace HA0:=tCq HA0 hg
 replace HA1:=tCq HA1 hg
 replace HQ1:=rCq HQ1 hg
 clear hg
 have hg:=gBq (w:=w1) (.cells #[.int .i64 4,.slice none 0 0] 24)
 have hN:=heap_alloc_new w1 (.cells #[.int .i64 4,.slice none 0 0] 24)
 replace x0a:=kNq hg x0a
 replace x0b:=kNq hg x0b
 replace x1a:=kNq hg x1a
 replace x1b:=kNq hg x1b
 replace i0:=kNq hg i0
 replace i2:=kNq hg i2
 replace HI3:=bCq HI3 hg
 replace HR3:=bCq HR3 hg
 replace HS3:=rCq HS3 hg
 replace HG3:=gCq HG3 hg
 replace HA0:=tCq HA0 hg
 replace HA1:=tCq HA1 hg
 replace HQ1:=rCq HQ1 hg
 clear hg
 have hszn:(w1.alloc (.cells #[.int .i64 4,.slice none 0 0] 24)).heap.size = w1.heap.size + 1:=by simp
 go_wp2_with fail
 generalize w1.alloc (.cells #[.int .i64 4,.slice none 0 0] 24) = wn at *
 have xna:=c0q hN
 have xnb:=c1q hN
 have HAnat:Hid (LiesT (fun _=>True) wn (.nd 4 []) (tyV 4 none 0 0)):=LiesT.oq ⟨by decide,by decide⟩ (RowC.nil _ none 0)
 clear hN
 have hg:=gBq (w:=wn) (.cells #[.int .i64 15,.int .i64 11] 3)
 have hK3:=new_at (o:=(.cells #[.int .i64 15,.int .i64 11] 3)) hszn
 have HST:=jh (sTq (ks:=[15,11]) (kc:=2) (HS3.out.grow hg) (kinds2 hK3) (by decide))
 rw [hc] at HST
 refine HST.out.mono ?_;rintro e w2 ⟨rfl,rfl⟩
 clear HST hK3
 replace x0a:=kNq hg x0a
 replace x0b:=kNq hg x0b
 replace x1a:=kNq hg x1a
 replace x1b:=kNq hg x1b
 replace xna:=kNq hg xna
 replace xnb:=kNq hg xnb
 replace i0:=kNq hg i0
 replace i2:=kNq hg i2
 replace HI3:=bCq HI3 hg
 replace HR3:=bCq HR3 hg
 replace HS3:=rCq HS3 hg
 replace HG3:=gCq HG3 hg
 replace HA0:=tCq HA0 hg
 replace HA1:=tCq HA1 hg
 replace HAnat:=tCq HAnat hg
 replace HQ1:=rCq HQ1 hg
 clear hg
 generalize wn.alloc _ = wk at *
 go_wp2_with fail
 have hg:=gBq (w:=wk) (.cells #[.int .i64 4,.int .i64 4] 3)
 have hK3:=heap_alloc_new wk (.cells #[.int .i64 4,.int .i64 4] 3)
 have HST:=jh (sTq (ks:=[4,4]) (kc:=2) (HQ1.out.grow hg) (kinds2 hK3) (by decide))
 rw [ht0] at HST
 refine HST.out.mono ?_;rintro e w1 ⟨rfl,rfl⟩
 clear HST hK3
 replace x0a:=kNq hg x0a
 replace x0b:=kNq hg x0b
 replace x1a:=kNq hg x1a
 replace x1b:=kNq hg x1b
 replace xna:=kNq hg xna
 replace xnb:=kNq hg xnb
 replace i0:=kNq hg i0
 replace i2:=kNq hg i2
 replace HI3:=bCq HI3 hg
 replace HR3:=bCq HR3 hg
 replace HS3:=rCq HS3 hg
 replace HG3:=gCq HG3 hg
 replace HA0:=tCq HA0 hg
 replace HA1:=tCq HA1 hg
 replace HAnat:=tCq HAnat hg
 replace HQ1:=rCq HQ1 hg
 clear hg
 generalize wk.alloc _ = wt0 at *
 have yx0a:=fun (w':World) (h:wt0.grownBy w' (some (W.heap.size + 1)))=>aI (kDq HR3.out h x0a x0a) (aI (kDq HR3.out h x0a x0b) (aI (kDq HR3.out h x1a x1a) (aI (kDq HR3.out h x1a x1b) (aI (kDq HR3.out h xna xna) (kDq HR3.out h xna xnb)))))
 have hS3:wt0.grownBy wt0 (some (W.heap.size + 1)):=gRf _ _
 rcases (show (sc = 2 /\ sl = 2) \/ (¬ sc = 2 /\ ¬ sc - 2 = 0) by omega) with ⟨rfl,rfl⟩ | ⟨hc2,hc3⟩
 have HD:=jh (HS3.out.dropAll 2 (by have:=HSL.out;omega) (some ⟨b,o,none⟩) 0)
 rotate_left
 have HD:=jh (HS3.out.drop 2 (by have:=HLEN.out;omega))
 all_goals
  go_wp2_with fail
  go_region_held3 (fun w'=>wt0.grownBy w' (some (W.heap.size + 1))) (first | with_reducible assumption | with_reducible exact gDr (gRf _ _) | with_reducible exact grow_setR (by assumption) | with_reducible exact gTr (by assumption) (gAq (gBq _)) | with_reducible exact gDr (gAq (gBq _))) (first
   | (go_at_call 29;have hprev:=HG10.out;clear hprev;refine (of_any 9 _ _ _ _).mono ?_;rintro e w11 ⟨rfl,hg⟩;have HU1:=jh (LiesT.oq (t:=9) ⟨by decide,by decide⟩ (RowC.grow (RowC.one (heap_alloc_new w10 _) (HU0.out.same (sAl (gBq _)))) hg));have HU0:=jh (HU0.out.same (sAl (gTq (gBq _) hg)));have HG11:Hid (wt0.grownBy w11 none):=gTq (gTq HG10.out (gBq _)) hg;have hS:wt0.grownBy w11 (some (W.heap.size + 1)):=gAq HG11.out;clear hg)
   | (go_at_call 29;refine (of_any 11 _ _ _ _).mono ?_;rintro e w10 ⟨rfl,hg⟩;have HU0:=jh (LiesT.oq (t:=11) ⟨by decide,by decide⟩ (RowC.grow (RowC.two (heap_alloc_new wt0 _) (HA0.out.same (sAl (gBq _))) (HA0.out.same (sAl (gBq _)))) (undrew hg)));have HG10:Hid (wt0.grownBy w10 none):=gTq (gBq _) (undrew hg);have hS:wt0.grownBy w10 (some (W.heap.size + 1)):=gAq HG10.out;clear hg)
   | (go_at_call 108;have hprev:=HG11.out;clear hprev;refine (pAq (HD.out.grow (gTq HG11.out (gBq _))) (RowC.one (heap_alloc_new w11 _) (HU1.out.same (sAl (gBq _)))) (by simp;omega)).mono ?_;rintro e w5 hp;obtain ⟨a5,l5,c5,f5,er5,rfl,hS5,q0,q1,q2,HB5,HL5⟩:=lFq hp HG3.out (gTq HG11.out (gBq _)) HR3.out;clear hp))
  go_wp2_with fail
  exact eLq (fun w z0 z1=>by simp [results,Tryz.results90,go_sem,z0,z1]) rfl HB5.out HL5.out
theorem vouches_86n {W:World} {n:Int} {ta ra da:Option Addr} {tl tc rl rc dl dc:Nat} {dk dn dp:Int} {ds:ByteArray} {s types:List Ty} {sv:Value} (hs:RowC W s sv) (hT:RowC W types (.slice ta tl tc)) (hc:sFq s [15,11] = false) (hgd:s.all gYq = true) (hn:s.length <= 1000) :
 Calls Tryz.prog 90 #[insV 86 n ta tl tc ra rl rc dk dn dp ds da dl dc,sv] W (LPq (.no 5) W):=by
 obtain ⟨sa,sl,sc,e1⟩:=hs.form3
 subst e1
 unfold insV
 obtain ⟨hg3,hI3,hR3⟩:=start2 W (.cells #[.int .i64 86,.int .i64 n,.slice ta tl tc,.slice ra rl rc,.int .i64 dk,.int .i64 dn,.int .i64 dp,.string ds,.slice da dl dc] 115) (.cells #[.slice none 0 0,.bool false] 62)
 have hs3:=hs.grow hg3
 have hT3:=hT.grow hg3
 have hlen:0 <= s.length:=Nat.zero_le _
 obtain ⟨hsl,hsc,_⟩:=hs3.len
 have b1:(sl:Int) <= (sc:Int):=by omega
 have HSL:=jh hsl
 have HG3:=jh hg3
 have HI3:=jh hI3
 have HR3:=jh hR3
 have HS3:=jh hs3
 have HLEN:=jh hlen
 obtain ⟨i0,i1,i2,i3,_⟩:=box9 hI3
 clear hg3 hI3 hR3 hs hs3 hT hT3 hsl hlen hgd
 go_enter Tryz.func90,Tryz.ntmps90
 go_wp2_with fail
 generalize (W.alloc _).alloc _ = W3 at *
 refine (of_any 4 _ _ _ _).mono ?_;rintro e w1 ⟨rfl,hg⟩
 replace i0:=kNq hg i0
 replace i2:=kNq hg i2
 replace HI3:=bCq HI3 hg
 replace HR3:=bCq HR3 hg
 replace HS3:=rCq HS3 hg
 replace HG3:=gCq HG3 hg
 clear hg
 have hg:=gBq (w:=w1) (.cells #[.int .i64 4,.slice none 0 0] 24)
 have hN:=heap_alloc_new w1 (.cells #[.int .i64 4,.slice none 0 0] 24)
 replace i0:=kNq hg i0
 replace i2:=kNq hg i2
 replace HI3:=bCq HI3 hg
 replace HR3:=bCq HR3 hg
 replace HS3:=rCq HS3 hg
 replace HG3:=gCq HG3 hg
 clear hg
 have hszn:(w1.alloc (.cells #[.int .i64 4,.slice none 0 0] 24)).heap.size = w1.heap.size + 1:=by simp
 go_wp2_with fail
 generalize w1.alloc (.cells #[.int .i64 4,.slice none 0 0] 24) = wn at *
 have xna:=c0q hN
 have xnb:=c1q hN
 have HAnat:Hid (LiesT (fun _=>True) wn (.nd 4 []) (tyV 4 none 0 0)):=LiesT.oq ⟨by decide,by decide⟩ (RowC.nil _ none 0)
 clear hN
 have hg:=gBq (w:=wn) (.cells #[.int .i64 15,.int .i64 11] 3)
 have hK3:=new_at (o:=(.cells #[.int .i64 15,.int .i64 11] 3)) hszn
 have HST:=jh (sTq (ks:=[15,11]) (kc:=2) (HS3.out.grow hg) (kinds2 hK3) (by decide))
 rw [hc] at HST
 refine HST.out.mono ?_;rintro e w2 ⟨rfl,rfl⟩
 clear HST hK3
 replace xna:=kNq hg xna
 replace xnb:=kNq hg xnb
 replace i0:=kNq hg i0
 replace i2:=kNq hg i2
 replace HI3:=bCq HI3 hg
 replace HR3:=bCq HR3 hg
 replace HS3:=rCq HS3 hg
 replace HG3:=gCq HG3 hg
 replace HAnat:=tCq HAnat hg
 clear hg
 generalize wn.alloc _ = wk at *
 have yxna:=fun (w':World) (h:wk.grownBy w' (some (W.heap.size + 1)))=>aI (kDq HR3.out h xna xna) (kDq HR3.out h xna xnb)
 have hS3:wk.grownBy wk (some (W.heap.size + 1)):=gRf _ _
 go_wp2_with fail
 refine (rLq 5 (by decide) _).mono ?_
 rintro e w5 hp
 obtain ⟨a5,l5,c5,f5,er5,rfl,hS5,q0,q1,q2,HB5,HL5⟩:=lFq hp HG3.out (gRf _ _) HR3.out
 clear hp
 go_wp2_with fail
 exact eLq (fun w z0 z1=>by simp [results,Tryz.results90,go_sem,z0,z1]) rfl HB5.out HL5.out
theorem vouches_86n1 {W:World} {n:Int} {ta ra da:Option Addr} {tl tc rl rc dl dc:Nat} {dk dn dp:Int} {ds:ByteArray} {s types:List Ty} {sv:Value} (hs:RowC W s sv) (hT:RowC W types (.slice ta tl tc)) (hc:sFq s [15,11] = true) (ht0:sFq (tAq s 1).args [4,4] = false) (hgd:s.all gYq = true) (hn:s.length <= 1000) :
 Calls Tryz.prog 90 #[insV 86 n ta tl tc ra rl rc dk dn dp ds da dl dc,sv] W (LPq (.no 5) W):=by
 obtain ⟨sa,sl,sc,e1⟩:=hs.form3
 subst e1
 unfold insV
 obtain ⟨hg3,hI3,hR3⟩:=start2 W (.cells #[.int .i64 86,.int .i64 n,.slice ta tl tc,.slice ra rl rc,.int .i64 dk,.int .i64 dn,.int .i64 dp,.string ds,.slice da dl dc] 115) (.cells #[.slice none 0 0,.bool false] 62)
 have hs3:=hs.grow hg3
 have hT3:=hT.grow hg3
 have hlen:2 <= s.length:=slq hc
 obtain ⟨hsl,hsc,_⟩:=hs3.len
 obtain ⟨b,o,t1,a1,l1,k1,rfl,x1a,x1b,hA1⟩:=hs3.at 1 (by omega)
 have HA1:=jh hA1
 have hq1:(tAq s 1).args.length = 2:=cAq hc hgd 1 11 2 rfl (by decide) (by decide)
 obtain ⟨_,hr1⟩:=hA1.args
 obtain ⟨el1,ec1,_⟩:=hr1.len
 rw [hq1] at el1 ec1
 subst el1
 have HQ1:=jh hr1
 have HQL:=jh hq1
 have bz1:(1:Int) <= (sl:Int):=by omega
 have by0:0 < sl:=by omega
 have bz2:(2:Int) <= (sl:Int):=by omega
 have by1:(1:Int) < (sl:Int):=by omega
 have b1:(sl:Int) <= (sc:Int):=by omega
 have HSL:=jh hsl
 have HG3:=jh hg3
 have HI3:=jh hI3
 have HR3:=jh hR3
 have HS3:=jh hs3
 have HLEN:=jh hlen
 simp only [Nat.reduceMul,Nat.reduceAdd,Nat.add_zero,Nat.mul_zero,Nat.zero_add] at x1a x1b
 obtain ⟨i0,i1,i2,i3,_⟩:=box9 hI3
 clear hg3 hI3 hR3 hs hs3 hT hT3 hsl hlen hgd hA1 hr1 hq1
 go_enter Tryz.func90,Tryz.ntmps90
 go_wp2_with fail
 generalize (W.alloc _).alloc _ = W3 at *
 refine (of_any 4 _ _ _ _).mono ?_;rintro e w1 ⟨rfl,hg⟩
 replace x1a:=kNq hg x1a
 replace x1b:=kNq hg x1b
 replace i0:=kNq hg i0
 replace i2:=kNq hg i2
 replace HI3:=bCq HI3 hg
 replace HR3:=bCq HR3 hg
 replace HS3:=rCq HS3 hg
 replace HG3:=gCq HG3 hg
 replace HA1:=tCq HA1 hg
 replace HQ1:=rCq HQ1 hg
 clear hg
 have hg:=gBq (w:=w1) (.cells #[.int .i64 4,.slice none 0 0] 24)
 have hN:=heap_alloc_new w1 (.cells #[.int .i64 4,.slice none 0 0] 24)
 replace x1a:=kNq hg x1a
 replace x1b:=kNq hg x1b
 replace i0:=kNq hg i0
 replace i2:=kNq hg i2
 replace HI3:=bCq HI3 hg
 replace HR3:=bCq HR3 hg
 replace HS3:=rCq HS3 hg
 replace HG3:=gCq HG3 hg
 replace HA1:=tCq HA1 hg
 replace HQ1:=rCq HQ1 hg
 clear hg
 have hszn:(w1.alloc (.cells #[.int .i64 4,.slice none 0 0] 24)).heap.size = w1.heap.size + 1:=by simp
 go_wp2_with fail
 generalize w1.alloc (.cells #[.int .i64 4,.slice none 0 0] 24) = wn at *
 have xna:=c0q hN
 have xnb:=c1q hN
 have HAnat:Hid (LiesT (fun _=>True) wn (.nd 4 []) (tyV 4 none 0 0)):=LiesT.oq ⟨by decide,by decide⟩ (RowC.nil _ none 0)
 clear hN
 have hg:=gBq (w:=wn) (.cells #[.int .i64 15,.int .i64 11] 3)
 have hK3:=new_at (o:=(.cells #[.int .i64 15,.int .i64 11] 3)) hszn
 have HST:=jh (sTq (ks:=[15,11]) (kc:=2) (HS3.out.grow hg) (kinds2 hK3) (by decide))
 rw [hc] at HST
 refine HST.out.mono ?_;rintro e w2 ⟨rfl,rfl⟩
 clear HST hK3
 replace x1a:=kNq hg x1a
 replace x1b:=kNq hg x1b
 replace xna:=kNq hg xna
 replace xnb:=kNq hg xnb
 replace i0:=kNq hg i0
 replace i2:=kNq hg i2
 replace HI3:=bCq HI3 hg
 replace HR3:=bCq HR3 hg
 replace HS3:=rCq HS3 hg
 replace HG3:=gCq HG3 hg
 replace HA1:=tCq HA1 hg
 replace HAnat:=tCq HAnat hg
 replace HQ1:=rCq HQ1 hg
 clear hg
 generalize wn.alloc _ = wk at *
 go_wp2_with fail
 have hg:=gBq (w:=wk) (.cells #[.int .i64 4,.int .i64 4] 3)
 have hK3:=heap_alloc_new wk (.cells #[.int .i64 4,.int .i64 4] 3)
 have HST:=jh (sTq (ks:=[4,4]) (kc:=2) (HQ1.out.grow hg) (kinds2 hK3) (by decide))
 rw [ht0] at HST
 refine HST.out.mono ?_;rintro e w1 ⟨rfl,rfl⟩
 clear HST hK3
 replace x1a:=kNq hg x1a
 replace x1b:=kNq hg x1b
 replace xna:=kNq hg xna
 replace xnb:=kNq hg xnb
 replace i0:=kNq hg i0
 replace i2:=kNq hg i2
 replace HI3:=bCq HI3 hg
 replace HR3:=bCq HR3 hg
 replace HS3:=rCq HS3 hg
 replace HG3:=gCq HG3 hg
 replace HA1:=tCq HA1 hg
 replace HAnat:=tCq HAnat hg
 replace HQ1:=rCq HQ1 hg
 clear hg
 generalize wk.alloc _ = wt0 at *
 have yx1a:=fun (w':World) (h:wt0.grownBy w' (some (W.heap.size + 1)))=>aI (kDq HR3.out h x1a x1a) (aI (kDq HR3.out h x1a x1b) (aI (kDq HR3.out h xna xna) (kDq HR3.out h xna xnb)))
 have hS3:wt0.grownBy wt0 (some (W.heap.size + 1)):=gRf _ _
 go_wp2_with fail
 refine (rLq 5 (by decide) _).mono ?_
 rintro e w5 hp
 obtain ⟨a5,l5,c5,f5,er5,rfl,hS5,q0,q1,q2,HB5,HL5⟩:=lFq hp HG3.out (gRf _ _) HR3.out
 clear hp
 go_wp2_with fail
 exact eLq (fun w z0 z1=>by simp [results,Tryz.results90,go_sem,z0,z1]) rfl HB5.out HL5.out
theorem vouches_87 {W:World} {n:Int} {ta ra da:Option Addr} {tl tc rl rc dl dc:Nat} {dk dn dp:Int} {ds:ByteArray} {s types:List Ty} {sv:Value} (hs:RowC W s sv) (hT:RowC W types (.slice ta tl tc)) (hc:sFq s [11] = true) (ht0:sFq (tAq s 0).args [15,15] = true) (ht1:sameT (tAq (tAq s 0).args 0) (tAq (tAq s 0).args 1) = true) (hz1:(tAq (tAq s 0).args 0).size <= 50000000) (hgd:s.all gYq = true) (hn:s.length <= 1000) :
 Calls Tryz.prog 90 #[insV 87 n ta tl tc ra rl rc dk dn dp ds da dl dc,sv] W (LPq (pFq (s.drop 1) [(.nd 9 [(tAq (tAq s 0).args 0)])]) W):=by
 obtain ⟨sa,sl,sc,e1⟩:=hs.form3
 subst e1
 unfold insV
 obtain ⟨hg3,hI3,hR3⟩:=start2 W (.cells #[.int .i64 87,.int .i64 n,.slice ta tl tc,.slice ra rl rc,.int .i64 dk,.int .i64 dn,.int .i64 dp,.string ds,.slice da dl dc] 115) (.cells #[.slice none 0 0,.bool false] 62)
 have hs3:=hs.grow hg3
 have hT3:=hT.grow hg3
 have hlen:1 <= s.length:=slq hc
 obtain ⟨hsl,hsc,_⟩:=hs3.len
 obtain ⟨b,o,t0,a0,l0,k0,rfl,x0a,x0b,hA0⟩:=hs3.at 0 (by omega)
 have HA0:=jh hA0
 have hq0:(tAq s 0).args.length = 2:=cAq hc hgd 0 11 2 rfl (by decide) (by decide)
 obtain ⟨_,hr0⟩:=hA0.args
 obtain ⟨el0,ec0,_⟩:=hr0.len
 rw [hq0] at el0 ec0
 subst el0
 have HQ0:=jh hr0
 have HQL:=jh hq0
 obtain ⟨nb0,no0,t00,a00,l00,k00,rfl,x00a,x00b,hA00⟩:=hr0.at 0 (by omega)
 have HA00:=jh hA00
 obtain ⟨_,_,t01,a01,l01,k01,eb,x01a,x01b,hA01⟩:=hr0.at 1 (by omega)
 simp only [Option.some.injEq,Addr.mk.injEq,and_true] at eb
 obtain ⟨rfl,rfl⟩:=eb
 have HA01:=jh hA01
 have bz1:(1:Int) <= (sl:Int):=by omega
 have by0:0 < sl:=by omega
 have b1:(sl:Int) <= (sc:Int):=by omega
 have HSL:=jh hsl
 have HG3:=jh hg3
 have HI3:=jh hI3
 have HR3:=jh hR3
 have HS3:=jh hs3
 have HLEN:=jh hlen
 simp only [Nat.reduceMul,Nat.reduceAdd,Nat.add_zero,Nat.mul_zero,Nat.zero_add] at x0a x0b x00a x00b x01a x01b
 obtain ⟨i0,i1,i2,i3,_⟩:=box9 hI3
 clear hg3 hI3 hR3 hs hs3 hT hT3 hsl hlen hgd hA0 hr0 hq0 hA00 hA01
 go_enter Tryz.func90,Tryz.ntmps90
 go_wp2_with fail
 generalize (W.alloc _).alloc _ = W3 at *
 refine (of_any 4 _ _ _ _).mono ?_;rintro e w1 ⟨rfl,hg⟩
 replace x0a:=kNq hg x0a
 replace x0b:=kNq hg x0b
 replace x00a:=kNq hg x00a
 replace x00b:=kNq hg x00b
 replace x01a:=kNq hg x01a
 replace x01b:=kNq hg x01b
 replace i0:=kNq hg i0
 replace i2:=kNq hg i2
 replace HI3:=bCq HI3 hg
 replace HR3:=bCq HR3 hg
 replace HS3:=rCq HS3 hg
 replace HG3:=gCq HG3 hg
 replace HA0:=tCq HA0 hg
 replace HA00:=tCq HA00 hg
 replace HA01:=tCq HA01 hg
 replace HQ0:=rCq HQ0 hg
 clear hg
 have hg:=gBq (w:=w1) (.cells #[.int .i64 4,.slice none 0 0] 24)
 have hN:=heap_alloc_new w1 (.cells #[.int .i64 4,.slice none 0 0] 24)
 replace x0a:=kNq hg x0a
 replace x0b:=kNq hg x0b
 replace x00a:=kNq hg x00a
 replace x00b:=kNq hg x00b
 replace x01a:=kNq hg x01a
 replace x01b:=kNq hg x01b
 replace i0:=kNq hg i0
 replace i2:=kNq hg i2
 replace HI3:=bCq HI3 hg
 replace HR3:=bCq HR3 hg
 replace HS3:=rCq HS3 hg
 replace HG3:=gCq HG3 hg
 replace HA0:=tCq HA0 hg
 replace HA00:=tCq HA00 hg
 replace HA01:=tCq HA01 hg
 replace HQ0:=rCq HQ0 hg
 clear hg
 have hszn:(w1.alloc (.cells #[.int .i64 4,.slice none 0 0] 24)).heap.size = w1.heap.size + 1:=by simp
 go_wp2_with fail
 generalize w1.alloc (.cells #[.int .i64 4,.slice none 0 0] 24) = wn at *
 have xna:=c0q hN
 have xnb:=c1q hN
 have HAnat:Hid (LiesT (fun _=>True) wn (.nd 4 []) (tyV 4 none 0 0)):=LiesT.oq ⟨by decide,by decide⟩ (RowC.nil _ none 0)
 clear hN
 have hg:=gBq (w:=wn) (.cells #[.int .i64 11] 3)
 have hK3:=new_at (o:=(.cells #[.int .i64 11] 3)) hszn
 have HST:=jh (sTq (ks:=[11]) (kc:=1) (HS3.out.grow hg) (kinds1 hK3) (by decide))
 rw [hc] at HST
 refine HST.out.mono ?_;rintro e w2 ⟨rfl,rfl⟩
 clear HST hK3
 replace x0a:=kNq hg x0a
 replace x0b:=kNq hg x0b
 replace x00a:=kNq hg x00a
 replace x00b:=kNq hg x00b
 replace x01a:=kNq hg x01a
 replace x01b:=kNq hg x01b
 replace xna:=kNq hg xna
 replace xnb:=kNq hg xnb
 replace i0:=kNq hg i0
 replace i2:=kNq hg i2
 replace HI3:=bCq HI3 hg
 replace HR3:=bCq HR3 hg
 replace HS3:=rCq HS3 hg
 replace HG3:=gCq HG3 hg
 replace HA0:=tCq HA0 hg
 replace HA00:=tCq HA00 hg
 replace HA01:=tCq HA01 hg
 replace HAnat:=tCq HAnat hg
 replace HQ0:=rCq HQ0 hg
 clear hg
 generalize wn.alloc _ = wk at *
 go_wp2_with fail
 have hg:=gBq (w:=wk) (.cells #[.int .i64 15,.int .i64 15] 3)
 have hK3:=heap_alloc_new wk (.cells #[.int .i64 15,.int .i64 15] 3)
 have HST:=jh (sTq (ks:=[15,15]) (kc:=2) (HQ0.out.grow hg) (kinds2 hK3) (by decide))
 rw [ht0] at HST
 refine HST.out.mono ?_;rintro e w1 ⟨rfl,rfl⟩
 clear HST hK3
 replace x0a:=kNq hg x0a
 replace x0b:=kNq hg x0b
 replace x00a:=kNq hg x00a
 replace x00b:=kNq hg x00b
 replace x01a:=kNq hg x01a
 replace x01b:=kNq hg x01b
 replace xna:=kNq hg xna
 replace xnb:=kNq hg xnb
 replace i0:=kNq hg i0
 replace i2:=kNq hg i2
 replace HI3:=bCq HI3 hg
 replace HR3:=bCq HR3 hg
 replace HS3:=rCq HS3 hg
 replace HG3:=gCq HG3 hg
 replace HA0:=tCq HA0 hg
 replace HA00:=tCq HA00 hg
 replace HA01:=tCq HA01 hg
 replace HAnat:=tCq HAnat hg
 replace HQ0:=rCq HQ0 hg
 clear hg
 generalize wk.alloc _ = wt0 at *
 go_wp2_with fail
 have yx0a:=fun (w':World) (h:wt0.grownBy w' none)=>aI (kNq h x0a) (aI (kNq h x0b) (aI (kNq h x00a) (aI (kNq h x00b) (aI (kNq h x01a) (aI (kNq h x01b) (aI (kNq h xna) (aI (kNq h xnb) (aI (kNq h i0) (kNq h i2)))))))))
 have hS0:wt0.grownBy wt0 none:=gRf _ _
 first
  | (go_region_held3 (fun w'=>wt0.grownBy w' none) (first | with_reducible assumption | with_reducible exact gDr (gRf _ _) | with_reducible exact gTq (by assumption) (gBq _) | with_reducible exact gDr (gBq _)) (first
   | (go_at_call 16;refine (same_any (HA00.out.same (sAl (gDr (gRf _ _)))).low (HA01.out.same (sAl (gDr (gRf _ _)))).low hz1).mono ?_;rintro e wt1 ⟨rfl,hg⟩;rw [ht1];have HGT1:Hid (wt0.grownBy wt1 none):=gTq (gDr (gRf _ _)) hg;have hST1:=HGT1.out;clear hg)))
  | fail
 clear yx0a hS0
 have hg:=HGT1.out
 replace x0a:=kNq hg x0a
 replace x0b:=kNq hg x0b
 replace x00a:=kNq hg x00a
 replace x00b:=kNq hg x00b
 replace x01a:=kNq hg x01a
 replace x01b:=kNq hg x01b
 replace xna:=kNq hg xna
 replace xnb:=kNq hg xnb
 replace i0:=kNq hg i0
 replace i2:=kNq hg i2
 replace HI3:=bCq HI3 hg
 replace HR3:=bCq HR3 hg
 replace HS3:=rCq HS3 hg
 replace HG3:=gCq HG3 hg
 replace HA0:=tCq HA0 hg
 replace HA00:=tCq HA00 hg
 replace HA01:=tCq HA01 hg
 replace HAnat:=tCq HAnat hg
 replace HQ0:=rCq HQ0 hg
 clear hg
 clear hST1
 have yx0a:=fun (w':World) (h:wt1.grownBy w' (some (W.heap.size + 1)))=>aI (kDq HR3.out h x0a x0a) (aI (kDq HR3.out h x0a x0b) (aI (kDq HR3.out h x00a x00a) (aI (kDq HR3.out h x00a x00b) (aI (kDq HR3.out h x01a x01a) (aI (kDq HR3.out h x01a x01b) (aI (kDq HR3.out h xna xna) (kDq HR3.out h xna xnb)))))))
 have hS3:wt1.grownBy wt1 (some (W.heap.size + 1)):=gRf _ _
 rcases (show (sc = 1 /\ sl = 1) \/ (¬ sc = 1 /\ ¬ sc - 1 = 0) by omega) with ⟨rfl,rfl⟩ | ⟨hc2,hc3⟩
 have HD:=jh (HS3.out.dropAll 1 (by have:=HSL.out;omega) (some ⟨b,o,none⟩) 0)
 rotate_left
 have HD:=jh (HS3.out.drop 1 (by have:=HLEN.out;omega))
 all_goals
  go_wp2_with fail
  go_region_held3 (fun w'=>wt1.grownBy w' (some (W.heap.size + 1))) (first | with_reducible assumption | with_reducible exact gDr (gRf _ _) | with_reducible exact grow_setR (by assumption) | with_reducible exact gTr (by assumption) (gAq (gBq _)) | with_reducible exact gDr (gAq (gBq _))) (first
   | (go_at_call 29;refine (of_any 9 _ _ _ _).mono ?_;rintro e w10 ⟨rfl,hg⟩;have HU0:=jh (LiesT.oq (t:=9) ⟨by decide,by decide⟩ (RowC.grow (RowC.one (heap_alloc_new wt1 _) (HA00.out.same (sAl (gBq _)))) (undrew hg)));have HG10:Hid (wt1.grownBy w10 none):=gTq (gBq _) (undrew hg);have hS:wt1.grownBy w10 (some (W.heap.size + 1)):=gAq HG10.out;clear hg)
   | (go_at_call 108;have hprev:=HG10.out;clear hprev;refine (pAq (HD.out.grow (gTq HG10.out (gBq _))) (RowC.one (heap_alloc_new w10 _) (HU0.out.same (sAl (gBq _)))) (by simp;omega)).mono ?_;rintro e w5 hp;obtain ⟨a5,l5,c5,f5,er5,rfl,hS5,q0,q1,q2,HB5,HL5⟩:=lFq hp HG3.out (gTq HG10.out (gBq _)) HR3.out;clear hp))
  go_wp2_with fail
  exact eLq (fun w z0 z1=>by simp [results,Tryz.results90,go_sem,z0,z1]) rfl HB5.out HL5.out
theorem vouches_87n {W:World} {n:Int} {ta ra da:Option Addr} {tl tc rl rc dl dc:Nat} {dk dn dp:Int} {ds:ByteArray} {s types:List Ty} {sv:Value} (hs:RowC W s sv) (hT:RowC W types (.slice ta tl tc)) (hc:sFq s [11] = false) (hgd:s.all gYq = true) (hn:s.length <= 1000) :
 Calls Tryz.prog 90 #[insV 87 n ta tl tc ra rl rc dk dn dp ds da dl dc,sv] W (LPq (.no 5) W):=by
 obtain ⟨sa,sl,sc,e1⟩:=hs.form3
 subst e1
 unfold insV
 obtain ⟨hg3,hI3,hR3⟩:=start2 W (.cells #[.int .i64 87,.int .i64 n,.slice ta tl tc,.slice ra rl rc,.int .i64 dk,.int .i64 dn,.int .i64 dp,.string ds,.slice da dl dc] 115) (.cells #[.slice none 0 0,.bool false] 62)
 have hs3:=hs.grow hg3
 have hT3:=hT.grow hg3
 have hlen:0 <= s.length:=Nat.zero_le _
 obtain ⟨hsl,hsc,_⟩:=hs3.len
 have b1:(sl:Int) <= (sc:Int):=by omega
 have HSL:=jh hsl
 have HG3:=jh hg3
 have HI3:=jh hI3
 have HR3:=jh hR3
 have HS3:=jh hs3
 have HLEN:=jh hlen
 obtain ⟨i0,i1,i2,i3,_⟩:=box9 hI3
 clear hg3 hI3 hR3 hs hs3 hT hT3 hsl hlen hgd
 go_enter Tryz.func90,Tryz.ntmps90
 go_wp2_with fail
 generalize (W.alloc _).alloc _ = W3 at *
 refine (of_any 4 _ _ _ _).mono ?_;rintro e w1 ⟨rfl,hg⟩
 replace i0:=kNq hg i0
 replace i2:=kNq hg i2
 replace HI3:=bCq HI3 hg
 replace HR3:=bCq HR3 hg
 replace HS3:=rCq HS3 hg
 replace HG3:=gCq HG3 hg
 clear hg
 have hg:=gBq (w:=w1) (.cells #[.int .i64 4,.slice none 0 0] 24)
 have hN:=heap_alloc_new w1 (.cells #[.int .i64 4,.slice none 0 0] 24)
 replace i0:=kNq hg i0
 replace i2:=kNq hg i2
 replace HI3:=bCq HI3 hg
 replace HR3:=bCq HR3 hg
 replace HS3:=rCq HS3 hg
 replace HG3:=gCq HG3 hg
 clear hg
 have hszn:(w1.alloc (.cells #[.int .i64 4,.slice none 0 0] 24)).heap.size = w1.heap.size + 1:=by simp
 go_wp2_with fail
 generalize w1.alloc (.cells #[.int .i64 4,.slice none 0 0] 24) = wn at *
 have xna:=c0q hN
 have xnb:=c1q hN
 have HAnat:Hid (LiesT (fun _=>True) wn (.nd 4 []) (tyV 4 none 0 0)):=LiesT.oq ⟨by decide,by decide⟩ (RowC.nil _ none 0)
 clear hN
 have hg:=gBq (w:=wn) (.cells #[.int .i64 11] 3)
 have hK3:=new_at (o:=(.cells #[.int .i64 11] 3)) hszn
 have HST:=jh (sTq (ks:=[11]) (kc:=1) (HS3.out.grow hg) (kinds1 hK3) (by decide))
 rw [hc] at HST
 refine HST.out.mono ?_;rintro e w2 ⟨rfl,rfl⟩
 clear HST hK3
 replace xna:=kNq hg xna
 replace xnb:=kNq hg xnb
 replace i0:=kNq hg i0
 replace i2:=kNq hg i2
 replace HI3:=bCq HI3 hg
 replace HR3:=bCq HR3 hg
 replace HS3:=rCq HS3 hg
 replace HG3:=gCq HG3 hg
 replace HAnat:=tCq HAnat hg
 clear hg
 generalize wn.alloc _ = wk at *
 have yxna:=fun (w':World) (h:wk.grownBy w' (some (W.heap.size + 1)))=>aI (kDq HR3.out h xna xna) (kDq HR3.out h xna xnb)
 have hS3:wk.grownBy wk (some (W.heap.size + 1)):=gRf _ _
 go_wp2_with fail
 refine (rLq 5 (by decide) _).mono ?_
 rintro e w5 hp
 obtain ⟨a5,l5,c5,f5,er5,rfl,hS5,q0,q1,q2,HB5,HL5⟩:=lFq hp HG3.out (gRf _ _) HR3.out
 clear hp
 go_wp2_with fail
 exact eLq (fun w z0 z1=>by simp [results,Tryz.results90,go_sem,z0,z1]) rfl HB5.out HL5.out
theorem vouches_87n1 {W:World} {n:Int} {ta ra da:Option Addr} {tl tc rl rc dl dc:Nat} {dk dn dp:Int} {ds:ByteArray} {s types:List Ty} {sv:Value} (hs:RowC W s sv) (hT:RowC W types (.slice ta tl tc)) (hc:sFq s [11] = true) (ht0:sFq (tAq s 0).args [15,15] = false) (hgd:s.all gYq = true) (hn:s.length <= 1000) :
 Calls Tryz.prog 90 #[insV 87 n ta tl tc ra rl rc dk dn dp ds da dl dc,sv] W (LPq (.no 5) W):=by
 obtain ⟨sa,sl,sc,e1⟩:=hs.form3
 subst e1
 unfold insV
 obtain ⟨hg3,hI3,hR3⟩:=start2 W (.cells #[.int .i64 87,.int .i64 n,.slice ta tl tc,.slice ra rl rc,.int .i64 dk,.int .i64 dn,.int .i64 dp,.string ds,.slice da dl dc] 115) (.cells #[.slice none 0 0,.bool false] 62)
 have hs3:=hs.grow hg3
 have hT3:=hT.grow hg3
 have hlen:1 <= s.length:=slq hc
 obtain ⟨hsl,hsc,_⟩:=hs3.len
 obtain ⟨b,o,t0,a0,l0,k0,rfl,x0a,x0b,hA0⟩:=hs3.at 0 (by omega)
 have HA0:=jh hA0
 have hq0:(tAq s 0).args.length = 2:=cAq hc hgd 0 11 2 rfl (by decide) (by decide)
 obtain ⟨_,hr0⟩:=hA0.args
 obtain ⟨el0,ec0,_⟩:=hr0.len
 rw [hq0] at el0 ec0
 subst el0
 have HQ0:=jh hr0
 have HQL:=jh hq0
 have bz1:(1:Int) <= (sl:Int):=by omega
 have by0:0 < sl:=by omega
 have b1:(sl:Int) <= (sc:Int):=by omega
 have HSL:=jh hsl
 have HG3:=jh hg3
 have HI3:=jh hI3
 have HR3:=jh hR3
 have HS3:=jh hs3
 have HLEN:=jh hlen
 simp only [Nat.reduceMul,Nat.reduceAdd,Nat.add_zero,Nat.mul_zero,Nat.zero_add] at x0a x0b
 obtain ⟨i0,i1,i2,i3,_⟩:=box9 hI3
 clear hg3 hI3 hR3 hs hs3 hT hT3 hsl hlen hgd hA0 hr0 hq0
 go_enter Tryz.func90,Tryz.ntmps90
 go_wp2_with fail
 generalize (W.alloc _).alloc _ = W3 at *
 refine (of_any 4 _ _ _ _).mono ?_;rintro e w1 ⟨rfl,hg⟩
 replace x0a:=kNq hg x0a
 replace x0b:=kNq hg x0b
 replace i0:=kNq hg i0
 replace i2:=kNq hg i2
 replace HI3:=bCq HI3 hg
 replace HR3:=bCq HR3 hg
 replace HS3:=rCq HS3 hg
 replace HG3:=gCq HG3 hg
 replace HA0:=tCq HA0 hg
 replace HQ0:=rCq HQ0 hg
 clear hg
 have hg:=gBq (w:=w1) (.cells #[.int .i64 4,.slice none 0 0] 24)
 have hN:=heap_alloc_new w1 (.cells #[.int .i64 4,.slice none 0 0] 24)
 replace x0a:=kNq hg x0a
 replace x0b:=kNq hg x0b
 replace i0:=kNq hg i0
 replace i2:=kNq hg i2
 replace HI3:=bCq HI3 hg
 replace HR3:=bCq HR3 hg
 replace HS3:=rCq HS3 hg
 replace HG3:=gCq HG3 hg
 replace HA0:=tCq HA0 hg
 replace HQ0:=rCq HQ0 hg
 clear hg
 have hszn:(w1.alloc (.cells #[.int .i64 4,.slice none 0 0] 24)).heap.size = w1.heap.size + 1:=by simp
 go_wp2_with fail
 generalize w1.alloc (.cells #[.int .i64 4,.slice none 0 0] 24) = wn at *
 have xna:=c0q hN
 have xnb:=c1q hN
 have HAnat:Hid (LiesT (fun _=>True) wn (.nd 4 []) (tyV 4 none 0 0)):=LiesT.oq ⟨by decide,by decide⟩ (RowC.nil _ none 0)
 clear hN
 have hg:=gBq (w:=wn) (.cells #[.int .i64 11] 3)
 have hK3:=new_at (o:=(.cells #[.int .i64 11] 3)) hszn
 have HST:=jh (sTq (ks:=[11]) (kc:=1) (HS3.out.grow hg) (kinds1 hK3) (by decide))
 rw [hc] at HST
 refine HST.out.mono ?_;rintro e w2 ⟨rfl,rfl⟩
 clear HST hK3
 replace x0a:=kNq hg x0a
 replace x0b:=kNq hg x0b
 replace xna:=kNq hg xna
 replace xnb:=kNq hg xnb
 replace i0:=kNq hg i0
 replace i2:=kNq hg i2
 replace HI3:=bCq HI3 hg
 replace HR3:=bCq HR3 hg
 replace HS3:=rCq HS3 hg
 replace HG3:=gCq HG3 hg
 replace HA0:=tCq HA0 hg
 replace HAnat:=tCq HAnat hg
 replace HQ0:=rCq HQ0 hg
 clear hg
 generalize wn.alloc _ = wk at *
 go_wp2_with fail
 have hg:=gBq (w:=wk) (.cells #[.int .i64 15,.int .i64 15] 3)
 have hK3:=heap_alloc_new wk (.cells #[.int .i64 15,.int .i64 15] 3)
 have HST:=jh (sTq (ks:=[15,15]) (kc:=2) (HQ0.out.grow hg) (kinds2 hK3) (by decide))
 rw [ht0] at HST
 refine HST.out.mono ?_;rintro e w1 ⟨rfl,rfl⟩
 clear HST hK3
 replace x0a:=kNq hg x0a
 replace x0b:=kNq hg x0b
 replace xna:=kNq hg xna
 replace xnb:=kNq hg xnb
 replace i0:=kNq hg i0
 replace i2:=kNq hg i2
 replace HI3:=bCq HI3 hg
 replace HR3:=bCq HR3 hg
 replace HS3:=rCq HS3 hg
 replace HG3:=gCq HG3 hg
 replace HA0:=tCq HA0 hg
 replace HAnat:=tCq HAnat hg
 replace HQ0:=rCq HQ0 hg
 clear hg
 generalize wk.alloc _ = wt0 at *
 have yx0a:=fun (w':World) (h:wt0.grownBy w' (some (W.heap.size + 1)))=>aI (kDq HR3.out h x0a x0a) (aI (kDq HR3.out h x0a x0b) (aI (kDq HR3.out h xna xna) (kDq HR3.out h xna xnb)))
 have hS3:wt0.grownBy wt0 (some (W.heap.size + 1)):=gRf _ _
 go_wp2_with fail
 refine (rLq 5 (by decide) _).mono ?_
 rintro e w5 hp
 obtain ⟨a5,l5,c5,f5,er5,rfl,hS5,q0,q1,q2,HB5,HL5⟩:=lFq hp HG3.out (gRf _ _) HR3.out
 clear hp
 go_wp2_with fail
 exact eLq (fun w z0 z1=>by simp [results,Tryz.results90,go_sem,z0,z1]) rfl HB5.out HL5.out
theorem vouches_87n2 {W:World} {n:Int} {ta ra da:Option Addr} {tl tc rl rc dl dc:Nat} {dk dn dp:Int} {ds:ByteArray} {s types:List Ty} {sv:Value} (hs:RowC W s sv) (hT:RowC W types (.slice ta tl tc)) (hc:sFq s [11] = true) (ht0:sFq (tAq s 0).args [15,15] = true) (ht1:sameT (tAq (tAq s 0).args 0) (tAq (tAq s 0).args 1) = false) (hz1:(tAq (tAq s 0).args 0).size <= 50000000) (hgd:s.all gYq = true) (hn:s.length <= 1000) :
 Calls Tryz.prog 90 #[insV 87 n ta tl tc ra rl rc dk dn dp ds da dl dc,sv] W (LPq (.no 5) W):=by
 obtain ⟨sa,sl,sc,e1⟩:=hs.form3
 subst e1
 unfold insV
 obtain ⟨hg3,hI3,hR3⟩:=start2 W (.cells #[.int .i64 87,.int .i64 n,.slice ta tl tc,.slice ra rl rc,.int .i64 dk,.int .i64 dn,.int .i64 dp,.string ds,.slice da dl dc] 115) (.cells #[.slice none 0 0,.bool false] 62)
 have hs3:=hs.grow hg3
 have hT3:=hT.grow hg3
 have hlen:1 <= s.length:=slq hc
 obtain ⟨hsl,hsc,_⟩:=hs3.len
 obtain ⟨b,o,t0,a0,l0,k0,rfl,x0a,x0b,hA0⟩:=hs3.at 0 (by omega)
 have HA0:=jh hA0
 have hq0:(tAq s 0).args.length = 2:=cAq hc hgd 0 11 2 rfl (by decide) (by decide)
 obtain ⟨_,hr0⟩:=hA0.args
 obtain ⟨el0,ec0,_⟩:=hr0.len
 rw [hq0] at el0 ec0
 subst el0
 have HQ0:=jh hr0
 have HQL:=jh hq0
 obtain ⟨nb0,no0,t00,a00,l00,k00,rfl,x00a,x00b,hA00⟩:=hr0.at 0 (by omega)
 have HA00:=jh hA00
 obtain ⟨_,_,t01,a01,l01,k01,eb,x01a,x01b,hA01⟩:=hr0.at 1 (by omega)
 simp only [Option.some.injEq,Addr.mk.injEq,and_true] at eb
 obtain ⟨rfl,rfl⟩:=eb
 have HA01:=jh hA01
 have bz1:(1:Int) <= (sl:Int):=by omega
 have by0:0 < sl:=by omega
 have b1:(sl:Int) <= (sc:Int):=by omega
 have HSL:=jh hsl
 have HG3:=jh hg3
 have HI3:=jh hI3
 have HR3:=jh hR3
 have HS3:=jh hs3
 have HLEN:=jh hlen
 simp only [Nat.reduceMul,Nat.reduceAdd,Nat.add_zero,Nat.mul_zero,Nat.zero_add] at x0a x0b x00a x00b x01a x01b
 obtain ⟨i0,i1,i2,i3,_⟩:=box9 hI3
 clear hg3 hI3 hR3 hs hs3 hT hT3 hsl hlen hgd hA0 hr0 hq0 hA00 hA01
 go_enter Tryz.func90,Tryz.ntmps90
 go_wp2_with fail
 generalize (W.alloc _).alloc _ = W3 at *
 refine (of_any 4 _ _ _ _).mono ?_;rintro e w1 ⟨rfl,hg⟩
 replace x0a:=kNq hg x0a
 replace x0b:=kNq hg x0b
 replace x00a:=kNq hg x00a
 replace x00b:=kNq hg x00b
 replace x01a:=kNq hg x01a
 replace x01b:=kNq hg x01b
 replace i0:=kNq hg i0
 replace i2:=kNq hg i2
 replace HI3:=bCq HI3 hg
 replace HR3:=bCq HR3 hg
 replace HS3:=rCq HS3 hg
 replace HG3:=gCq HG3 hg
 replace HA0:=tCq HA0 hg
 replace HA00:=tCq HA00 hg
 replace HA01:=tCq HA01 hg
 replace HQ0:=rCq HQ0 hg
 clear hg
 have hg:=gBq (w:=w1) (.cells #[.int .i64 4,.slice none 0 0] 24)
 have hN:=heap_alloc_new w1 (.cells #[.int .i64 4,.slice none 0 0] 24)
 replace x0a:=kNq hg x0a
 replace x0b:=kNq hg x0b
 replace x00a:=kNq hg x00a
 replace x00b:=kNq hg x00b
 replace x01a:=kNq hg x01a
 replace x01b:=kNq hg x01b
 replace i0:=kNq hg i0
 replace i2:=kNq hg i2
 replace HI3:=bCq HI3 hg
 replace HR3:=bCq HR3 hg
 replace HS3:=rCq HS3 hg
 replace HG3:=gCq HG3 hg
 replace HA0:=tCq HA0 hg
 replace HA00:=tCq HA00 hg
 replace HA01:=tCq HA01 hg
 replace HQ0:=rCq HQ0 hg
 clear hg
 have hszn:(w1.alloc (.cells #[.int .i64 4,.slice none 0 0] 24)).heap.size = w1.heap.size + 1:=by simp
 go_wp2_with fail
 generalize w1.alloc (.cells #[.int .i64 4,.slice none 0 0] 24) = wn at *
 have xna:=c0q hN
 have xnb:=c1q hN
 have HAnat:Hid (LiesT (fun _=>True) wn (.nd 4 []) (tyV 4 none 0 0)):=LiesT.oq ⟨by decide,by decide⟩ (RowC.nil _ none 0)
 clear hN
 have hg:=gBq (w:=wn) (.cells #[.int .i64 11] 3)
 have hK3:=new_at (o:=(.cells #[.int .i64 11] 3)) hszn
 have HST:=jh (sTq (ks:=[11]) (kc:=1) (HS3.out.grow hg) (kinds1 hK3) (by decide))
 rw [hc] at HST
 refine HST.out.mono ?_;rintro e w2 ⟨rfl,rfl⟩
 clear HST hK3
 replace x0a:=kNq hg x0a
 replace x0b:=kNq hg x0b
 replace x00a:=kNq hg x00a
 replace x00b:=kNq hg x00b
 replace x01a:=kNq hg x01a
 replace x01b:=kNq hg x01b
 replace xna:=kNq hg xna
 replace xnb:=kNq hg xnb
 replace i0:=kNq hg i0
 replace i2:=kNq hg i2
 replace HI3:=bCq HI3 hg
 replace HR3:=bCq HR3 hg
 replace HS3:=rCq HS3 hg
 replace HG3:=gCq HG3 hg
 replace HA0:=tCq HA0 hg
 replace HA00:=tCq HA00 hg
 replace HA01:=tCq HA01 hg
 replace HAnat:=tCq HAnat hg
 replace HQ0:=rCq HQ0 hg
 clear hg
 generalize wn.alloc _ = wk at *
 go_wp2_with fail
 have hg:=gBq (w:=wk) (.cells #[.int .i64 15,.int .i64 15] 3)
 have hK3:=heap_alloc_new wk (.cells #[.int .i64 15,.int .i64 15] 3)
 have HST:=jh (sTq (ks:=[15,15]) (kc:=2) (HQ0.out.grow hg) (kinds2 hK3) (by decide))
 rw [ht0] at HST
 refine HST.out.mono ?_;rintro e w1 ⟨rfl,rfl⟩
 clear HST hK3
 replace x0a:=kNq hg x0a
 replace x0b:=kNq hg x0b
 replace x00a:=kNq hg x00a
 replace x00b:=kNq hg x00b
 replace x01a:=kNq hg x01a
 replace x01b:=kNq hg x01b
 replace xna:=kNq hg xna
 replace xnb:=kNq hg xnb
 replace i0:=kNq hg i0
 replace i2:=kNq hg i2
 replace HI3:=bCq HI3 hg
 replace HR3:=bCq HR3 hg
 replace HS3:=rCq HS3 hg
 replace HG3:=gCq HG3 hg
 replace HA0:=tCq HA0 hg
 replace HA00:=tCq HA00 hg
 replace HA01:=tCq HA01 hg
 replace HAnat:=tCq HAnat hg
 replace HQ0:=rCq HQ0 hg
 clear hg
 generalize wk.alloc _ = wt0 at *
 go_wp2_with fail
 have yx0a:=fun (w':World) (h:wt0.grownBy w' none)=>aI (kNq h x0a) (aI (kNq h x0b) (aI (kNq h x00a) (aI (kNq h x00b) (aI (kNq h x01a) (aI (kNq h x01b) (aI (kNq h xna) (aI (kNq h xnb) (aI (kNq h i0) (kNq h i2)))))))))
 have hS0:wt0.grownBy wt0 none:=gRf _ _
 refine wp_region_held_drew (S:=fun w'=>wt0.grownBy w' none) (by kernel_rfl) ?_ (fun hHeld=>?_)
 ·exact gDr (gRf _ _)
 refine rGq 0 112 ?_
 refine rGq 1 113 ?_
 refine rGq 2 114 ?_
 refine rGq 3 115 ?_
 refine rGq 4 116 ?_
 refine rGq 5 117 ?_
 refine rGq 6 118 ?_
 refine rGq 7 119 ?_
 refine rGq 8 120 ?_
 refine rGq 9 121 ?_
 refine rGq 10 122 ?_
 refine rGq 11 123 ?_
 refine wpAnyH_ready (rs:=[12]) (by kernel_rfl) (by simp) ?_
 refine AllReadyH.cons rfl (fun K hK=>?_) AllReadyH.nil
 go_simp
 go_at_call 16
 refine (same_any (HA00.out.same (sAl hHeld)).low (HA01.out.same (sAl hHeld)).low hz1).mono ?_;rintro e wt1 ⟨rfl,hg⟩
 rw [ht1]
 have hH9:=gTq hHeld hg
 refine hK.out _ _ hH9 (fun _=>?_)
 have HGT1:=jh hH9
 have hST1:=hH9
 clear hK K hHeld hg
 have hHeld:=hH9
 clear hH9
 refine wpAnyH_done (by kernel_rfl) ?_ _
 clear hHeld
 clear yx0a hS0
 have hg:=HGT1.out
 replace x0a:=kNq hg x0a
 replace x0b:=kNq hg x0b
 replace x00a:=kNq hg x00a
 replace x00b:=kNq hg x00b
 replace x01a:=kNq hg x01a
 replace x01b:=kNq hg x01b
 replace xna:=kNq hg xna
 replace xnb:=kNq hg xnb
 replace i0:=kNq hg i0
 replace i2:=kNq hg i2
 replace HI3:=bCq HI3 hg
 replace HR3:=bCq HR3 hg
 replace HS3:=rCq HS3 hg
 replace HG3:=gCq HG3 hg
 replace HA0:=tCq HA0 hg
 replace HA00:=tCq HA00 hg
 replace HA01:=tCq HA01 hg
 replace HAnat:=tCq HAnat hg
 replace HQ0:=rCq HQ0 hg
 clear hg
 clear hST1
 have yx0a:=fun (w':World) (h:wt1.grownBy w' (some (W.heap.size + 1)))=>aI (kDq HR3.out h x0a x0a) (aI (kDq HR3.out h x0a x0b) (aI (kDq HR3.out h x00a x00a) (aI (kDq HR3.out h x00a x00b) (aI (kDq HR3.out h x01a x01a) (aI (kDq HR3.out h x01a x01b) (aI (kDq HR3.out h xna xna) (kDq HR3.out h xna xnb)))))))
 have hS3:wt1.grownBy wt1 (some (W.heap.size + 1)):=gRf _ _
 go_wp2_with fail
 refine (rLq 5 (by decide) _).mono ?_
 rintro e w5 hp
 obtain ⟨a5,l5,c5,f5,er5,rfl,hS5,q0,q1,q2,HB5,HL5⟩:=lFq hp HG3.out (gRf _ _) HR3.out
 clear hp
 go_wp2_with fail
 exact eLq (fun w z0 z1=>by simp [results,Tryz.results90,go_sem,z0,z1]) rfl HB5.out HL5.out
theorem sends_89 {W:World} {p n:Int} {ta ra da:Option Addr} {tl tc rl rc dl dc:Nat} {dk dn dp:Int} {ds:ByteArray} {s types:List Ty} {sv:Value} (hp:p = 89 \/ p = 90) (hs:RowC W s sv) (hT:RowC W types (.slice ta tl tc)) (hgd:s.all gYq = true) (hn:s.length <= 1000) :
 Calls Tryz.prog 91 #[insV p n ta tl tc ra rl rc dk dn dp ds da dl dc,sv] W (LPq (pFq s [(.nd 7 [])]) W):=by
 obtain ⟨sa,sl,sc,e1⟩:=hs.form3
 subst e1
 unfold insV
 obtain ⟨hg3,hI3,hR3⟩:=start2 W (.cells #[.int .i64 p,.int .i64 n,.slice ta tl tc,.slice ra rl rc,.int .i64 dk,.int .i64 dn,.int .i64 dp,.string ds,.slice da dl dc] 115) (.cells #[.slice none 0 0,.bool false] 62)
 have hsz:((W.alloc (.cells #[.int .i64 p,.int .i64 n,.slice ta tl tc,.slice ra rl rc,.int .i64 dk,.int .i64 dn,.int .i64 dp,.string ds,.slice da dl dc] 115)).alloc (.cells #[.slice none 0 0,.bool false] 62)).heap.size = W.heap.size + 1 + 1:=by simp
 have hs3:=hs.grow hg3
 have hT3:=hT.grow hg3
 have hlen:0 <= s.length:=Nat.zero_le _
 obtain ⟨hsl,hsc,_⟩:=hs3.len
 have b1:(sl:Int) <= (sc:Int):=by omega
 have HSL:=jh hsl
 have HG3:=jh hg3
 have HI3:=jh hI3
 have HR3:=jh hR3
 have HS3:=jh hs3
 have HLEN:=jh hlen
 obtain ⟨i0,i1,i2,i3,_⟩:=box9 hI3
 clear hg3 hI3 hR3 hs hs3 hT hT3 hsl hlen hgd
 rcases hp with rfl | rfl
 all_goals
  go_enter Tryz.func91,Tryz.ntmps91
  go_wp2_with fail
  generalize (W.alloc _).alloc _ = W3 at *
  have hS3:W3.grownBy W3 (some (W.heap.size + 1)):=gRf _ _
  have HD:=HS3
  refine (of_any 7 _ _ _ _).mono ?_
  rintro e w10 ⟨rfl,hg⟩
  have HU0:=jh (LiesT.oq (t:=7) ⟨by decide,by decide⟩ (RowC.grow (RowC.nil _ none 0) hg))
  have HG10:Hid (W3.grownBy w10 none):=gTq (gRf _ _) hg
  have hS:W3.grownBy w10 (some (W.heap.size + 1)):=gAq HG10.out
  clear hg
  go_wp2_with fail
  have hprev:=HG10.out
  clear hprev
  refine (pAq (HD.out.grow (gTq HG10.out (gBq _))) (RowC.one (heap_alloc_new w10 _) (HU0.out.same (sAl (gBq _)))) (by simp <;> omega)).mono ?_
  rintro e w5 hp
  obtain ⟨a5,l5,c5,f5,er5,rfl,hS5,q0,q1,q2,HB5,HL5⟩:=lFq hp HG3.out (gTq HG10.out (gBq _)) HR3.out
  clear hp
  go_wp2_with fail
  exact eLq (fun w z0 z1=>by simp [results,Tryz.results91,go_sem,z0,z1]) rfl HB5.out HL5.out
theorem sends_91 {W:World} {p n:Int} {ta ra da:Option Addr} {tl tc rl rc dl dc:Nat} {dk dn dp:Int} {ds:ByteArray} {s types:List Ty} {sv:Value} (hp:p = 91 \/ p = 92) (hs:RowC W s sv) (hT:RowC W types (.slice ta tl tc)) (hgd:s.all gYq = true) (hn:s.length <= 1000) :
 Calls Tryz.prog 91 #[insV p n ta tl tc ra rl rc dk dn dp ds da dl dc,sv] W (LPq (pFq s [(.nd 5 [])]) W):=by
 obtain ⟨sa,sl,sc,e1⟩:=hs.form3
 subst e1
 unfold insV
 obtain ⟨hg3,hI3,hR3⟩:=start2 W (.cells #[.int .i64 p,.int .i64 n,.slice ta tl tc,.slice ra rl rc,.int .i64 dk,.int .i64 dn,.int .i64 dp,.string ds,.slice da dl dc] 115) (.cells #[.slice none 0 0,.bool false] 62)
 have hsz:((W.alloc (.cells #[.int .i64 p,.int .i64 n,.slice ta tl tc,.slice ra rl rc,.int .i64 dk,.int .i64 dn,.int .i64 dp,.string ds,.slice da dl dc] 115)).alloc (.cells #[.slice none 0 0,.bool false] 62)).heap.size = W.heap.size + 1 + 1:=by simp
 have hs3:=hs.grow hg3
 have hT3:=hT.grow hg3
 have hlen:0 <= s.length:=Nat.zero_le _
 obtain ⟨hsl,hsc,_⟩:=hs3.len
 have b1:(sl:Int) <= (sc:Int):=by omega
 have HSL:=jh hsl
 have HG3:=jh hg3
 have HI3:=jh hI3
 have HR3:=jh hR3
 have HS3:=jh hs3
 have HLEN:=jh hlen
 obtain ⟨i0,i1,i2,i3,_⟩:=box9 hI3
 clear hg3 hI3 hR3 hs hs3 hT hT3 hsl hlen hgd
 rcases hp with rfl | rfl
 all_goals
  go_enter Tryz.func91,Tryz.ntmps91
  go_wp2_with fail
  generalize (W.alloc _).alloc _ = W3 at *
  have hS3:W3.grownBy W3 (some (W.heap.size + 1)):=gRf _ _
  have HD:=HS3
  refine (of_any 5 _ _ _ _).mono ?_
  rintro e w10 ⟨rfl,hg⟩
  have HU0:=jh (LiesT.oq (t:=5) ⟨by decide,by decide⟩ (RowC.grow (RowC.nil _ none 0) hg))
  have HG10:Hid (W3.grownBy w10 none):=gTq (gRf _ _) hg
  have hS:W3.grownBy w10 (some (W.heap.size + 1)):=gAq HG10.out
  clear hg
  go_wp2_with fail
  have hprev:=HG10.out
  clear hprev
  refine (pAq (HD.out.grow (gTq HG10.out (gBq _))) (RowC.one (heap_alloc_new w10 _) (HU0.out.same (sAl (gBq _)))) (by simp <;> omega)).mono ?_
  rintro e w5 hp
  obtain ⟨a5,l5,c5,f5,er5,rfl,hS5,q0,q1,q2,HB5,HL5⟩:=lFq hp HG3.out (gTq HG10.out (gBq _)) HR3.out
  clear hp
  go_wp2_with fail
  exact eLq (fun w z0 z1=>by simp [results,Tryz.results91,go_sem,z0,z1]) rfl HB5.out HL5.out
theorem sends_88 {W:World} {n:Int} {ta ra da:Option Addr} {tl tc rl rc dl dc:Nat} {dk dn dp:Int} {ds:ByteArray} {s types:List Ty} {sv:Value} (hs:RowC W s sv) (hT:RowC W types (.slice ta tl tc)) (hc:sFq s [0,5,7] = true) (ht0:sameT (tAq s 0) (tAq types 0) = true) (hz0:(tAq s 0).size <= 50000000) (ht1:storeT (tAq s 0) = true) (hz1:(tAq s 0).size <= 50000000) (htl:types.length = 1) (hgd:s.all gYq = true) (hn:s.length <= 1000) :
 Calls Tryz.prog 91 #[insV 88 n ta tl tc ra rl rc dk dn dp ds da dl dc,sv] W (LPq (pFq (s.drop 3) [(.nd 8 [])]) W):=by
 obtain ⟨sa,sl,sc,e1⟩:=hs.form3
 subst e1
 unfold insV
 obtain ⟨hg3,hI3,hR3,hK3⟩:=start3 W (.cells #[.int .i64 88,.int .i64 n,.slice ta tl tc,.slice ra rl rc,.int .i64 dk,.int .i64 dn,.int .i64 dp,.string ds,.slice da dl dc] 115) (.cells #[.slice none 0 0,.bool false] 62) (.cells #[.int .i64 0,.int .i64 5,.int .i64 7] 3)
 have hs3:=hs.grow hg3
 have HST:=jh (sTq (ks:=[0,5,7]) (kc:=3) hs3 (kinds3 hK3) (by decide))
 rw [hc] at HST
 have hT3:=hT.grow hg3
 have hlen:3 <= s.length:=slq hc
 obtain ⟨hsl,hsc,_⟩:=hs3.len
 obtain ⟨b,o,t0,a0,l0,k0,rfl,x0a,x0b,hA0⟩:=hs3.at 0 (by omega)
 have HA0:=jh hA0
 obtain ⟨et,ect,_⟩:=hT3.len
 rw [htl] at et ect
 subst et
 have HTY:=jh hT3
 obtain ⟨bt,ot,ty0,ay0,ly0,ky0,rfl,xy0a,xy0b,hAy0⟩:=hT3.at 0 (by omega)
 have HAy0:=jh hAy0
 have bz1:(1:Int) <= (sl:Int):=by omega
 have by0:0 < sl:=by omega
 have bz2:(2:Int) <= (sl:Int):=by omega
 have by1:(1:Int) < (sl:Int):=by omega
 have bz3:(3:Int) <= (sl:Int):=by omega
 have by2:(2:Int) < (sl:Int):=by omega
 have b1:(sl:Int) <= (sc:Int):=by omega
 have HSL:=jh hsl
 have HG3:=jh hg3
 have HI3:=jh hI3
 have HR3:=jh hR3
 have HS3:=jh hs3
 have HLEN:=jh hlen
 simp only [Nat.reduceMul,Nat.reduceAdd,Nat.add_zero,Nat.mul_zero,Nat.zero_add] at x0a x0b xy0a xy0b
 clear hg3 hI3 hR3 hs hs3 hT hT3 hsl hlen hgd hc hK3 htl hA0 hAy0
 go_enter Tryz.func91,Tryz.ntmps91
 go_wp2_with fail
 refine HST.out.mono ?_;rintro e w1 ⟨rfl,rfl⟩
 clear HST
 generalize ((W.alloc _).alloc _).alloc _ = W3 at *
 obtain ⟨i0,i1,i2,i3,_⟩:=box9 HI3.out
 go_wp2_with fail
 have yx0a:=fun (w':World) (h:W3.grownBy w' none)=>aI (kNq h x0a) (aI (kNq h x0b) (aI (kNq h xy0a) (aI (kNq h xy0b) (aI (kNq h i0) (kNq h i2)))))
 have hS0:W3.grownBy W3 none:=gRf _ _
 first
  | (go_region_held3 (fun w'=>W3.grownBy w' none) (first | with_reducible assumption | with_reducible exact gDr (gRf _ _) | with_reducible exact gTq (by assumption) (gBq _) | with_reducible exact gDr (gBq _)) (first
   | (go_at_call 38;have hprev:=HGT0.out;clear hprev;refine (stored_any (HA0.out.same (sAl HGT0.out)).low hz1).mono ?_;rintro e wt1 ⟨rfl,hg⟩;rw [ht1];have HGT1:Hid (W3.grownBy wt1 none):=gTq HGT0.out hg;have hST1:=HGT1.out;clear hg)
   | (go_at_call 16;refine (same_any (HA0.out.same (sAl (gDr (gRf _ _)))).low (HAy0.out.same (sAl (gDr (gRf _ _)))).low hz0).mono ?_;rintro e wt0 ⟨rfl,hg⟩;rw [ht0];have HGT0:Hid (W3.grownBy wt0 none):=gTq (gDr (gRf _ _)) hg;have hST0:=HGT0.out;clear hg)))
  | fail
 clear yx0a hS0
 have hg:=HGT1.out
 replace x0a:=kNq hg x0a
 replace x0b:=kNq hg x0b
 replace xy0a:=kNq hg xy0a
 replace xy0b:=kNq hg xy0b
 replace i0:=kNq hg i0
 replace i2:=kNq hg i2
 replace HI3:=bCq HI3 hg
 replace HR3:=bCq HR3 hg
 replace HS3:=rCq HS3 hg
 replace HG3:=gCq HG3 hg
 replace HA0:=tCq HA0 hg
 replace HAy0:=tCq HAy0 hg
 replace HTY:=jh (HTY.out.grow hg)
 clear hg
 clear hST0 hST1
 have yx0a:=fun (w':World) (h:wt1.grownBy w' (some (W.heap.size + 1)))=>aI (kDq HR3.out h x0a x0a) (aI (kDq HR3.out h x0a x0b) (aI (kDq HR3.out h xy0a xy0a) (aI (kDq HR3.out h xy0a xy0b) ((box9 (keepI HI3.out h)).2.2.1))))
 have hS3:wt1.grownBy wt1 (some (W.heap.size + 1)):=gRf _ _
 rcases (show (sc = 3 /\ sl = 3) \/ (¬ sc = 3 /\ ¬ sc - 3 = 0) by omega) with ⟨rfl,rfl⟩ | ⟨hc2,hc3⟩
 have HD:=jh (HS3.out.dropAll 3 (by have:=HSL.out;omega) (some ⟨b,o,none⟩) 0)
 rotate_left
 have HD:=jh (HS3.out.drop 3 (by have:=HLEN.out;omega))
 all_goals
  go_wp2_with fail
  go_region_held3 (fun w'=>wt1.grownBy w' (some (W.heap.size + 1))) (first | with_reducible assumption | with_reducible exact gDr (gRf _ _) | with_reducible exact grow_setR (by assumption) | with_reducible exact gTr (by assumption) (gAq (gBq _)) | with_reducible exact gDr (gAq (gBq _))) (first
   | (go_at_call 29;refine (of_any 8 _ _ _ _).mono ?_;rintro e w10 ⟨rfl,hg⟩;have HU0:=jh (LiesT.oq (t:=8) ⟨by decide,by decide⟩ (RowC.grow (RowC.nil _ none 0) (undrew hg)));have HG10:Hid (wt1.grownBy w10 none):=gTq (gRf _ _) (undrew hg);have hS:wt1.grownBy w10 (some (W.heap.size + 1)):=gAq HG10.out;clear hg)
   | (go_at_call 108;have hprev:=HG10.out;clear hprev;refine (pAq (HD.out.grow (gTq HG10.out (gBq _))) (RowC.one (heap_alloc_new w10 _) (HU0.out.same (sAl (gBq _)))) (by simp;omega)).mono ?_;rintro e w5 hp;obtain ⟨a5,l5,c5,f5,er5,rfl,hS5,q0,q1,q2,HB5,HL5⟩:=lFq hp HG3.out (gTq HG10.out (gBq _)) HR3.out;clear hp))
  go_wp2_with fail
  exact eLq (fun w z0 z1=>by simp [results,Tryz.results91,go_sem,z0,z1]) rfl HB5.out HL5.out
theorem sends_88n {W:World} {n:Int} {ta ra da:Option Addr} {tl tc rl rc dl dc:Nat} {dk dn dp:Int} {ds:ByteArray} {s types:List Ty} {sv:Value} (hs:RowC W s sv) (hT:RowC W types (.slice ta tl tc)) (hc:sFq s [0,5,7] = false) (hgd:s.all gYq = true) (hn:s.length <= 1000) :
 Calls Tryz.prog 91 #[insV 88 n ta tl tc ra rl rc dk dn dp ds da dl dc,sv] W (LPq (.no 5) W):=by
 obtain ⟨sa,sl,sc,e1⟩:=hs.form3
 subst e1
 unfold insV
 obtain ⟨hg3,hI3,hR3,hK3⟩:=start3 W (.cells #[.int .i64 88,.int .i64 n,.slice ta tl tc,.slice ra rl rc,.int .i64 dk,.int .i64 dn,.int .i64 dp,.string ds,.slice da dl dc] 115) (.cells #[.slice none 0 0,.bool false] 62) (.cells #[.int .i64 0,.int .i64 5,.int .i64 7] 3)
 have hs3:=hs.grow hg3
 have HST:=jh (sTq (ks:=[0,5,7]) (kc:=3) hs3 (kinds3 hK3) (by decide))
 rw [hc] at HST
 have hT3:=hT.grow hg3
 have hlen:0 <= s.length:=Nat.zero_le _
 obtain ⟨hsl,hsc,_⟩:=hs3.len
 have b1:(sl:Int) <= (sc:Int):=by omega
 have HSL:=jh hsl
 have HG3:=jh hg3
 have HI3:=jh hI3
 have HR3:=jh hR3
 have HS3:=jh hs3
 have HLEN:=jh hlen
 clear hg3 hI3 hR3 hs hs3 hT hT3 hsl hlen hgd hc hK3
 go_enter Tryz.func91,Tryz.ntmps91
 go_wp2_with fail
 refine HST.out.mono ?_;rintro e w1 ⟨rfl,rfl⟩
 clear HST
 generalize ((W.alloc _).alloc _).alloc _ = W3 at *
 obtain ⟨i0,i1,i2,i3,_⟩:=box9 HI3.out
 have hS3:W3.grownBy W3 (some (W.heap.size + 1)):=gRf _ _
 go_wp2_with fail
 refine (rLq 5 (by decide) _).mono ?_
 rintro e w5 hp
 obtain ⟨a5,l5,c5,f5,er5,rfl,hS5,q0,q1,q2,HB5,HL5⟩:=lFq hp HG3.out (gRf _ _) HR3.out
 clear hp
 go_wp2_with fail
 exact eLq (fun w z0 z1=>by simp [results,Tryz.results91,go_sem,z0,z1]) rfl HB5.out HL5.out
theorem sends_88n1 {W:World} {n:Int} {ta ra da:Option Addr} {tl tc rl rc dl dc:Nat} {dk dn dp:Int} {ds:ByteArray} {s types:List Ty} {sv:Value} (hs:RowC W s sv) (hT:RowC W types (.slice ta tl tc)) (hc:sFq s [0,5,7] = true) (ht0:sameT (tAq s 0) (tAq types 0) = false) (hz0:(tAq s 0).size <= 50000000) (htl:types.length = 1) (hgd:s.all gYq = true) (hn:s.length <= 1000) :
 Calls Tryz.prog 91 #[insV 88 n ta tl tc ra rl rc dk dn dp ds da dl dc,sv] W (LPq (.no 5) W):=by
 obtain ⟨sa,sl,sc,e1⟩:=hs.form3
 subst e1
 unfold insV
 obtain ⟨hg3,hI3,hR3,hK3⟩:=start3 W (.cells #[.int .i64 88,.int .i64 n,.slice ta tl tc,.slice ra rl rc,.int .i64 dk,.int .i64 dn,.int .i64 dp,.string ds,.slice da dl dc] 115) (.cells #[.slice none 0 0,.bool false] 62) (.cells #[.int .i64 0,.int .i64 5,.int .i64 7] 3)
 have hs3:=hs.grow hg3
 have HST:=jh (sTq (ks:=[0,5,7]) (kc:=3) hs3 (kinds3 hK3) (by decide))
 rw [hc] at HST
 have hT3:=hT.grow hg3
 have hlen:3 <= s.length:=slq hc
 obtain ⟨hsl,hsc,_⟩:=hs3.len
 obtain ⟨b,o,t0,a0,l0,k0,rfl,x0a,x0b,hA0⟩:=hs3.at 0 (by omega)
 have HA0:=jh hA0
 obtain ⟨et,ect,_⟩:=hT3.len
 rw [htl] at et ect
 subst et
 have HTY:=jh hT3
 obtain ⟨bt,ot,ty0,ay0,ly0,ky0,rfl,xy0a,xy0b,hAy0⟩:=hT3.at 0 (by omega)
 have HAy0:=jh hAy0
 have bz1:(1:Int) <= (sl:Int):=by omega
 have by0:0 < sl:=by omega
 have bz2:(2:Int) <= (sl:Int):=by omega
 have by1:(1:Int) < (sl:Int):=by omega
 have bz3:(3:Int) <= (sl:Int):=by omega
 have by2:(2:Int) < (sl:Int):=by omega
 have b1:(sl:Int) <= (sc:Int):=by omega
 have HSL:=jh hsl
 have HG3:=jh hg3
 have HI3:=jh hI3
 have HR3:=jh hR3
 have HS3:=jh hs3
 have HLEN:=jh hlen
 simp only [Nat.reduceMul,Nat.reduceAdd,Nat.add_zero,Nat.mul_zero,Nat.zero_add] at x0a x0b xy0a xy0b
 clear hg3 hI3 hR3 hs hs3 hT hT3 hsl hlen hgd hc hK3 htl hA0 hAy0
 go_enter Tryz.func91,Tryz.ntmps91
 go_wp2_with fail
 refine HST.out.mono ?_;rintro e w1 ⟨rfl,rfl⟩
 clear HST
 generalize ((W.alloc _).alloc _).alloc _ = W3 at *
 obtain ⟨i0,i1,i2,i3,_⟩:=box9 HI3.out
 go_wp2_with fail
 have yx0a:=fun (w':World) (h:W3.grownBy w' none)=>aI (kNq h x0a) (aI (kNq h x0b) (aI (kNq h xy0a) (aI (kNq h xy0b) (aI (kNq h i0) (kNq h i2)))))
 have hS0:W3.grownBy W3 none:=gRf _ _
 refine wp_region_held_drew (S:=fun w'=>W3.grownBy w' none) (by kernel_rfl) ?_ (fun hHeld=>?_)
 ·exact gDr (gRf _ _)
 refine rGq 0 15 ?_
 refine rGq 1 16 ?_
 refine rGq 2 17 ?_
 refine rGq 3 18 ?_
 refine rGq 4 19 ?_
 refine rGq 5 20 ?_
 refine rGq 6 21 ?_
 refine wpAnyH_ready (rs:=[7]) (by kernel_rfl) (by simp) ?_
 refine AllReadyH.cons rfl (fun K hK=>?_) AllReadyH.nil
 go_simp
 go_at_call 16
 refine (same_any (HA0.out.same (sAl hHeld)).low (HAy0.out.same (sAl hHeld)).low hz0).mono ?_;rintro e wt0 ⟨rfl,hg⟩
 rw [ht0]
 have hH9:=gTq hHeld hg
 refine hK.out _ _ hH9 (fun _=>?_)
 have HGT0:=jh hH9
 have hST0:=hH9
 clear hK K hHeld hg
 have hHeld:=hH9
 clear hH9
 refine rGq 8 23 ?_
 refine rNq 9 24 ?_
 refine rNq 10 25 ?_
 refine rNq 11 26 ?_
 refine rNq 12 27 ?_
 refine rGq 13 28 ?_
 refine wpAnyH_done (by kernel_rfl) ?_ _
 clear hHeld
 clear yx0a hS0
 have hg:=HGT0.out
 replace x0a:=kNq hg x0a
 replace x0b:=kNq hg x0b
 replace xy0a:=kNq hg xy0a
 replace xy0b:=kNq hg xy0b
 replace i0:=kNq hg i0
 replace i2:=kNq hg i2
 replace HI3:=bCq HI3 hg
 replace HR3:=bCq HR3 hg
 replace HS3:=rCq HS3 hg
 replace HG3:=gCq HG3 hg
 replace HA0:=tCq HA0 hg
 replace HAy0:=tCq HAy0 hg
 replace HTY:=jh (HTY.out.grow hg)
 clear hg
 clear hST0
 have yx0a:=fun (w':World) (h:wt0.grownBy w' (some (W.heap.size + 1)))=>aI (kDq HR3.out h x0a x0a) (aI (kDq HR3.out h x0a x0b) (aI (kDq HR3.out h xy0a xy0a) (aI (kDq HR3.out h xy0a xy0b) ((box9 (keepI HI3.out h)).2.2.1))))
 have hS3:wt0.grownBy wt0 (some (W.heap.size + 1)):=gRf _ _
 go_wp2_with fail
 refine (rLq 5 (by decide) _).mono ?_
 rintro e w5 hp
 obtain ⟨a5,l5,c5,f5,er5,rfl,hS5,q0,q1,q2,HB5,HL5⟩:=lFq hp HG3.out (gRf _ _) HR3.out
 clear hp
 go_wp2_with fail
 exact eLq (fun w z0 z1=>by simp [results,Tryz.results91,go_sem,z0,z1]) rfl HB5.out HL5.out
theorem sends_88n2 {W:World} {n:Int} {ta ra da:Option Addr} {tl tc rl rc dl dc:Nat} {dk dn dp:Int} {ds:ByteArray} {s types:List Ty} {sv:Value} (hs:RowC W s sv) (hT:RowC W types (.slice ta tl tc)) (hc:sFq s [0,5,7] = true) (ht0:sameT (tAq s 0) (tAq types 0) = true) (hz0:(tAq s 0).size <= 50000000) (ht1:storeT (tAq s 0) = false) (hz1:(tAq s 0).size <= 50000000) (htl:types.length = 1) (hgd:s.all gYq = true) (hn:s.length <= 1000) :
 Calls Tryz.prog 91 #[insV 88 n ta tl tc ra rl rc dk dn dp ds da dl dc,sv] W (LPq (.no 5) W):=by
 obtain ⟨sa,sl,sc,e1⟩:=hs.form3
 subst e1
 unfold insV
 obtain ⟨hg3,hI3,hR3,hK3⟩:=start3 W (.cells #[.int .i64 88,.int .i64 n,.slice ta tl tc,.slice ra rl rc,.int .i64 dk,.int .i64 dn,.int .i64 dp,.string ds,.slice da dl dc] 115) (.cells #[.slice none 0 0,.bool false] 62) (.cells #[.int .i64 0,.int .i64 5,.int .i64 7] 3)
 have hs3:=hs.grow hg3
 have HST:=jh (sTq (ks:=[0,5,7]) (kc:=3) hs3 (kinds3 hK3) (by decide))
 rw [hc] at HST
 have hT3:=hT.grow hg3
 have hlen:3 <= s.length:=slq hc
 obtain ⟨hsl,hsc,_⟩:=hs3.len
 obtain ⟨b,o,t0,a0,l0,k0,rfl,x0a,x0b,hA0⟩:=hs3.at 0 (by omega)
 have HA0:=jh hA0
 obtain ⟨et,ect,_⟩:=hT3.len
 rw [htl] at et ect
 subst et
 have HTY:=jh hT3
 obtain ⟨bt,ot,ty0,ay0,ly0,ky0,rfl,xy0a,xy0b,hAy0⟩:=hT3.at 0 (by omega)
 have HAy0:=jh hAy0
 have bz1:(1:Int) <= (sl:Int):=by omega
 have by0:0 < sl:=by omega
 have bz2:(2:Int) <= (sl:Int):=by omega
 have by1:(1:Int) < (sl:Int):=by omega
 have bz3:(3:Int) <= (sl:Int):=by omega
 have by2:(2:Int) < (sl:Int):=by omega
 have b1:(sl:Int) <= (sc:Int):=by omega
 have HSL:=jh hsl
 have HG3:=jh hg3
 have HI3:=jh hI3
 have HR3:=jh hR3
 have HS3:=jh hs3
 have HLEN:=jh hlen
 simp only [Nat.reduceMul,Nat.reduceAdd,Nat.add_zero,Nat.mul_zero,Nat.zero_add] at x0a x0b xy0a xy0b
 clear hg3 hI3 hR3 hs hs3 hT hT3 hsl hlen hgd hc hK3 htl hA0 hAy0
 go_enter Tryz.func91,Tryz.ntmps91
 go_wp2_with fail
 refine HST.out.mono ?_;rintro e w1 ⟨rfl,rfl⟩
 clear HST
 generalize ((W.alloc _).alloc _).alloc _ = W3 at *
 obtain ⟨i0,i1,i2,i3,_⟩:=box9 HI3.out
 go_wp2_with fail
 have yx0a:=fun (w':World) (h:W3.grownBy w' none)=>aI (kNq h x0a) (aI (kNq h x0b) (aI (kNq h xy0a) (aI (kNq h xy0b) (aI (kNq h i0) (kNq h i2)))))
 have hS0:W3.grownBy W3 none:=gRf _ _
 refine wp_region_held_drew (S:=fun w'=>W3.grownBy w' none) (by kernel_rfl) ?_ (fun hHeld=>?_)
 ·exact gDr (gRf _ _)
 refine rGq 0 15 ?_
 refine rGq 1 16 ?_
 refine rGq 2 17 ?_
 refine rGq 3 18 ?_
 refine rGq 4 19 ?_
 refine rGq 5 20 ?_
 refine rGq 6 21 ?_
 refine wpAnyH_ready (rs:=[7]) (by kernel_rfl) (by simp) ?_
 refine AllReadyH.cons rfl (fun K hK=>?_) AllReadyH.nil
 go_simp
 go_at_call 16
 refine (same_any (HA0.out.same (sAl hHeld)).low (HAy0.out.same (sAl hHeld)).low hz0).mono ?_;rintro e wt0 ⟨rfl,hg⟩
 rw [ht0]
 have hH9:=gTq hHeld hg
 refine hK.out _ _ hH9 (fun _=>?_)
 have HGT0:=jh hH9
 have hST0:=hH9
 clear hK K hHeld hg
 have hHeld:=hH9
 clear hH9
 refine rGq 8 23 ?_
 refine rGq 9 24 ?_
 refine rGq 10 25 ?_
 refine rGq 11 26 ?_
 refine wpAnyH_ready (rs:=[12]) (by kernel_rfl) (by simp) ?_
 refine AllReadyH.cons rfl (fun K hK=>?_) AllReadyH.nil
 go_simp
 go_at_call 38
 refine (stored_any (HA0.out.same (sAl hHeld)).low hz1).mono ?_;rintro e wt1 ⟨rfl,hg⟩
 rw [ht1]
 have hH9:=gTq hHeld hg
 refine hK.out _ _ hH9 (fun _=>?_)
 have HGT1:=jh hH9
 have hST1:=hH9
 clear hK K hHeld hg
 have hHeld:=hH9
 clear hH9
 refine rGq 13 28 ?_
 refine wpAnyH_done (by kernel_rfl) ?_ _
 clear hHeld
 clear yx0a hS0
 have hg:=HGT1.out
 replace x0a:=kNq hg x0a
 replace x0b:=kNq hg x0b
 replace xy0a:=kNq hg xy0a
 replace xy0b:=kNq hg xy0b
 replace i0:=kNq hg i0
 replace i2:=kNq hg i2
 replace HI3:=bCq HI3 hg
 replace HR3:=bCq HR3 hg
 replace HS3:=rCq HS3 hg
 replace HG3:=gCq HG3 hg
 replace HA0:=tCq HA0 hg
 replace HAy0:=tCq HAy0 hg
 replace HTY:=jh (HTY.out.grow hg)
 clear hg
 clear hST0 hST1
 have yx0a:=fun (w':World) (h:wt1.grownBy w' (some (W.heap.size + 1)))=>aI (kDq HR3.out h x0a x0a) (aI (kDq HR3.out h x0a x0b) (aI (kDq HR3.out h xy0a xy0a) (aI (kDq HR3.out h xy0a xy0b) ((box9 (keepI HI3.out h)).2.2.1))))
 have hS3:wt1.grownBy wt1 (some (W.heap.size + 1)):=gRf _ _
 go_wp2_with fail
 refine (rLq 5 (by decide) _).mono ?_
 rintro e w5 hp
 obtain ⟨a5,l5,c5,f5,er5,rfl,hS5,q0,q1,q2,HB5,HL5⟩:=lFq hp HG3.out (gRf _ _) HR3.out
 clear hp
 go_wp2_with fail
 exact eLq (fun w z0 z1=>by simp [results,Tryz.results91,go_sem,z0,z1]) rfl HB5.out HL5.out
end Go.Proofs.YtkglnoimbekhhaaGreat
