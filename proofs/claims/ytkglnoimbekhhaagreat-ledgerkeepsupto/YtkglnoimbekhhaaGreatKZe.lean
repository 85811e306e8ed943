import Derived.Test.YtkglnoimbekhhaaGreatKZd
import Derived.Test.YtkglnoimbekhhaaGreatKZb
namespace Go.Proofs.YtkglnoimbekhhaaGreat
set_option maxRecDepth 100000
set_option maxHeartbeats 4000000
open Go.ChangeShapes Go.WideShapes Go.ChangeAt Go.RowKit
set_option linter.unusedVariables false
set_option linter.unusedSimpArgs false
theorem binds_46 {W:World} {n:Int} {ta ra da:Option Addr} {tl tc rl rc dl dc:Nat} {dk dn dp:Int} {ds:ByteArray} {s types:List Ty} {sv:Value} (hs:RowC W s sv) (hT:RowC W types (.slice ta tl tc)) (hc:sFq s [0,0] = true) (hgd:s.all gYq = true) (hn:s.length <= 1000) :
 Calls Tryz.prog 83 #[insV 46 n ta tl tc ra rl rc dk dn dp ds da dl dc,sv] W (LPq (pFq (s.drop 2) [(.nd 11 [(tAq s 0),(tAq s 1)])]) W):=by
 obtain ⟨sa,sl,sc,e1⟩:=hs.form3
 subst e1
 unfold insV
 obtain ⟨hg3,hI3,hR3,hK3⟩:=start3 W (.cells #[.int .i64 46,.int .i64 n,.slice ta tl tc,.slice ra rl rc,.int .i64 dk,.int .i64 dn,.int .i64 dp,.string ds,.slice da dl dc] 115) (.cells #[.slice none 0 0,.bool false] 62) (.cells #[.int .i64 0,.int .i64 0] 3)
 have hs3:=hs.grow hg3
 have HST:=jh (sTq (ks:=[0,0]) (kc:=2) hs3 (kinds2 hK3) (by decide))
 rw [hc] at HST
 have hT3:=hT.grow hg3
 have hlen:2 <= s.length:=slq hc
 obtain ⟨hsl,hsc,_⟩:=hs3.len
 obtain ⟨b,o,t0,a0,l0,k0,rfl,x0a,x0b,hA0⟩:=hs3.at 0 (by omega)
 have HA0:=jh hA0
 obtain ⟨_,_,t1,a1,l1,k1,eb,x1a,x1b,hA1⟩:=hs3.at 1 (by omega)
 simp only [Option.some.injEq,Addr.mk.injEq,and_true] at eb
 obtain ⟨rfl,rfl⟩:=eb
 have HA1:=jh hA1
 have bz1:(1:Int) <= (sl:Int):=by omega
 have by0:0 < sl:=by omega
 have bz2:(2:Int) <= (sl:Int):=by omega
 have by1:(1:Int) < (sl:Int):=by omega
 have b1:(sl:Int) <= (sc:Int):=by omega
 have HSL:=jh hsl
 have HG3:=jh hg3
 have HI3:=jh hI3
 have HR3:=jh hR3
 have HS3:=jh hs3
 have HLEN:=jh hlen
 simp only [Nat.reduceMul,Nat.reduceAdd,Nat.add_zero,Nat.mul_zero,Nat.zero_add] at x0a x0b x1a x1b
 clear hg3 hI3 hR3 hs hs3 hT hT3 hsl hlen hgd hc hK3 hA0 hA1
 go_enter Tryz.func83,Tryz.ntmps83
 go_wp2_with fail
 refine HST.out.mono ?_;rintro e w1 ⟨rfl,rfl⟩
 clear HST
 generalize ((W.alloc _).alloc _).alloc _ = W3 at *
 obtain ⟨i0,i1,i2,i3,_⟩:=box9 HI3.out
 have yx0a:=fun (w':World) (h:W3.grownBy w' (some (W.heap.size + 1)))=>aI (kDq HR3.out h x0a x0a) (aI (kDq HR3.out h x0a x0b) (aI (kDq HR3.out h x1a x1a) (kDq HR3.out h x1a x1b)))
 have hS3:W3.grownBy W3 (some (W.heap.size + 1)):=gRf _ _
 rcases (show (sc = 2 /\ sl = 2) \/ (¬ sc = 2 /\ ¬ sc - 2 = 0) by omega) with ⟨rfl,rfl⟩ | ⟨hc2,hc3⟩
 have HD:=jh (HS3.out.dropAll 2 (by have:=HSL.out;omega) (some ⟨b,o,none⟩) 0)
 rotate_left
 have HD:=jh (HS3.out.drop 2 (by have:=HLEN.out;omega))
 all_goals
  go_wp2_with fail
  go_region_held3 (fun w'=>W3.grownBy w' (some (W.heap.size + 1))) (first | with_reducible assumption | with_reducible exact gDr (gRf _ _) | with_reducible exact grow_setR (by assumption) | with_reducible exact gTr (by assumption) (gAq (gBq _)) | with_reducible exact gDr (gAq (gBq _))) (first
   | (go_at_call 29;refine (of_any 11 _ _ _ _).mono ?_;rintro e w10 ⟨rfl,hg⟩;have HU0:=jh (LiesT.oq (t:=11) ⟨by decide,by decide⟩ (RowC.grow (RowC.two (heap_alloc_new W3 _) (HA0.out.same (sAl (gBq _))) (HA1.out.same (sAl (gBq _)))) (undrew hg)));have HG10:Hid (W3.grownBy w10 none):=gTq (gBq _) (undrew hg);have hS:W3.grownBy w10 (some (W.heap.size + 1)):=gAq HG10.out;clear hg)
   | (go_at_call 108;have hprev:=HG10.out;clear hprev;refine (pAq (HD.out.grow (gTq HG10.out (gBq _))) (RowC.one (heap_alloc_new w10 _) (HU0.out.same (sAl (gBq _)))) (by simp;omega)).mono ?_;rintro e w5 hp;obtain ⟨a5,l5,c5,f5,er5,rfl,hS5,q0,q1,q2,HB5,HL5⟩:=lFq hp HG3.out (gTq HG10.out (gBq _)) HR3.out;clear hp))
  go_wp2_with fail
  exact eLq (fun w z0 z1=>by simp [results,Tryz.results83,go_sem,z0,z1]) rfl HB5.out HL5.out
theorem binds_46n {W:World} {n:Int} {ta ra da:Option Addr} {tl tc rl rc dl dc:Nat} {dk dn dp:Int} {ds:ByteArray} {s types:List Ty} {sv:Value} (hs:RowC W s sv) (hT:RowC W types (.slice ta tl tc)) (hc:sFq s [0,0] = false) (hgd:s.all gYq = true) (hn:s.length <= 1000) :
 Calls Tryz.prog 83 #[insV 46 n ta tl tc ra rl rc dk dn dp ds da dl dc,sv] W (LPq (.no 5) W):=by
 obtain ⟨sa,sl,sc,e1⟩:=hs.form3
 subst e1
 unfold insV
 obtain ⟨hg3,hI3,hR3,hK3⟩:=start3 W (.cells #[.int .i64 46,.int .i64 n,.slice ta tl tc,.slice ra rl rc,.int .i64 dk,.int .i64 dn,.int .i64 dp,.string ds,.slice da dl dc] 115) (.cells #[.slice none 0 0,.bool false] 62) (.cells #[.int .i64 0,.int .i64 0] 3)
 have hs3:=hs.grow hg3
 have HST:=jh (sTq (ks:=[0,0]) (kc:=2) hs3 (kinds2 hK3) (by decide))
 rw [hc] at HST
 have hT3:=hT.grow hg3
 have hlen:0 <= s.length:=Nat.zero_le _
 obtain ⟨hsl,hsc,_⟩:=hs3.len
 have b1:(sl:Int) <= (sc:Int):=by omega
 have HSL:=jh hsl
 have HG3:=jh hg3
 have HI3:=jh hI3
 have HR3:=jh hR3
 have HS3:=jh hs3
 have HLEN:=jh hlen
 clear hg3 hI3 hR3 hs hs3 hT hT3 hsl hlen hgd hc hK3
 go_enter Tryz.func83,Tryz.ntmps83
 go_wp2_with fail
 refine HST.out.mono ?_;rintro e w1 ⟨rfl,rfl⟩
 clear HST
 generalize ((W.alloc _).alloc _).alloc _ = W3 at *
 obtain ⟨i0,i1,i2,i3,_⟩:=box9 HI3.out
 have hS3:W3.grownBy W3 (some (W.heap.size + 1)):=gRf _ _
 go_wp2_with fail
 refine (rLq 5 (by decide) _).mono ?_
 rintro e w5 hp
 obtain ⟨a5,l5,c5,f5,er5,rfl,hS5,q0,q1,q2,HB5,HL5⟩:=lFq hp HG3.out (gRf _ _) HR3.out
 clear hp
 go_wp2_with fail
 exact eLq (fun w z0 z1=>by simp [results,Tryz.results83,go_sem,z0,z1]) rfl HB5.out HL5.out
theorem binds_47 {W:World} {n:Int} {ta ra da:Option Addr} {tl tc rl rc dl dc:Nat} {dk dn dp:Int} {ds:ByteArray} {s types:List Ty} {sv:Value} (hs:RowC W s sv) (hT:RowC W types (.slice ta tl tc)) (hc:sFq s [11] = true) (hgd:s.all gYq = true) (hn:s.length <= 1000) :
 Calls Tryz.prog 83 #[insV 47 n ta tl tc ra rl rc dk dn dp ds da dl dc,sv] W (LPq (pFq (s.drop 1) (tAq s 0).args) W):=by
 obtain ⟨sa,sl,sc,e1⟩:=hs.form3
 subst e1
 unfold insV
 obtain ⟨hg3,hI3,hR3,hK3⟩:=start3 W (.cells #[.int .i64 47,.int .i64 n,.slice ta tl tc,.slice ra rl rc,.int .i64 dk,.int .i64 dn,.int .i64 dp,.string ds,.slice da dl dc] 115) (.cells #[.slice none 0 0,.bool false] 62) (.cells #[.int .i64 11] 3)
 have hs3:=hs.grow hg3
 have HST:=jh (sTq (ks:=[11]) (kc:=1) hs3 (kinds1 hK3) (by decide))
 rw [hc] at HST
 have hT3:=hT.grow hg3
 have hlen:1 <= s.length:=slq hc
 obtain ⟨hsl,hsc,_⟩:=hs3.len
 obtain ⟨b,o,t0,a0,l0,k0,rfl,x0a,x0b,hA0⟩:=hs3.at 0 (by omega)
 have HA0:=jh hA0
 have hq0:(tAq s 0).args.length = 2:=cAq hc hgd 0 11 2 rfl (by decide) (by decide)
 obtain ⟨_,hr0⟩:=hA0.args
 obtain ⟨el0,ec0,_⟩:=hr0.len
 rw [hq0] at el0 ec0
 subst el0
 have HQ0:=jh hr0
 have HQL:=jh hq0
 have bz1:(1:Int) <= (sl:Int):=by omega
 have by0:0 < sl:=by omega
 have b1:(sl:Int) <= (sc:Int):=by omega
 have HSL:=jh hsl
 have HG3:=jh hg3
 have HI3:=jh hI3
 have HR3:=jh hR3
 have HS3:=jh hs3
 have HLEN:=jh hlen
 simp only [Nat.reduceMul,Nat.reduceAdd,Nat.add_zero,Nat.mul_zero,Nat.zero_add] at x0a x0b
 clear hg3 hI3 hR3 hs hs3 hT hT3 hsl hlen hgd hc hK3 hA0 hr0 hq0
 go_enter Tryz.func83,Tryz.ntmps83
 go_wp2_with fail
 refine HST.out.mono ?_;rintro e w1 ⟨rfl,rfl⟩
 clear HST
 generalize ((W.alloc _).alloc _).alloc _ = W3 at *
 obtain ⟨i0,i1,i2,i3,_⟩:=box9 HI3.out
 have yx0a:=fun (w':World) (h:W3.grownBy w' (some (W.heap.size + 1)))=>aI (kDq HR3.out h x0a x0a) (kDq HR3.out h x0a x0b)
 have hS3:W3.grownBy W3 (some (W.heap.size + 1)):=gRf _ _
 rcases (show (sc = 1 /\ sl = 1) \/ (¬ sc = 1 /\ ¬ sc - 1 = 0) by omega) with ⟨rfl,rfl⟩ | ⟨hc2,hc3⟩
 have HD:=jh (HS3.out.dropAll 1 (by have:=HSL.out;omega) (some ⟨b,o,none⟩) 0)
 rotate_left
 have HD:=jh (HS3.out.drop 1 (by have:=HLEN.out;omega))
 all_goals
  go_wp2_with fail
  go_region_held3 (fun w'=>W3.grownBy w' (some (W.heap.size + 1))) (first | with_reducible assumption | with_reducible exact gDr (gRf _ _) | with_reducible exact grow_setR (by assumption) | with_reducible exact gTr (by assumption) (gAq (gBq _)) | with_reducible exact gDr (gAq (gBq _))) (first
   | (go_at_call 108;refine (pAq (HD.out.grow (gDr (gRf _ _))) (HQ0.out.grow (gDr (gRf _ _))) (by rw [List.length_drop];have:=HQL.out;omega)).mono ?_;rintro e w5 hp;obtain ⟨a5,l5,c5,f5,er5,rfl,hS5,q0,q1,q2,HB5,HL5⟩:=lFq hp HG3.out (gDr (gRf _ _)) HR3.out;clear hp))
  go_wp2_with fail
  exact eLq (fun w z0 z1=>by simp [results,Tryz.results83,go_sem,z0,z1]) rfl HB5.out HL5.out
theorem binds_47n {W:World} {n:Int} {ta ra da:Option Addr} {tl tc rl rc dl dc:Nat} {dk dn dp:Int} {ds:ByteArray} {s types:List Ty} {sv:Value} (hs:RowC W s sv) (hT:RowC W types (.slice ta tl tc)) (hc:sFq s [11] = false) (hgd:s.all gYq = true) (hn:s.length <= 1000) :
 Calls Tryz.prog 83 #[insV 47 n ta tl tc ra rl rc dk dn dp ds da dl dc,sv] W (LPq (.no 5) W):=by
 obtain ⟨sa,sl,sc,e1⟩:=hs.form3
 subst e1
 unfold insV
 obtain ⟨hg3,hI3,hR3,hK3⟩:=start3 W (.cells #[.int .i64 47,.int .i64 n,.slice ta tl tc,.slice ra rl rc,.int .i64 dk,.int .i64 dn,.int .i64 dp,.string ds,.slice da dl dc] 115) (.cells #[.slice none 0 0,.bool false] 62) (.cells #[.int .i64 11] 3)
 have hs3:=hs.grow hg3
 have HST:=jh (sTq (ks:=[11]) (kc:=1) hs3 (kinds1 hK3) (by decide))
 rw [hc] at HST
 have hT3:=hT.grow hg3
 have hlen:0 <= s.length:=Nat.zero_le _
 obtain ⟨hsl,hsc,_⟩:=hs3.len
 have b1:(sl:Int) <= (sc:Int):=by omega
 have HSL:=jh hsl
 have HG3:=jh hg3
 have HI3:=jh hI3
 have HR3:=jh hR3
 have HS3:=jh hs3
 have HLEN:=jh hlen
 clear hg3 hI3 hR3 hs hs3 hT hT3 hsl hlen hgd hc hK3
 go_enter Tryz.func83,Tryz.ntmps83
 go_wp2_with fail
 refine HST.out.mono ?_;rintro e w1 ⟨rfl,rfl⟩
 clear HST
 generalize ((W.alloc _).alloc _).alloc _ = W3 at *
 obtain ⟨i0,i1,i2,i3,_⟩:=box9 HI3.out
 have hS3:W3.grownBy W3 (some (W.heap.size + 1)):=gRf _ _
 go_wp2_with fail
 refine (rLq 5 (by decide) _).mono ?_
 rintro e w5 hp
 obtain ⟨a5,l5,c5,f5,er5,rfl,hS5,q0,q1,q2,HB5,HL5⟩:=lFq hp HG3.out (gRf _ _) HR3.out
 clear hp
 go_wp2_with fail
 exact eLq (fun w z0 z1=>by simp [results,Tryz.results83,go_sem,z0,z1]) rfl HB5.out HL5.out
theorem binds_48 {W:World} {n:Int} {ta ra da:Option Addr} {tl tc rl rc dl dc:Nat} {dk dn dp:Int} {ds:ByteArray} {s types:List Ty} {sv:Value} (hs:RowC W s sv) (hT:RowC W types (.slice ta tl tc)) (hc:sFq s [11] = true) (hgd:s.all gYq = true) (hn:s.length <= 1000) :
 Calls Tryz.prog 83 #[insV 48 n ta tl tc ra rl rc dk dn dp ds da dl dc,sv] W (LPq (pFq (s.drop 1) [(tAq (tAq s 0).args 0)]) W):=by
 obtain ⟨sa,sl,sc,e1⟩:=hs.form3
 subst e1
 unfold insV
 obtain ⟨hg3,hI3,hR3,hK3⟩:=start3 W (.cells #[.int .i64 48,.int .i64 n,.slice ta tl tc,.slice ra rl rc,.int .i64 dk,.int .i64 dn,.int .i64 dp,.string ds,.slice da dl dc] 115) (.cells #[.slice none 0 0,.bool false] 62) (.cells #[.int .i64 11] 3)
 have hs3:=hs.grow hg3
 have HST:=jh (sTq (ks:=[11]) (kc:=1) hs3 (kinds1 hK3) (by decide))
 rw [hc] at HST
 have hT3:=hT.grow hg3
 have hlen:1 <= s.length:=slq hc
 obtain ⟨hsl,hsc,_⟩:=hs3.len
 obtain ⟨b,o,t0,a0,l0,k0,rfl,x0a,x0b,hA0⟩:=hs3.at 0 (by omega)
 have HA0:=jh hA0
 have hq0:(tAq s 0).args.length = 2:=cAq hc hgd 0 11 2 rfl (by decide) (by decide)
 obtain ⟨_,hr0⟩:=hA0.args
 obtain ⟨el0,ec0,_⟩:=hr0.len
 rw [hq0] at el0 ec0
 subst el0
 have HQ0:=jh hr0
 have HQL:=jh hq0
 obtain ⟨nb0,no0,t00,a00,l00,k00,rfl,x00a,x00b,hA00⟩:=hr0.at 0 (by omega)
 have HA00:=jh hA00
 have bz1:(1:Int) <= (sl:Int):=by omega
 have by0:0 < sl:=by omega
 have b1:(sl:Int) <= (sc:Int):=by omega
 have HSL:=jh hsl
 have HG3:=jh hg3
 have HI3:=jh hI3
 have HR3:=jh hR3
 have HS3:=jh hs3
 have HLEN:=jh hlen
 simp only [Nat.reduceMul,Nat.reduceAdd,Nat.add_zero,Nat.mul_zero,Nat.zero_add] at x0a x0b x00a x00b
 clear hg3 hI3 hR3 hs hs3 hT hT3 hsl hlen hgd hc hK3 hA0 hr0 hq0 hA00
 go_enter Tryz.func83,Tryz.ntmps83
 go_wp2_with fail
 refine HST.out.mono ?_;rintro e w1 ⟨rfl,rfl⟩
 clear HST
 generalize ((W.alloc _).alloc _).alloc _ = W3 at *
 obtain ⟨i0,i1,i2,i3,_⟩:=box9 HI3.out
 have yx0a:=fun (w':World) (h:W3.grownBy w' (some (W.heap.size + 1)))=>aI (kDq HR3.out h x0a x0a) (aI (kDq HR3.out h x0a x0b) (aI (kDq HR3.out h x00a x00a) (kDq HR3.out h x00a x00b)))
 have hS3:W3.grownBy W3 (some (W.heap.size + 1)):=gRf _ _
 rcases (show (sc = 1 /\ sl = 1) \/ (¬ sc = 1 /\ ¬ sc - 1 = 0) by omega) with ⟨rfl,rfl⟩ | ⟨hc2,hc3⟩
 have HD:=jh (HS3.out.dropAll 1 (by have:=HSL.out;omega) (some ⟨b,o,none⟩) 0)
 rotate_left
 have HD:=jh (HS3.out.drop 1 (by have:=HLEN.out;omega))
 all_goals
  go_wp2_with fail
  go_region_held3 (fun w'=>W3.grownBy w' (some (W.heap.size + 1))) (first | with_reducible assumption | with_reducible exact gDr (gRf _ _) | with_reducible exact grow_setR (by assumption) | with_reducible exact gTr (by assumption) (gAq (gBq _)) | with_reducible exact gDr (gAq (gBq _))) (first
   | (go_at_call 108;refine (pAq (HD.out.grow (gDr (gBq _))) (RowC.dr (RowC.one (heap_alloc_new W3 _) (HA00.out.same (sAl (gBq _))))) (by simp;omega)).mono ?_;rintro e w5 hp;obtain ⟨a5,l5,c5,f5,er5,rfl,hS5,q0,q1,q2,HB5,HL5⟩:=lFq hp HG3.out (gDr (gBq _)) HR3.out;clear hp))
  go_wp2_with fail
  exact eLq (fun w z0 z1=>by simp [results,Tryz.results83,go_sem,z0,z1]) rfl HB5.out HL5.out
theorem binds_48n {W:World} {n:Int} {ta ra da:Option Addr} {tl tc rl rc dl dc:Nat} {dk dn dp:Int} {ds:ByteArray} {s types:List Ty} {sv:Value} (hs:RowC W s sv) (hT:RowC W types (.slice ta tl tc)) (hc:sFq s [11] = false) (hgd:s.all gYq = true) (hn:s.length <= 1000) :
 Calls Tryz.prog 83 #[insV 48 n ta tl tc ra rl rc dk dn dp ds da dl dc,sv] W (LPq (.no 5) W):=by
 obtain ⟨sa,sl,sc,e1⟩:=hs.form3
 subst e1
 unfold insV
 obtain ⟨hg3,hI3,hR3,hK3⟩:=start3 W (.cells #[.int .i64 48,.int .i64 n,.slice ta tl tc,.slice ra rl rc,.int .i64 dk,.int .i64 dn,.int .i64 dp,.string ds,.slice da dl dc] 115) (.cells #[.slice none 0 0,.bool false] 62) (.cells #[.int .i64 11] 3)
 have hs3:=hs.grow hg3
 have HST:=jh (sTq (ks:=[11]) (kc:=1) hs3 (kinds1 hK3) (by decide))
 rw [hc] at HST
 have hT3:=hT.grow hg3
 have hlen:0 <= s.length:=Nat.zero_le _
 obtain ⟨hsl,hsc,_⟩:=hs3.len
 have b1:(sl:Int) <= (sc:Int):=by omega
 have HSL:=jh hsl
 have HG3:=jh hg3
 have HI3:=jh hI3
 have HR3:=jh hR3
 have HS3:=jh hs3
 have HLEN:=jh hlen
 clear hg3 hI3 hR3 hs hs3 hT hT3 hsl hlen hgd hc hK3
 go_enter Tryz.func83,Tryz.ntmps83
 go_wp2_with fail
 refine HST.out.mono ?_;rintro e w1 ⟨rfl,rfl⟩
 clear HST
 generalize ((W.alloc _).alloc _).alloc _ = W3 at *
 obtain ⟨i0,i1,i2,i3,_⟩:=box9 HI3.out
 have hS3:W3.grownBy W3 (some (W.heap.size + 1)):=gRf _ _
 go_wp2_with fail
 refine (rLq 5 (by decide) _).mono ?_
 rintro e w5 hp
 obtain ⟨a5,l5,c5,f5,er5,rfl,hS5,q0,q1,q2,HB5,HL5⟩:=lFq hp HG3.out (gRf _ _) HR3.out
 clear hp
 go_wp2_with fail
 exact eLq (fun w z0 z1=>by simp [results,Tryz.results83,go_sem,z0,z1]) rfl HB5.out HL5.out
theorem binds_49 {W:World} {n:Int} {ta ra da:Option Addr} {tl tc rl rc dl dc:Nat} {dk dn dp:Int} {ds:ByteArray} {s types:List Ty} {sv:Value} (hs:RowC W s sv) (hT:RowC W types (.slice ta tl tc)) (hc:sFq s [11] = true) (hgd:s.all gYq = true) (hn:s.length <= 1000) :
 Calls Tryz.prog 83 #[insV 49 n ta tl tc ra rl rc dk dn dp ds da dl dc,sv] W (LPq (pFq (s.drop 1) [(tAq (tAq s 0).args 1)]) W):=by
 obtain ⟨sa,sl,sc,e1⟩:=hs.form3
 subst e1
 unfold insV
 obtain ⟨hg3,hI3,hR3,hK3⟩:=start3 W (.cells #[.int .i64 49,.int .i64 n,.slice ta tl tc,.slice ra rl rc,.int .i64 dk,.int .i64 dn,.int .i64 dp,.string ds,.slice da dl dc] 115) (.cells #[.slice none 0 0,.bool false] 62) (.cells #[.int .i64 11] 3)
 have hs3:=hs.grow hg3
 have HST:=jh (sTq (ks:=[11]) (kc:=1) hs3 (kinds1 hK3) (by decide))
 rw [hc] at HST
 have hT3:=hT.grow hg3
 have hlen:1 <= s.length:=slq hc
 obtain ⟨hsl,hsc,_⟩:=hs3.len
 obtain ⟨b,o,t0,a0,l0,k0,rfl,x0a,x0b,hA0⟩:=hs3.at 0 (by omega)
 have HA0:=jh hA0
 have hq0:(tAq s 0).args.length = 2:=cAq hc hgd 0 11 2 rfl (by decide) (by decide)
 obtain ⟨_,hr0⟩:=hA0.args
 obtain ⟨el0,ec0,_⟩:=hr0.len
 rw [hq0] at el0 ec0
 subst el0
 have HQ0:=jh hr0
 have HQL:=jh hq0
 obtain ⟨nb0,no0,t01,a01,l01,k01,rfl,x01a,x01b,hA01⟩:=hr0.at 1 (by omega)
 have HA01:=jh hA01
 have bz1:(1:Int) <= (sl:Int):=by omega
 have by0:0 < sl:=by omega
 have b1:(sl:Int) <= (sc:Int):=by omega
 have HSL:=jh hsl
 have HG3:=jh hg3
 have HI3:=jh hI3
 have HR3:=jh hR3
 have HS3:=jh hs3
 have HLEN:=jh hlen
 simp only [Nat.reduceMul,Nat.reduceAdd,Nat.add_zero,Nat.mul_zero,Nat.zero_add] at x0a x0b x01a x01b
 clear hg3 hI3 hR3 hs hs3 hT hT3 hsl hlen hgd hc hK3 hA0 hr0 hq0 hA01
 go_enter Tryz.func83,Tryz.ntmps83
 go_wp2_with fail
 refine HST.out.mono ?_;rintro e w1 ⟨rfl,rfl⟩
 clear HST
 generalize ((W.alloc _).alloc _).alloc _ = W3 at *
 obtain ⟨i0,i1,i2,i3,_⟩:=box9 HI3.out
 have yx0a:=fun (w':World) (h:W3.grownBy w' (some (W.heap.size + 1)))=>aI (kDq HR3.out h x0a x0a) (aI (kDq HR3.out h x0a x0b) (aI (kDq HR3.out h x01a x01a) (kDq HR3.out h x01a x01b)))
 have hS3:W3.grownBy W3 (some (W.heap.size + 1)):=gRf _ _
 rcases (show (sc = 1 /\ sl = 1) \/ (¬ sc = 1 /\ ¬ sc - 1 = 0) by omega) with ⟨rfl,rfl⟩ | ⟨hc2,hc3⟩
 have HD:=jh (HS3.out.dropAll 1 (by have:=HSL.out;omega) (some ⟨b,o,none⟩) 0)
 rotate_left
 have HD:=jh (HS3.out.drop 1 (by have:=HLEN.out;omega))
 all_goals
  go_wp2_with fail
  go_region_held3 (fun w'=>W3.grownBy w' (some (W.heap.size + 1))) (first | with_reducible assumption | with_reducible exact gDr (gRf _ _) | with_reducible exact grow_setR (by assumption) | with_reducible exact gTr (by assumption) (gAq (gBq _)) | with_reducible exact gDr (gAq (gBq _))) (first
   | (go_at_call 108;refine (pAq (HD.out.grow (gDr (gBq _))) (RowC.dr (RowC.one (heap_alloc_new W3 _) (HA01.out.same (sAl (gBq _))))) (by simp;omega)).mono ?_;rintro e w5 hp;obtain ⟨a5,l5,c5,f5,er5,rfl,hS5,q0,q1,q2,HB5,HL5⟩:=lFq hp HG3.out (gDr (gBq _)) HR3.out;clear hp))
  go_wp2_with fail
  exact eLq (fun w z0 z1=>by simp [results,Tryz.results83,go_sem,z0,z1]) rfl HB5.out HL5.out
theorem binds_49n {W:World} {n:Int} {ta ra da:Option Addr} {tl tc rl rc dl dc:Nat} {dk dn dp:Int} {ds:ByteArray} {s types:List Ty} {sv:Value} (hs:RowC W s sv) (hT:RowC W types (.slice ta tl tc)) (hc:sFq s [11] = false) (hgd:s.all gYq = true) (hn:s.length <= 1000) :
 Calls Tryz.prog 83 #[insV 49 n ta tl tc ra rl rc dk dn dp ds da dl dc,sv] W (LPq (.no 5) W):=by
 obtain ⟨sa,sl,sc,e1⟩:=hs.form3
 subst e1
 unfold insV
 obtain ⟨hg3,hI3,hR3,hK3⟩:=start3 W (.cells #[.int .i64 49,.int .i64 n,.slice ta tl tc,.slice ra rl rc,.int .i64 dk,.int .i64 dn,.int .i64 dp,.string ds,.slice da dl dc] 115) (.cells #[.slice none 0 0,.bool false] 62) (.cells #[.int .i64 11] 3)
 have hs3:=hs.grow hg3
 have HST:=jh (sTq (ks:=[11]) (kc:=1) hs3 (kinds1 hK3) (by decide))
 rw [hc] at HST
 have hT3:=hT.grow hg3
 have hlen:0 <= s.length:=Nat.zero_le _
 obtain ⟨hsl,hsc,_⟩:=hs3.len
 have b1:(sl:Int) <= (sc:Int):=by omega
 have HSL:=jh hsl
 have HG3:=jh hg3
 have HI3:=jh hI3
 have HR3:=jh hR3
 have HS3:=jh hs3
 have HLEN:=jh hlen
 clear hg3 hI3 hR3 hs hs3 hT hT3 hsl hlen hgd hc hK3
 go_enter Tryz.func83,Tryz.ntmps83
 go_wp2_with fail
 refine HST.out.mono ?_;rintro e w1 ⟨rfl,rfl⟩
 clear HST
 generalize ((W.alloc _).alloc _).alloc _ = W3 at *
 obtain ⟨i0,i1,i2,i3,_⟩:=box9 HI3.out
 have hS3:W3.grownBy W3 (some (W.heap.size + 1)):=gRf _ _
 go_wp2_with fail
 refine (rLq 5 (by decide) _).mono ?_
 rintro e w5 hp
 obtain ⟨a5,l5,c5,f5,er5,rfl,hS5,q0,q1,q2,HB5,HL5⟩:=lFq hp HG3.out (gRf _ _) HR3.out
 clear hp
 go_wp2_with fail
 exact eLq (fun w z0 z1=>by simp [results,Tryz.results83,go_sem,z0,z1]) rfl HB5.out HL5.out
theorem binds_50 {W:World} {n:Int} {ta ra da:Option Addr} {tl tc rl rc dl dc:Nat} {dk dn dp:Int} {ds:ByteArray} {s types:List Ty} {sv:Value} (hs:RowC W s sv) (hT:RowC W types (.slice ta tl tc)) (hc:sFq s [0] = true) (htl:types.length = 1) (hgd:s.all gYq = true) (hn:s.length <= 1000) :
 Calls Tryz.prog 83 #[insV 50 n ta tl tc ra rl rc dk dn dp ds da dl dc,sv] W (LPq (pFq (s.drop 1) [(.nd 12 [(tAq s 0),(tAq types 0)])]) W):=by
 obtain ⟨sa,sl,sc,e1⟩:=hs.form3
 subst e1
 unfold insV
 obtain ⟨hg3,hI3,hR3,hK3⟩:=start3 W (.cells #[.int .i64 50,.int .i64 n,.slice ta tl tc,.slice ra rl rc,.int .i64 dk,.int .i64 dn,.int .i64 dp,.string ds,.slice da dl dc] 115) (.cells #[.slice none 0 0,.bool false] 62) (.cells #[.int .i64 0] 3)
 have hs3:=hs.grow hg3
 have HST:=jh (sTq (ks:=[0]) (kc:=1) hs3 (kinds1 hK3) (by decide))
 rw [hc] at HST
 have hT3:=hT.grow hg3
 have hlen:1 <= s.length:=slq hc
 obtain ⟨hsl,hsc,_⟩:=hs3.len
 obtain ⟨b,o,t0,a0,l0,k0,rfl,x0a,x0b,hA0⟩:=hs3.at 0 (by omega)
 have HA0:=jh hA0
 obtain ⟨et,ect,_⟩:=hT3.len
 rw [htl] at et ect
 subst et
 have HTY:=jh hT3
 obtain ⟨bt,ot,ty0,ay0,ly0,ky0,rfl,xy0a,xy0b,hAy0⟩:=hT3.at 0 (by omega)
 have HAy0:=jh hAy0
 have bz1:(1:Int) <= (sl:Int):=by omega
 have by0:0 < sl:=by omega
 have b1:(sl:Int) <= (sc:Int):=by omega
 have HSL:=jh hsl
 have HG3:=jh hg3
 have HI3:=jh hI3
 have HR3:=jh hR3
 have HS3:=jh hs3
 have HLEN:=jh hlen
 simp only [Nat.reduceMul,Nat.reduceAdd,Nat.add_zero,Nat.mul_zero,Nat.zero_add] at x0a x0b xy0a xy0b
 clear hg3 hI3 hR3 hs hs3 hT hT3 hsl hlen hgd hc hK3 htl hA0 hAy0
 go_enter Tryz.func83,Tryz.ntmps83
 go_wp2_with fail
 refine HST.out.mono ?_;rintro e w1 ⟨rfl,rfl⟩
 clear HST
 generalize ((W.alloc _).alloc _).alloc _ = W3 at *
 obtain ⟨i0,i1,i2,i3,_⟩:=box9 HI3.out
 have yx0a:=fun (w':World) (h:W3.grownBy w' (some (W.heap.size + 1)))=>aI (kDq HR3.out h x0a x0a) (aI (kDq HR3.out h x0a x0b) (aI (kDq HR3.out h xy0a xy0a) (aI (kDq HR3.out h xy0a xy0b) ((box9 (keepI HI3.out h)).2.2.1))))
 have hS3:W3.grownBy W3 (some (W.heap.size + 1)):=gRf _ _
 rcases (show (sc = 1 /\ sl = 1) \/ (¬ sc = 1 /\ ¬ sc - 1 = 0) by omega) with ⟨rfl,rfl⟩ | ⟨hc2,hc3⟩
 have HD:=jh (HS3.out.dropAll 1 (by have:=HSL.out;omega) (some ⟨b,o,none⟩) 0)
 rotate_left
 have HD:=jh (HS3.out.drop 1 (by have:=HLEN.out;omega))
 all_goals
  go_wp2_with fail
  go_region_held3 (fun w'=>W3.grownBy w' (some (W.heap.size + 1))) (first | with_reducible assumption | with_reducible exact gDr (gRf _ _) | with_reducible exact grow_setR (by assumption) | with_reducible exact gTr (by assumption) (gAq (gBq _)) | with_reducible exact gDr (gAq (gBq _))) (first
   | (go_at_call 29;refine (of_any 12 _ _ _ _).mono ?_;rintro e w10 ⟨rfl,hg⟩;have HU0:=jh (LiesT.oq (t:=12) ⟨by decide,by decide⟩ (RowC.grow (RowC.two (heap_alloc_new W3 _) (HA0.out.same (sAl (gBq _))) (HAy0.out.same (sAl (gBq _)))) (undrew hg)));have HG10:Hid (W3.grownBy w10 none):=gTq (gBq _) (undrew hg);have hS:W3.grownBy w10 (some (W.heap.size + 1)):=gAq HG10.out;clear hg)
   | (go_at_call 108;have hprev:=HG10.out;clear hprev;refine (pAq (HD.out.grow (gTq HG10.out (gBq _))) (RowC.one (heap_alloc_new w10 _) (HU0.out.same (sAl (gBq _)))) (by simp;omega)).mono ?_;rintro e w5 hp;obtain ⟨a5,l5,c5,f5,er5,rfl,hS5,q0,q1,q2,HB5,HL5⟩:=lFq hp HG3.out (gTq HG10.out (gBq _)) HR3.out;clear hp))
  go_wp2_with fail
  exact eLq (fun w z0 z1=>by simp [results,Tryz.results83,go_sem,z0,z1]) rfl HB5.out HL5.out
theorem binds_50n {W:World} {n:Int} {ta ra da:Option Addr} {tl tc rl rc dl dc:Nat} {dk dn dp:Int} {ds:ByteArray} {s types:List Ty} {sv:Value} (hs:RowC W s sv) (hT:RowC W types (.slice ta tl tc)) (hc:sFq s [0] = false) (hgd:s.all gYq = true) (hn:s.length <= 1000) :
 Calls Tryz.prog 83 #[insV 50 n ta tl tc ra rl rc dk dn dp ds da dl dc,sv] W (LPq (.no 5) W):=by
 obtain ⟨sa,sl,sc,e1⟩:=hs.form3
 subst e1
 unfold insV
 obtain ⟨hg3,hI3,hR3,hK3⟩:=start3 W (.cells #[.int .i64 50,.int .i64 n,.slice ta tl tc,.slice ra rl rc,.int .i64 dk,.int .i64 dn,.int .i64 dp,.string ds,.slice da dl dc] 115) (.cells #[.slice none 0 0,.bool false] 62) (.cells #[.int .i64 0] 3)
 have hs3:=hs.grow hg3
 have HST:=jh (sTq (ks:=[0]) (kc:=1) hs3 (kinds1 hK3) (by decide))
 rw [hc] at HST
 have hT3:=hT.grow hg3
 have hlen:0 <= s.length:=Nat.zero_le _
 obtain ⟨hsl,hsc,_⟩:=hs3.len
 have b1:(sl:Int) <= (sc:Int):=by omega
 have HSL:=jh hsl
 have HG3:=jh hg3
 have HI3:=jh hI3
 have HR3:=jh hR3
 have HS3:=jh hs3
 have HLEN:=jh hlen
 clear hg3 hI3 hR3 hs hs3 hT hT3 hsl hlen hgd hc hK3
 go_enter Tryz.func83,Tryz.ntmps83
 go_wp2_with fail
 refine HST.out.mono ?_;rintro e w1 ⟨rfl,rfl⟩
 clear HST
 generalize ((W.alloc _).alloc _).alloc _ = W3 at *
 obtain ⟨i0,i1,i2,i3,_⟩:=box9 HI3.out
 have hS3:W3.grownBy W3 (some (W.heap.size + 1)):=gRf _ _
 go_wp2_with fail
 refine (rLq 5 (by decide) _).mono ?_
 rintro e w5 hp
 obtain ⟨a5,l5,c5,f5,er5,rfl,hS5,q0,q1,q2,HB5,HL5⟩:=lFq hp HG3.out (gRf _ _) HR3.out
 clear hp
 go_wp2_with fail
 exact eLq (fun w z0 z1=>by simp [results,Tryz.results83,go_sem,z0,z1]) rfl HB5.out HL5.out
theorem binds_51 {W:World} {n:Int} {ta ra da:Option Addr} {tl tc rl rc dl dc:Nat} {dk dn dp:Int} {ds:ByteArray} {s types:List Ty} {sv:Value} (hs:RowC W s sv) (hT:RowC W types (.slice ta tl tc)) (hc:sFq s [0] = true) (htl:types.length = 1) (hgd:s.all gYq = true) (hn:s.length <= 1000) :
 Calls Tryz.prog 83 #[insV 51 n ta tl tc ra rl rc dk dn dp ds da dl dc,sv] W (LPq (pFq (s.drop 1) [(.nd 12 [(tAq types 0),(tAq s 0)])]) W):=by
 obtain ⟨sa,sl,sc,e1⟩:=hs.form3
 subst e1
 unfold insV
 obtain ⟨hg3,hI3,hR3,hK3⟩:=start3 W (.cells #[.int .i64 51,.int .i64 n,.slice ta tl tc,.slice ra rl rc,.int .i64 dk,.int .i64 dn,.int .i64 dp,.string ds,.slice da dl dc] 115) (.cells #[.slice none 0 0,.bool false] 62) (.cells #[.int .i64 0] 3)
 have hs3:=hs.grow hg3
 have HST:=jh (sTq (ks:=[0]) (kc:=1) hs3 (kinds1 hK3) (by decide))
 rw [hc] at HST
 have hT3:=hT.grow hg3
 have hlen:1 <= s.length:=slq hc
 obtain ⟨hsl,hsc,_⟩:=hs3.len
 obtain ⟨b,o,t0,a0,l0,k0,rfl,x0a,x0b,hA0⟩:=hs3.at 0 (by omega)
 have HA0:=jh hA0
 obtain ⟨et,ect,_⟩:=hT3.len
 rw [htl] at et ect
 subst et
 have HTY:=jh hT3
 obtain ⟨bt,ot,ty0,ay0,ly0,ky0,rfl,xy0a,xy0b,hAy0⟩:=hT3.at 0 (by omega)
 have HAy0:=jh hAy0
 have bz1:(1:Int) <= (sl:Int):=by omega
 have by0:0 < sl:=by omega
 have b1:(sl:Int) <= (sc:Int):=by omega
 have HSL:=jh hsl
 have HG3:=jh hg3
 have HI3:=jh hI3
 have HR3:=jh hR3
 have HS3:=jh hs3
 have HLEN:=jh hlen
 simp only [Nat.reduceMul,Nat.reduceAdd,Nat.add_zero,Nat.mul_zero,Nat.zero_add] at x0a x0b xy0a xy0b
 clear hg3 hI3 hR3 hs hs3 hT hT3 hsl hlen hgd hc hK3 htl hA0 hAy0
 go_enter Tryz.func83,Tryz.ntmps83
 go_wp2_with fail
 refine HST.out.mono ?_;rintro e w1 ⟨rfl,rfl⟩
 clear HST
 generalize ((W.alloc _).alloc _).alloc _ = W3 at *
 obtain ⟨i0,i1,i2,i3,_⟩:=box9 HI3.out
 have yx0a:=fun (w':World) (h:W3.grownBy w' (some (W.heap.size + 1)))=>aI (kDq HR3.out h x0a x0a) (aI (kDq HR3.out h x0a x0b) (aI (kDq HR3.out h xy0a xy0a) (aI (kDq HR3.out h xy0a xy0b) ((box9 (keepI HI3.out h)).2.2.1))))
 have hS3:W3.grownBy W3 (some (W.heap.size + 1)):=gRf _ _
 rcases (show (sc = 1 /\ sl = 1) \/ (¬ sc = 1 /\ ¬ sc - 1 = 0) by omega) with ⟨rfl,rfl⟩ | ⟨hc2,hc3⟩
 have HD:=jh (HS3.out.dropAll 1 (by have:=HSL.out;omega) (some ⟨b,o,none⟩) 0)
 rotate_left
 have HD:=jh (HS3.out.drop 1 (by have:=HLEN.out;omega))
 all_goals
  go_wp2_with fail
  go_region_held3 (fun w'=>W3.grownBy w' (some (W.heap.size + 1))) (first | with_reducible assumption | with_reducible exact gDr (gRf _ _) | with_reducible exact grow_setR (by assumption) | with_reducible exact gTr (by assumption) (gAq (gBq _)) | with_reducible exact gDr (gAq (gBq _))) (first
   | (go_at_call 29;refine (of_any 12 _ _ _ _).mono ?_;rintro e w10 ⟨rfl,hg⟩;have HU0:=jh (LiesT.oq (t:=12) ⟨by decide,by decide⟩ (RowC.grow (RowC.two (heap_alloc_new W3 _) (HAy0.out.same (sAl (gBq _))) (HA0.out.same (sAl (gBq _)))) (undrew hg)));have HG10:Hid (W3.grownBy w10 none):=gTq (gBq _) (undrew hg);have hS:W3.grownBy w10 (some (W.heap.size + 1)):=gAq HG10.out;clear hg)
   | (go_at_call 108;have hprev:=HG10.out;clear hprev;refine (pAq (HD.out.grow (gTq HG10.out (gBq _))) (RowC.one (heap_alloc_new w10 _) (HU0.out.same (sAl (gBq _)))) (by simp;omega)).mono ?_;rintro e w5 hp;obtain ⟨a5,l5,c5,f5,er5,rfl,hS5,q0,q1,q2,HB5,HL5⟩:=lFq hp HG3.out (gTq HG10.out (gBq _)) HR3.out;clear hp))
  go_wp2_with fail
  exact eLq (fun w z0 z1=>by simp [results,Tryz.results83,go_sem,z0,z1]) rfl HB5.out HL5.out
theorem binds_51n {W:World} {n:Int} {ta ra da:Option Addr} {tl tc rl rc dl dc:Nat} {dk dn dp:Int} {ds:ByteArray} {s types:List Ty} {sv:Value} (hs:RowC W s sv) (hT:RowC W types (.slice ta tl tc)) (hc:sFq s [0] = false) (hgd:s.all gYq = true) (hn:s.length <= 1000) :
 Calls Tryz.prog 83 #[insV 51 n ta tl tc ra rl rc dk dn dp ds da dl dc,sv] W (LPq (.no 5) W):=by
 obtain ⟨sa,sl,sc,e1⟩:=hs.form3
 subst e1
 unfold insV
 obtain ⟨hg3,hI3,hR3,hK3⟩:=start3 W (.cells #[.int .i64 51,.int .i64 n,.slice ta tl tc,.slice ra rl rc,.int .i64 dk,.int .i64 dn,.int .i64 dp,.string ds,.slice da dl dc] 115) (.cells #[.slice none 0 0,.bool false] 62) (.cells #[.int .i64 0] 3)
 have hs3:=hs.grow hg3
 have HST:=jh (sTq (ks:=[0]) (kc:=1) hs3 (kinds1 hK3) (by decide))
 rw [hc] at HST
 have hT3:=hT.grow hg3
 have hlen:0 <= s.length:=Nat.zero_le _
 obtain ⟨hsl,hsc,_⟩:=hs3.len
 have b1:(sl:Int) <= (sc:Int):=by omega
 have HSL:=jh hsl
 have HG3:=jh hg3
 have HI3:=jh hI3
 have HR3:=jh hR3
 have HS3:=jh hs3
 have HLEN:=jh hlen
 clear hg3 hI3 hR3 hs hs3 hT hT3 hsl hlen hgd hc hK3
 go_enter Tryz.func83,Tryz.ntmps83
 go_wp2_with fail
 refine HST.out.mono ?_;rintro e w1 ⟨rfl,rfl⟩
 clear HST
 generalize ((W.alloc _).alloc _).alloc _ = W3 at *
 obtain ⟨i0,i1,i2,i3,_⟩:=box9 HI3.out
 have hS3:W3.grownBy W3 (some (W.heap.size + 1)):=gRf _ _
 go_wp2_with fail
 refine (rLq 5 (by decide) _).mono ?_
 rintro e w5 hp
 obtain ⟨a5,l5,c5,f5,er5,rfl,hS5,q0,q1,q2,HB5,HL5⟩:=lFq hp HG3.out (gRf _ _) HR3.out
 clear hp
 go_wp2_with fail
 exact eLq (fun w z0 z1=>by simp [results,Tryz.results83,go_sem,z0,z1]) rfl HB5.out HL5.out
theorem binds_53 {W:World} {n:Int} {ta ra da:Option Addr} {tl tc rl rc dl dc:Nat} {dk dn dp:Int} {ds:ByteArray} {s types:List Ty} {sv:Value} (hs:RowC W s sv) (hT:RowC W types (.slice ta tl tc)) (hc:sFq s [0] = true) (hgd:s.all gYq = true) (hn:s.length <= 1000) :
 Calls Tryz.prog 83 #[insV 53 n ta tl tc ra rl rc dk dn dp ds da dl dc,sv] W (LPq (pFq (s.drop 1) [(.nd 9 [(tAq s 0)])]) W):=by
 obtain ⟨sa,sl,sc,e1⟩:=hs.form3
 subst e1
 unfold insV
 obtain ⟨hg3,hI3,hR3,hK3⟩:=start3 W (.cells #[.int .i64 53,.int .i64 n,.slice ta tl tc,.slice ra rl rc,.int .i64 dk,.int .i64 dn,.int .i64 dp,.string ds,.slice da dl dc] 115) (.cells #[.slice none 0 0,.bool false] 62) (.cells #[.int .i64 0] 3)
 have hs3:=hs.grow hg3
 have HST:=jh (sTq (ks:=[0]) (kc:=1) hs3 (kinds1 hK3) (by decide))
 rw [hc] at HST
 have hT3:=hT.grow hg3
 have hlen:1 <= s.length:=slq hc
 obtain ⟨hsl,hsc,_⟩:=hs3.len
 obtain ⟨b,o,t0,a0,l0,k0,rfl,x0a,x0b,hA0⟩:=hs3.at 0 (by omega)
 have HA0:=jh hA0
 have bz1:(1:Int) <= (sl:Int):=by omega
 have by0:0 < sl:=by omega
 have b1:(sl:Int) <= (sc:Int):=by omega
 have HSL:=jh hsl
 have HG3:=jh hg3
 have HI3:=jh hI3
 have HR3:=jh hR3
 have HS3:=jh hs3
 have HLEN:=jh hlen
 simp only [Nat.reduceMul,Nat.reduceAdd,Nat.add_zero,Nat.mul_zero,Nat.zero_add] at x0a x0b
 clear hg3 hI3 hR3 hs hs3 hT hT3 hsl hlen hgd hc hK3 hA0
 go_enter Tryz.func83,Tryz.ntmps83
 go_wp2_with fail
 refine HST.out.mono ?_;rintro e w1 ⟨rfl,rfl⟩
 clear HST
 generalize ((W.alloc _).alloc _).alloc _ = W3 at *
 obtain ⟨i0,i1,i2,i3,_⟩:=box9 HI3.out
 have yx0a:=fun (w':World) (h:W3.grownBy w' (some (W.heap.size + 1)))=>aI (kDq HR3.out h x0a x0a) (kDq HR3.out h x0a x0b)
 have hS3:W3.grownBy W3 (some (W.heap.size + 1)):=gRf _ _
 rcases (show (sc = 1 /\ sl = 1) \/ (¬ sc = 1 /\ ¬ sc - 1 = 0) by omega) with ⟨rfl,rfl⟩ | ⟨hc2,hc3⟩
 have HD:=jh (HS3.out.dropAll 1 (by have:=HSL.out;omega) (some ⟨b,o,none⟩) 0)
 rotate_left
 have HD:=jh (HS3.out.drop 1 (by have:=HLEN.out;omega))
 all_goals
  go_wp2_with fail
  go_region_held3 (fun w'=>W3.grownBy w' (some (W.heap.size + 1))) (first | with_reducible assumption | with_reducible exact gDr (gRf _ _) | with_reducible exact grow_setR (by assumption) | with_reducible exact gTr (by assumption) (gAq (gBq _)) | with_reducible exact gDr (gAq (gBq _))) (first
   | (go_at_call 29;refine (of_any 9 _ _ _ _).mono ?_;rintro e w10 ⟨rfl,hg⟩;have HU0:=jh (LiesT.oq (t:=9) ⟨by decide,by decide⟩ (RowC.grow (RowC.one (heap_alloc_new W3 _) (HA0.out.same (sAl (gBq _)))) (undrew hg)));have HG10:Hid (W3.grownBy w10 none):=gTq (gBq _) (undrew hg);have hS:W3.grownBy w10 (some (W.heap.size + 1)):=gAq HG10.out;clear hg)
   | (go_at_call 108;have hprev:=HG10.out;clear hprev;refine (pAq (HD.out.grow (gTq HG10.out (gBq _))) (RowC.one (heap_alloc_new w10 _) (HU0.out.same (sAl (gBq _)))) (by simp;omega)).mono ?_;rintro e w5 hp;obtain ⟨a5,l5,c5,f5,er5,rfl,hS5,q0,q1,q2,HB5,HL5⟩:=lFq hp HG3.out (gTq HG10.out (gBq _)) HR3.out;clear hp))
  go_wp2_with fail
  exact eLq (fun w z0 z1=>by simp [results,Tryz.results83,go_sem,z0,z1]) rfl HB5.out HL5.out
theorem binds_53n {W:World} {n:Int} {ta ra da:Option Addr} {tl tc rl rc dl dc:Nat} {dk dn dp:Int} {ds:ByteArray} {s types:List Ty} {sv:Value} (hs:RowC W s sv) (hT:RowC W types (.slice ta tl tc)) (hc:sFq s [0] = false) (hgd:s.all gYq = true) (hn:s.length <= 1000) :
 Calls Tryz.prog 83 #[insV 53 n ta tl tc ra rl rc dk dn dp ds da dl dc,sv] W (LPq (.no 5) W):=by
 obtain ⟨sa,sl,sc,e1⟩:=hs.form3
 subst e1
 unfold insV
 obtain ⟨hg3,hI3,hR3,hK3⟩:=start3 W (.cells #[.int .i64 53,.int .i64 n,.slice ta tl tc,.slice ra rl rc,.int .i64 dk,.int .i64 dn,.int .i64 dp,.string ds,.slice da dl dc] 115) (.cells #[.slice none 0 0,.bool false] 62) (.cells #[.int .i64 0] 3)
 have hs3:=hs.grow hg3
 have HST:=jh (sTq (ks:=[0]) (kc:=1) hs3 (kinds1 hK3) (by decide))
 rw [hc] at HST
 have hT3:=hT.grow hg3
 have hlen:0 <= s.length:=Nat.zero_le _
 obtain ⟨hsl,hsc,_⟩:=hs3.len
 have b1:(sl:Int) <= (sc:Int):=by omega
 have HSL:=jh hsl
 have HG3:=jh hg3
 have HI3:=jh hI3
 have HR3:=jh hR3
 have HS3:=jh hs3
 have HLEN:=jh hlen
 clear hg3 hI3 hR3 hs hs3 hT hT3 hsl hlen hgd hc hK3
 go_enter Tryz.func83,Tryz.ntmps83
 go_wp2_with fail
 refine HST.out.mono ?_;rintro e w1 ⟨rfl,rfl⟩
 clear HST
 generalize ((W.alloc _).alloc _).alloc _ = W3 at *
 obtain ⟨i0,i1,i2,i3,_⟩:=box9 HI3.out
 have hS3:W3.grownBy W3 (some (W.heap.size + 1)):=gRf _ _
 go_wp2_with fail
 refine (rLq 5 (by decide) _).mono ?_
 rintro e w5 hp
 obtain ⟨a5,l5,c5,f5,er5,rfl,hS5,q0,q1,q2,HB5,HL5⟩:=lFq hp HG3.out (gRf _ _) HR3.out
 clear hp
 go_wp2_with fail
 exact eLq (fun w z0 z1=>by simp [results,Tryz.results83,go_sem,z0,z1]) rfl HB5.out HL5.out
theorem binds_54 {W:World} {n:Int} {ta ra da:Option Addr} {tl tc rl rc dl dc:Nat} {dk dn dp:Int} {ds:ByteArray} {s types:List Ty} {sv:Value} (hs:RowC W s sv) (hT:RowC W types (.slice ta tl tc)) (htl:types.length = 1) (hgd:s.all gYq = true) (hn:s.length <= 1000) :
 Calls Tryz.prog 83 #[insV 54 n ta tl tc ra rl rc dk dn dp ds da dl dc,sv] W (LPq (pFq s [(.nd 9 [(tAq types 0)])]) W):=by
 obtain ⟨sa,sl,sc,e1⟩:=hs.form3
 subst e1
 unfold insV
 obtain ⟨hg3,hI3,hR3⟩:=start2 W (.cells #[.int .i64 54,.int .i64 n,.slice ta tl tc,.slice ra rl rc,.int .i64 dk,.int .i64 dn,.int .i64 dp,.string ds,.slice da dl dc] 115) (.cells #[.slice none 0 0,.bool false] 62)
 have hsz:((W.alloc (.cells #[.int .i64 54,.int .i64 n,.slice ta tl tc,.slice ra rl rc,.int .i64 dk,.int .i64 dn,.int .i64 dp,.string ds,.slice da dl dc] 115)).alloc (.cells #[.slice none 0 0,.bool false] 62)).heap.size = W.heap.size + 1 + 1:=by simp
 have hs3:=hs.grow hg3
 have hT3:=hT.grow hg3
 have hlen:0 <= s.length:=Nat.zero_le _
 obtain ⟨hsl,hsc,_⟩:=hs3.len
 obtain ⟨et,ect,_⟩:=hT3.len
 rw [htl] at et ect
 subst et
 have HTY:=jh hT3
 obtain ⟨bt,ot,ty0,ay0,ly0,ky0,rfl,xy0a,xy0b,hAy0⟩:=hT3.at 0 (by omega)
 have HAy0:=jh hAy0
 have b1:(sl:Int) <= (sc:Int):=by omega
 have HSL:=jh hsl
 have HG3:=jh hg3
 have HI3:=jh hI3
 have HR3:=jh hR3
 have HS3:=jh hs3
 have HLEN:=jh hlen
 simp only [Nat.reduceMul,Nat.reduceAdd,Nat.add_zero,Nat.mul_zero,Nat.zero_add] at xy0a xy0b
 obtain ⟨i0,i1,i2,i3,_⟩:=box9 hI3
 clear hg3 hI3 hR3 hs hs3 hT hT3 hsl hlen hgd htl hAy0
 go_enter Tryz.func83,Tryz.ntmps83
 go_wp2_with fail
 generalize (W.alloc _).alloc _ = W3 at *
 have yxy0a:=fun (w':World) (h:W3.grownBy w' (some (W.heap.size + 1)))=>aI (kDq HR3.out h xy0a xy0a) (aI (kDq HR3.out h xy0a xy0b) ((box9 (keepI HI3.out h)).2.2.1))
 have hS3:W3.grownBy W3 (some (W.heap.size + 1)):=gRf _ _
 have HD:=HS3
 refine (of_any 9 _ _ _ _).mono ?_
 rintro e w10 ⟨rfl,hg⟩
 have HU0:=jh (LiesT.oq (t:=9) ⟨by decide,by decide⟩ (RowC.grow (RowC.one (new_at hsz) (HAy0.out.same (sAl (gBq _)))) hg))
 have HG10:Hid (W3.grownBy w10 none):=gTq (gBq _) hg
 have hS:W3.grownBy w10 (some (W.heap.size + 1)):=gAq HG10.out
 clear hg
 go_wp2_with fail
 have hprev:=HG10.out
 clear hprev
 refine (pAq (HD.out.grow (gTq HG10.out (gBq _))) (RowC.one (heap_alloc_new w10 _) (HU0.out.same (sAl (gBq _)))) (by simp <;> omega)).mono ?_
 rintro e w5 hp
 obtain ⟨a5,l5,c5,f5,er5,rfl,hS5,q0,q1,q2,HB5,HL5⟩:=lFq hp HG3.out (gTq HG10.out (gBq _)) HR3.out
 clear hp
 go_wp2_with fail
 exact eLq (fun w z0 z1=>by simp [results,Tryz.results83,go_sem,z0,z1]) rfl HB5.out HL5.out
theorem moves_40 {W:World} {n:Int} {ta ra da:Option Addr} {tl tc rl rc dl dc:Nat} {dk dn dp:Int} {ds:ByteArray} {s types:List Ty} {sv:Value} (hs:RowC W s sv) (hT:RowC W types (.slice ta tl tc)) (hc:sFq s [0] = true) (hgd:s.all gYq = true) (hn:s.length <= 1000) :
 Calls Tryz.prog 82 #[insV 40 n ta tl tc ra rl rc dk dn dp ds da dl dc,sv] W (LPq (pFq (s.drop 1) []) W):=by
 obtain ⟨sa,sl,sc,e1⟩:=hs.form3
 subst e1
 unfold insV
 obtain ⟨hg3,hI3,hR3,hK3⟩:=start3 W (.cells #[.int .i64 40,.int .i64 n,.slice ta tl tc,.slice ra rl rc,.int .i64 dk,.int .i64 dn,.int .i64 dp,.string ds,.slice da dl dc] 115) (.cells #[.slice none 0 0,.bool false] 62) (.cells #[.int .i64 0] 3)
 have hs3:=hs.grow hg3
 have HST:=jh (sTq (ks:=[0]) (kc:=1) hs3 (kinds1 hK3) (by decide))
 rw [hc] at HST
 have hT3:=hT.grow hg3
 have hlen:1 <= s.length:=slq hc
 obtain ⟨hsl,hsc,_⟩:=hs3.len
 obtain ⟨b,o,t0,a0,l0,k0,rfl,x0a,x0b,hA0⟩:=hs3.at 0 (by omega)
 have HA0:=jh hA0
 have bz1:(1:Int) <= (sl:Int):=by omega
 have by0:0 < sl:=by omega
 have b1:(sl:Int) <= (sc:Int):=by omega
 have HSL:=jh hsl
 have HG3:=jh hg3
 have HI3:=jh hI3
 have HR3:=jh hR3
 have HS3:=jh hs3
 have HLEN:=jh hlen
 simp only [Nat.reduceMul,Nat.reduceAdd,Nat.add_zero,Nat.mul_zero,Nat.zero_add] at x0a x0b
 clear hg3 hI3 hR3 hs hs3 hT hT3 hsl hlen hgd hc hK3 hA0
 go_enter Tryz.func82,Tryz.ntmps82
 go_wp2_with fail
 refine HST.out.mono ?_;rintro e w1 ⟨rfl,rfl⟩
 clear HST
 generalize ((W.alloc _).alloc _).alloc _ = W3 at *
 obtain ⟨i0,i1,i2,i3,_⟩:=box9 HI3.out
 have yx0a:=fun (w':World) (h:W3.grownBy w' (some (W.heap.size + 1)))=>aI (kDq HR3.out h x0a x0a) (kDq HR3.out h x0a x0b)
 have hS3:W3.grownBy W3 (some (W.heap.size + 1)):=gRf _ _
 rcases (show (sc = 1 /\ sl = 1) \/ (¬ sc = 1 /\ ¬ sc - 1 = 0) by omega) with ⟨rfl,rfl⟩ | ⟨hc2,hc3⟩
 have HD:=jh (HS3.out.dropAll 1 (by have:=HSL.out;omega) (some ⟨b,o,none⟩) 0)
 rotate_left
 have HD:=jh (HS3.out.drop 1 (by have:=HLEN.out;omega))
 all_goals
  go_wp2_with fail
  refine (pAq (HD.out.grow (gRf _ _)) (RowC.nil _ none 0) (by simp <;> omega)).mono ?_
  rintro e w5 hp
  obtain ⟨a5,l5,c5,f5,er5,rfl,hS5,q0,q1,q2,HB5,HL5⟩:=lFq hp HG3.out (gRf _ _) HR3.out
  clear hp
  go_wp2_with fail
  exact eLq (fun w z0 z1=>by simp [results,Tryz.results82,go_sem,z0,z1]) rfl HB5.out HL5.out
theorem moves_40n {W:World} {n:Int} {ta ra da:Option Addr} {tl tc rl rc dl dc:Nat} {dk dn dp:Int} {ds:ByteArray} {s types:List Ty} {sv:Value} (hs:RowC W s sv) (hT:RowC W types (.slice ta tl tc)) (hc:sFq s [0] = false) (hgd:s.all gYq = true) (hn:s.length <= 1000) :
 Calls Tryz.prog 82 #[insV 40 n ta tl tc ra rl rc dk dn dp ds da dl dc,sv] W (LPq (.no 5) W):=by
 obtain ⟨sa,sl,sc,e1⟩:=hs.form3
 subst e1
 unfold insV
 obtain ⟨hg3,hI3,hR3,hK3⟩:=start3 W (.cells #[.int .i64 40,.int .i64 n,.slice ta tl tc,.slice ra rl rc,.int .i64 dk,.int .i64 dn,.int .i64 dp,.string ds,.slice da dl dc] 115) (.cells #[.slice none 0 0,.bool false] 62) (.cells #[.int .i64 0] 3)
 have hs3:=hs.grow hg3
 have HST:=jh (sTq (ks:=[0]) (kc:=1) hs3 (kinds1 hK3) (by decide))
 rw [hc] at HST
 have hT3:=hT.grow hg3
 have hlen:0 <= s.length:=Nat.zero_le _
 obtain ⟨hsl,hsc,_⟩:=hs3.len
 have b1:(sl:Int) <= (sc:Int):=by omega
 have HSL:=jh hsl
 have HG3:=jh hg3
 have HI3:=jh hI3
 have HR3:=jh hR3
 have HS3:=jh hs3
 have HLEN:=jh hlen
 clear hg3 hI3 hR3 hs hs3 hT hT3 hsl hlen hgd hc hK3
 go_enter Tryz.func82,Tryz.ntmps82
 go_wp2_with fail
 refine HST.out.mono ?_;rintro e w1 ⟨rfl,rfl⟩
 clear HST
 generalize ((W.alloc _).alloc _).alloc _ = W3 at *
 obtain ⟨i0,i1,i2,i3,_⟩:=box9 HI3.out
 have hS3:W3.grownBy W3 (some (W.heap.size + 1)):=gRf _ _
 go_wp2_with fail
 refine (rLq 5 (by decide) _).mono ?_
 rintro e w5 hp
 obtain ⟨a5,l5,c5,f5,er5,rfl,hS5,q0,q1,q2,HB5,HL5⟩:=lFq hp HG3.out (gRf _ _) HR3.out
 clear hp
 go_wp2_with fail
 exact eLq (fun w z0 z1=>by simp [results,Tryz.results82,go_sem,z0,z1]) rfl HB5.out HL5.out
theorem moves_42 {W:World} {n:Int} {ta ra da:Option Addr} {tl tc rl rc dl dc:Nat} {dk dn dp:Int} {ds:ByteArray} {s types:List Ty} {sv:Value} (hs:RowC W s sv) (hT:RowC W types (.slice ta tl tc)) (hc:sFq s [0,0] = true) (hgd:s.all gYq = true) (hn:s.length <= 1000) :
 Calls Tryz.prog 82 #[insV 42 n ta tl tc ra rl rc dk dn dp ds da dl dc,sv] W (LPq (pFq (s.drop 2) [(tAq s 1),(tAq s 0)]) W):=by
 obtain ⟨sa,sl,sc,e1⟩:=hs.form3
 subst e1
 unfold insV
 obtain ⟨hg3,hI3,hR3,hK3⟩:=start3 W (.cells #[.int .i64 42,.int .i64 n,.slice ta tl tc,.slice ra rl rc,.int .i64 dk,.int .i64 dn,.int .i64 dp,.string ds,.slice da dl dc] 115) (.cells #[.slice none 0 0,.bool false] 62) (.cells #[.int .i64 0,.int .i64 0] 3)
 have hs3:=hs.grow hg3
 have HST:=jh (sTq (ks:=[0,0]) (kc:=2) hs3 (kinds2 hK3) (by decide))
 rw [hc] at HST
 have hT3:=hT.grow hg3
 have hlen:2 <= s.length:=slq hc
 obtain ⟨hsl,hsc,_⟩:=hs3.len
 obtain ⟨b,o,t0,a0,l0,k0,rfl,x0a,x0b,hA0⟩:=hs3.at 0 (by omega)
 have HA0:=jh hA0
 obtain ⟨_,_,t1,a1,l1,k1,eb,x1a,x1b,hA1⟩:=hs3.at 1 (by omega)
 simp only [Option.some.injEq,Addr.mk.injEq,and_true] at eb
 obtain ⟨rfl,rfl⟩:=eb
 have HA1:=jh hA1
 have bz1:(1:Int) <= (sl:Int):=by omega
 have by0:0 < sl:=by omega
 have bz2:(2:Int) <= (sl:Int):=by omega
 have by1:(1:Int) < (sl:Int):=by omega
 have b1:(sl:Int) <= (sc:Int):=by omega
 have HSL:=jh hsl
 have HG3:=jh hg3
 have HI3:=jh hI3
 have HR3:=jh hR3
 have HS3:=jh hs3
 have HLEN:=jh hlen
 simp only [Nat.reduceMul,Nat.reduceAdd,Nat.add_zero,Nat.mul_zero,Nat.zero_add] at x0a x0b x1a x1b
 clear hg3 hI3 hR3 hs hs3 hT hT3 hsl hlen hgd hc hK3 hA0 hA1
 go_enter Tryz.func82,Tryz.ntmps82
 go_wp2_with fail
 refine HST.out.mono ?_;rintro e w1 ⟨rfl,rfl⟩
 clear HST
 generalize ((W.alloc _).alloc _).alloc _ = W3 at *
 obtain ⟨i0,i1,i2,i3,_⟩:=box9 HI3.out
 have yx0a:=fun (w':World) (h:W3.grownBy w' (some (W.heap.size + 1)))=>aI (kDq HR3.out h x0a x0a) (aI (kDq HR3.out h x0a x0b) (aI (kDq HR3.out h x1a x1a) (kDq HR3.out h x1a x1b)))
 have hS3:W3.grownBy W3 (some (W.heap.size + 1)):=gRf _ _
 rcases (show (sc = 2 /\ sl = 2) \/ (¬ sc = 2 /\ ¬ sc - 2 = 0) by omega) with ⟨rfl,rfl⟩ | ⟨hc2,hc3⟩
 have HD:=jh (HS3.out.dropAll 2 (by have:=HSL.out;omega) (some ⟨b,o,none⟩) 0)
 rotate_left
 have HD:=jh (HS3.out.drop 2 (by have:=HLEN.out;omega))
 all_goals
  go_wp2_with fail
  go_region_held3 (fun w'=>W3.grownBy w' (some (W.heap.size + 1))) (first | with_reducible assumption | with_reducible exact gDr (gRf _ _) | with_reducible exact grow_setR (by assumption) | with_reducible exact gTr (by assumption) (gAq (gBq _)) | with_reducible exact gDr (gAq (gBq _))) (first
   | (go_at_call 108;refine (pAq (HD.out.grow (gDr (gBq _))) (RowC.dr (RowC.two (heap_alloc_new W3 _) (HA1.out.same (sAl (gBq _))) (HA0.out.same (sAl (gBq _))))) (by simp;omega)).mono ?_;rintro e w5 hp;obtain ⟨a5,l5,c5,f5,er5,rfl,hS5,q0,q1,q2,HB5,HL5⟩:=lFq hp HG3.out (gDr (gBq _)) HR3.out;clear hp))
  go_wp2_with fail
  exact eLq (fun w z0 z1=>by simp [results,Tryz.results82,go_sem,z0,z1]) rfl HB5.out HL5.out
theorem moves_42n {W:World} {n:Int} {ta ra da:Option Addr} {tl tc rl rc dl dc:Nat} {dk dn dp:Int} {ds:ByteArray} {s types:List Ty} {sv:Value} (hs:RowC W s sv) (hT:RowC W types (.slice ta tl tc)) (hc:sFq s [0,0] = false) (hgd:s.all gYq = true) (hn:s.length <= 1000) :
 Calls Tryz.prog 82 #[insV 42 n ta tl tc ra rl rc dk dn dp ds da dl dc,sv] W (LPq (.no 5) W):=by
 obtain ⟨sa,sl,sc,e1⟩:=hs.form3
 subst e1
 unfold insV
 obtain ⟨hg3,hI3,hR3,hK3⟩:=start3 W (.cells #[.int .i64 42,.int .i64 n,.slice ta tl tc,.slice ra rl rc,.int .i64 dk,.int .i64 dn,.int .i64 dp,.string ds,.slice da dl dc] 115) (.cells #[.slice none 0 0,.bool false] 62) (.cells #[.int .i64 0,.int .i64 0] 3)
 have hs3:=hs.grow hg3
 have HST:=jh (sTq (ks:=[0,0]) (kc:=2) hs3 (kinds2 hK3) (by decide))
 rw [hc] at HST
 have hT3:=hT.grow hg3
 have hlen:0 <= s.length:=Nat.zero_le _
 obtain ⟨hsl,hsc,_⟩:=hs3.len
 have b1:(sl:Int) <= (sc:Int):=by omega
 have HSL:=jh hsl
 have HG3:=jh hg3
 have HI3:=jh hI3
 have HR3:=jh hR3
 have HS3:=jh hs3
 have HLEN:=jh hlen
 clear hg3 hI3 hR3 hs hs3 hT hT3 hsl hlen hgd hc hK3
 go_enter Tryz.func82,Tryz.ntmps82
 go_wp2_with fail
 refine HST.out.mono ?_;rintro e w1 ⟨rfl,rfl⟩
 clear HST
 generalize ((W.alloc _).alloc _).alloc _ = W3 at *
 obtain ⟨i0,i1,i2,i3,_⟩:=box9 HI3.out
 have hS3:W3.grownBy W3 (some (W.heap.size + 1)):=gRf _ _
 go_wp2_with fail
 refine (rLq 5 (by decide) _).mono ?_
 rintro e w5 hp
 obtain ⟨a5,l5,c5,f5,er5,rfl,hS5,q0,q1,q2,HB5,HL5⟩:=lFq hp HG3.out (gRf _ _) HR3.out
 clear hp
 go_wp2_with fail
 exact eLq (fun w z0 z1=>by simp [results,Tryz.results82,go_sem,z0,z1]) rfl HB5.out HL5.out
theorem reckons_93 {W:World} {n:Int} {ta ra da:Option Addr} {tl tc rl rc dl dc:Nat} {dk dn dp:Int} {ds:ByteArray} {s types:List Ty} {sv:Value} (hs:RowC W s sv) (hT:RowC W types (.slice ta tl tc)) (hc:sFq s [3] = true) (hgd:s.all gYq = true) (hn:s.length <= 1000) :
 Calls Tryz.prog 87 #[insV 93 n ta tl tc ra rl rc dk dn dp ds da dl dc,sv] W (LPq (pFq (s.drop 1) [(.nd 4 [])]) W):=by
 obtain ⟨sa,sl,sc,e1⟩:=hs.form3
 subst e1
 unfold insV
 obtain ⟨hg3,hI3,hR3,hK3⟩:=start3 W (.cells #[.int .i64 93,.int .i64 n,.slice ta tl tc,.slice ra rl rc,.int .i64 dk,.int .i64 dn,.int .i64 dp,.string ds,.slice da dl dc] 115) (.cells #[.slice none 0 0,.bool false] 62) (.cells #[.int .i64 3] 3)
 have hs3:=hs.grow hg3
 have HST:=jh (sTq (ks:=[3]) (kc:=1) hs3 (kinds1 hK3) (by decide))
 rw [hc] at HST
 have hT3:=hT.grow hg3
 have hlen:1 <= s.length:=slq hc
 obtain ⟨hsl,hsc,_⟩:=hs3.len
 obtain ⟨b,o,t0,a0,l0,k0,rfl,x0a,x0b,hA0⟩:=hs3.at 0 (by omega)
 have HA0:=jh hA0
 have bz1:(1:Int) <= (sl:Int):=by omega
 have by0:0 < sl:=by omega
 have b1:(sl:Int) <= (sc:Int):=by omega
 have HSL:=jh hsl
 have HG3:=jh hg3
 have HI3:=jh hI3
 have HR3:=jh hR3
 have HS3:=jh hs3
 have HLEN:=jh hlen
 simp only [Nat.reduceMul,Nat.reduceAdd,Nat.add_zero,Nat.mul_zero,Nat.zero_add] at x0a x0b
 clear hg3 hI3 hR3 hs hs3 hT hT3 hsl hlen hgd hc hK3 hA0
 go_enter Tryz.func87,Tryz.ntmps87
 go_wp2_with fail
 refine HST.out.mono ?_;rintro e w1 ⟨rfl,rfl⟩
 clear HST
 generalize ((W.alloc _).alloc _).alloc _ = W3 at *
 obtain ⟨i0,i1,i2,i3,_⟩:=box9 HI3.out
 have yx0a:=fun (w':World) (h:W3.grownBy w' (some (W.heap.size + 1)))=>aI (kDq HR3.out h x0a x0a) (kDq HR3.out h x0a x0b)
 have hS3:W3.grownBy W3 (some (W.heap.size + 1)):=gRf _ _
 rcases (show (sc = 1 /\ sl = 1) \/ (¬ sc = 1 /\ ¬ sc - 1 = 0) by omega) with ⟨rfl,rfl⟩ | ⟨hc2,hc3⟩
 have HD:=jh (HS3.out.dropAll 1 (by have:=HSL.out;omega) (some ⟨b,o,none⟩) 0)
 rotate_left
 have HD:=jh (HS3.out.drop 1 (by have:=HLEN.out;omega))
 all_goals
  go_wp2_with fail
  go_region_held3 (fun w'=>W3.grownBy w' (some (W.heap.size + 1))) (first | with_reducible assumption | with_reducible exact gDr (gRf _ _) | with_reducible exact grow_setR (by assumption) | with_reducible exact gTr (by assumption) (gAq (gBq _)) | with_reducible exact gDr (gAq (gBq _))) (first
   | (go_at_call 29;refine (of_any 4 _ _ _ _).mono ?_;rintro e w10 ⟨rfl,hg⟩;have HU0:=jh (LiesT.oq (t:=4) ⟨by decide,by decide⟩ (RowC.grow (RowC.nil _ none 0) (undrew hg)));have HG10:Hid (W3.grownBy w10 none):=gTq (gRf _ _) (undrew hg);have hS:W3.grownBy w10 (some (W.heap.size + 1)):=gAq HG10.out;clear hg)
   | (go_at_call 108;have hprev:=HG10.out;clear hprev;refine (pAq (HD.out.grow (gTq HG10.out (gBq _))) (RowC.one (heap_alloc_new w10 _) (HU0.out.same (sAl (gBq _)))) (by simp;omega)).mono ?_;rintro e w5 hp;obtain ⟨a5,l5,c5,f5,er5,rfl,hS5,q0,q1,q2,HB5,HL5⟩:=lFq hp HG3.out (gTq HG10.out (gBq _)) HR3.out;clear hp))
  go_wp2_with fail
  exact eLq (fun w z0 z1=>by simp [results,Tryz.results87,go_sem,z0,z1]) rfl HB5.out HL5.out
theorem reckons_93n {W:World} {n:Int} {ta ra da:Option Addr} {tl tc rl rc dl dc:Nat} {dk dn dp:Int} {ds:ByteArray} {s types:List Ty} {sv:Value} (hs:RowC W s sv) (hT:RowC W types (.slice ta tl tc)) (hc:sFq s [3] = false) (hgd:s.all gYq = true) (hn:s.length <= 1000) :
 Calls Tryz.prog 87 #[insV 93 n ta tl tc ra rl rc dk dn dp ds da dl dc,sv] W (LPq (.no 5) W):=by
 obtain ⟨sa,sl,sc,e1⟩:=hs.form3
 subst e1
 unfold insV
 obtain ⟨hg3,hI3,hR3,hK3⟩:=start3 W (.cells #[.int .i64 93,.int .i64 n,.slice ta tl tc,.slice ra rl rc,.int .i64 dk,.int .i64 dn,.int .i64 dp,.string ds,.slice da dl dc] 115) (.cells #[.slice none 0 0,.bool false] 62) (.cells #[.int .i64 3] 3)
 have hs3:=hs.grow hg3
 have HST:=jh (sTq (ks:=[3]) (kc:=1) hs3 (kinds1 hK3) (by decide))
 rw [hc] at HST
 have hT3:=hT.grow hg3
 have hlen:0 <= s.length:=Nat.zero_le _
 obtain ⟨hsl,hsc,_⟩:=hs3.len
 have b1:(sl:Int) <= (sc:Int):=by omega
 have HSL:=jh hsl
 have HG3:=jh hg3
 have HI3:=jh hI3
 have HR3:=jh hR3
 have HS3:=jh hs3
 have HLEN:=jh hlen
 clear hg3 hI3 hR3 hs hs3 hT hT3 hsl hlen hgd hc hK3
 go_enter Tryz.func87,Tryz.ntmps87
 go_wp2_with fail
 refine HST.out.mono ?_;rintro e w1 ⟨rfl,rfl⟩
 clear HST
 generalize ((W.alloc _).alloc _).alloc _ = W3 at *
 obtain ⟨i0,i1,i2,i3,_⟩:=box9 HI3.out
 have hS3:W3.grownBy W3 (some (W.heap.size + 1)):=gRf _ _
 go_wp2_with fail
 refine (isOfTwo_any 93 _).mono ?_;rintro e w9 ⟨rfl,rfl⟩
 go_wp2_with fail
 refine (rLq 5 (by decide) _).mono ?_
 rintro e w5 hp
 obtain ⟨a5,l5,c5,f5,er5,rfl,hS5,q0,q1,q2,HB5,HL5⟩:=lFq hp HG3.out (gRf _ _) HR3.out
 clear hp
 go_wp2_with fail
 exact eLq (fun w z0 z1=>by simp [results,Tryz.results87,go_sem,z0,z1]) rfl HB5.out HL5.out
theorem reckons_94 {W:World} {n:Int} {ta ra da:Option Addr} {tl tc rl rc dl dc:Nat} {dk dn dp:Int} {ds:ByteArray} {s types:List Ty} {sv:Value} (hs:RowC W s sv) (hT:RowC W types (.slice ta tl tc)) (hc:sFq s [3] = true) (hgd:s.all gYq = true) (hn:s.length <= 1000) :
 Calls Tryz.prog 87 #[insV 94 n ta tl tc ra rl rc dk dn dp ds da dl dc,sv] W (LPq (pFq (s.drop 1) [(.nd 9 [(.nd 4 [])])]) W):=by
 obtain ⟨sa,sl,sc,e1⟩:=hs.form3
 subst e1
 unfold insV
 obtain ⟨hg3,hI3,hR3,hK3⟩:=start3 W (.cells #[.int .i64 94,.int .i64 n,.slice ta tl tc,.slice ra rl rc,.int .i64 dk,.int .i64 dn,.int .i64 dp,.string ds,.slice da dl dc] 115) (.cells #[.slice none 0 0,.bool false] 62) (.cells #[.int .i64 3] 3)
 have hs3:=hs.grow hg3
 have HST:=jh (sTq (ks:=[3]) (kc:=1) hs3 (kinds1 hK3) (by decide))
 rw [hc] at HST
 have hT3:=hT.grow hg3
 have hlen:1 <= s.length:=slq hc
 obtain ⟨hsl,hsc,_⟩:=hs3.len
 obtain ⟨b,o,t0,a0,l0,k0,rfl,x0a,x0b,hA0⟩:=hs3.at 0 (by omega)
 have HA0:=jh hA0
 have bz1:(1:Int) <= (sl:Int):=by omega
 have by0:0 < sl:=by omega
 have b1:(sl:Int) <= (sc:Int):=by omega
 have HSL:=jh hsl
 have HG3:=jh hg3
 have HI3:=jh hI3
 have HR3:=jh hR3
 have HS3:=jh hs3
 have HLEN:=jh hlen
 simp only [Nat.reduceMul,Nat.reduceAdd,Nat.add_zero,Nat.mul_zero,Nat.zero_add] at x0a x0b
 clear hg3 hI3 hR3 hs hs3 hT hT3 hsl hlen hgd hc hK3 hA0
 go_enter Tryz.func87,Tryz.ntmps87
 go_wp2_with fail
 refine HST.out.mono ?_;rintro e w1 ⟨rfl,rfl⟩
 clear HST
 generalize ((W.alloc _).alloc _).alloc _ = W3 at *
 obtain ⟨i0,i1,i2,i3,_⟩:=box9 HI3.out
 have yx0a:=fun (w':World) (h:W3.grownBy w' (some (W.heap.size + 1)))=>aI (kDq HR3.out h x0a x0a) (kDq HR3.out h x0a x0b)
 have hS3:W3.grownBy W3 (some (W.heap.size + 1)):=gRf _ _
 rcases (show (sc = 1 /\ sl = 1) \/ (¬ sc = 1 /\ ¬ sc - 1 = 0) by omega) with ⟨rfl,rfl⟩ | ⟨hc2,hc3⟩
 have HD:=jh (HS3.out.dropAll 1 (by have:=HSL.out;omega) (some ⟨b,o,none⟩) 0)
 rotate_left
 have HD:=jh (HS3.out.drop 1 (by have:=HLEN.out;omega))
 all_goals
  go_wp2_with fail
  go_region_held3 (fun w'=>W3.grownBy w' (some (W.heap.size + 1))) (first | with_reducible assumption | with_reducible exact gDr (gRf _ _) | with_reducible exact grow_setR (by assumption) | with_reducible exact gTr (by assumption) (gAq (gBq _)) | with_reducible exact gDr (gAq (gBq _))) (first
   | (go_at_call 29;have hprev:=HG10.out;clear hprev;refine (of_any 9 _ _ _ _).mono ?_;rintro e w11 ⟨rfl,hg⟩;have HU1:=jh (LiesT.oq (t:=9) ⟨by decide,by decide⟩ (RowC.grow (RowC.one (heap_alloc_new w10 _) (HU0.out.same (sAl (gBq _)))) hg));have HU0:=jh (HU0.out.same (sAl (gTq (gBq _) hg)));have HG11:Hid (W3.grownBy w11 none):=gTq (gTq HG10.out (gBq _)) hg;have hS:W3.grownBy w11 (some (W.heap.size + 1)):=gAq HG11.out;clear hg)
   | (go_at_call 29;refine (of_any 4 _ _ _ _).mono ?_;rintro e w10 ⟨rfl,hg⟩;have HU0:=jh (LiesT.oq (t:=4) ⟨by decide,by decide⟩ (RowC.grow (RowC.nil _ none 0) (undrew hg)));have HG10:Hid (W3.grownBy w10 none):=gTq (gRf _ _) (undrew hg);have hS:W3.grownBy w10 (some (W.heap.size + 1)):=gAq HG10.out;clear hg)
   | (go_at_call 108;have hprev:=HG11.out;clear hprev;refine (pAq (HD.out.grow (gTq HG11.out (gBq _))) (RowC.one (heap_alloc_new w11 _) (HU1.out.same (sAl (gBq _)))) (by simp;omega)).mono ?_;rintro e w5 hp;obtain ⟨a5,l5,c5,f5,er5,rfl,hS5,q0,q1,q2,HB5,HL5⟩:=lFq hp HG3.out (gTq HG11.out (gBq _)) HR3.out;clear hp))
  go_wp2_with fail
  exact eLq (fun w z0 z1=>by simp [results,Tryz.results87,go_sem,z0,z1]) rfl HB5.out HL5.out
theorem reckons_94n {W:World} {n:Int} {ta ra da:Option Addr} {tl tc rl rc dl dc:Nat} {dk dn dp:Int} {ds:ByteArray} {s types:List Ty} {sv:Value} (hs:RowC W s sv) (hT:RowC W types (.slice ta tl tc)) (hc:sFq s [3] = false) (hgd:s.all gYq = true) (hn:s.length <= 1000) :
 Calls Tryz.prog 87 #[insV 94 n ta tl tc ra rl rc dk dn dp ds da dl dc,sv] W (LPq (.no 5) W):=by
 obtain ⟨sa,sl,sc,e1⟩:=hs.form3
 subst e1
 unfold insV
 obtain ⟨hg3,hI3,hR3,hK3⟩:=start3 W (.cells #[.int .i64 94,.int .i64 n,.slice ta tl tc,.slice ra rl rc,.int .i64 dk,.int .i64 dn,.int .i64 dp,.string ds,.slice da dl dc] 115) (.cells #[.slice none 0 0,.bool false] 62) (.cells #[.int .i64 3] 3)
 have hs3:=hs.grow hg3
 have HST:=jh (sTq (ks:=[3]) (kc:=1) hs3 (kinds1 hK3) (by decide))
 rw [hc] at HST
 have hT3:=hT.grow hg3
 have hlen:0 <= s.length:=Nat.zero_le _
 obtain ⟨hsl,hsc,_⟩:=hs3.len
 have b1:(sl:Int) <= (sc:Int):=by omega
 have HSL:=jh hsl
 have HG3:=jh hg3
 have HI3:=jh hI3
 have HR3:=jh hR3
 have HS3:=jh hs3
 have HLEN:=jh hlen
 clear hg3 hI3 hR3 hs hs3 hT hT3 hsl hlen hgd hc hK3
 go_enter Tryz.func87,Tryz.ntmps87
 go_wp2_with fail
 refine HST.out.mono ?_;rintro e w1 ⟨rfl,rfl⟩
 clear HST
 generalize ((W.alloc _).alloc _).alloc _ = W3 at *
 obtain ⟨i0,i1,i2,i3,_⟩:=box9 HI3.out
 have hS3:W3.grownBy W3 (some (W.heap.size + 1)):=gRf _ _
 go_wp2_with fail
 refine (isOfTwo_any 94 _).mono ?_;rintro e w9 ⟨rfl,rfl⟩
 go_wp2_with fail
 refine (rLq 5 (by decide) _).mono ?_
 rintro e w5 hp
 obtain ⟨a5,l5,c5,f5,er5,rfl,hS5,q0,q1,q2,HB5,HL5⟩:=lFq hp HG3.out (gRf _ _) HR3.out
 clear hp
 go_wp2_with fail
 exact eLq (fun w z0 z1=>by simp [results,Tryz.results87,go_sem,z0,z1]) rfl HB5.out HL5.out
theorem reckons_95 {W:World} {n:Int} {ta ra da:Option Addr} {tl tc rl rc dl dc:Nat} {dk dn dp:Int} {ds:ByteArray} {s types:List Ty} {sv:Value} (hs:RowC W s sv) (hT:RowC W types (.slice ta tl tc)) (hc:sFq s [4] = true) (hgd:s.all gYq = true) (hn:s.length <= 1000) :
 Calls Tryz.prog 87 #[insV 95 n ta tl tc ra rl rc dk dn dp ds da dl dc,sv] W (LPq (pFq (s.drop 1) [(.nd 3 [])]) W):=by
 obtain ⟨sa,sl,sc,e1⟩:=hs.form3
 subst e1
 unfold insV
 obtain ⟨hg3,hI3,hR3,hK3⟩:=start3 W (.cells #[.int .i64 95,.int .i64 n,.slice ta tl tc,.slice ra rl rc,.int .i64 dk,.int .i64 dn,.int .i64 dp,.string ds,.slice da dl dc] 115) (.cells #[.slice none 0 0,.bool false] 62) (.cells #[.int .i64 4] 3)
 have hs3:=hs.grow hg3
 have HST:=jh (sTq (ks:=[4]) (kc:=1) hs3 (kinds1 hK3) (by decide))
 rw [hc] at HST
 have hT3:=hT.grow hg3
 have hlen:1 <= s.length:=slq hc
 obtain ⟨hsl,hsc,_⟩:=hs3.len
 obtain ⟨b,o,t0,a0,l0,k0,rfl,x0a,x0b,hA0⟩:=hs3.at 0 (by omega)
 have HA0:=jh hA0
 have bz1:(1:Int) <= (sl:Int):=by omega
 have by0:0 < sl:=by omega
 have b1:(sl:Int) <= (sc:Int):=by omega
 have HSL:=jh hsl
 have HG3:=jh hg3
 have HI3:=jh hI3
 have HR3:=jh hR3
 have HS3:=jh hs3
 have HLEN:=jh hlen
 simp only [Nat.reduceMul,Nat.reduceAdd,Nat.add_zero,Nat.mul_zero,Nat.zero_add] at x0a x0b
 clear hg3 hI3 hR3 hs hs3 hT hT3 hsl hlen hgd hc hK3 hA0
 go_enter Tryz.func87,Tryz.ntmps87
 go_wp2_with fail
 refine HST.out.mono ?_;rintro e w1 ⟨rfl,rfl⟩
 clear HST
 generalize ((W.alloc _).alloc _).alloc _ = W3 at *
 obtain ⟨i0,i1,i2,i3,_⟩:=box9 HI3.out
 have yx0a:=fun (w':World) (h:W3.grownBy w' (some (W.heap.size + 1)))=>aI (kDq HR3.out h x0a x0a) (kDq HR3.out h x0a x0b)
 have hS3:W3.grownBy W3 (some (W.heap.size + 1)):=gRf _ _
 rcases (show (sc = 1 /\ sl = 1) \/ (¬ sc = 1 /\ ¬ sc - 1 = 0) by omega) with ⟨rfl,rfl⟩ | ⟨hc2,hc3⟩
 have HD:=jh (HS3.out.dropAll 1 (by have:=HSL.out;omega) (some ⟨b,o,none⟩) 0)
 rotate_left
 have HD:=jh (HS3.out.drop 1 (by have:=HLEN.out;omega))
 all_goals
  go_wp2_with fail
  go_region_held3 (fun w'=>W3.grownBy w' (some (W.heap.size + 1))) (first | with_reducible assumption | with_reducible exact gDr (gRf _ _) | with_reducible exact grow_setR (by assumption) | with_reducible exact gTr (by assumption) (gAq (gBq _)) | with_reducible exact gDr (gAq (gBq _))) (first
   | (go_at_call 29;refine (of_any 3 _ _ _ _).mono ?_;rintro e w10 ⟨rfl,hg⟩;have HU0:=jh (LiesT.oq (t:=3) ⟨by decide,by decide⟩ (RowC.grow (RowC.nil _ none 0) (undrew hg)));have HG10:Hid (W3.grownBy w10 none):=gTq (gRf _ _) (undrew hg);have hS:W3.grownBy w10 (some (W.heap.size + 1)):=gAq HG10.out;clear hg)
   | (go_at_call 108;have hprev:=HG10.out;clear hprev;refine (pAq (HD.out.grow (gTq HG10.out (gBq _))) (RowC.one (heap_alloc_new w10 _) (HU0.out.same (sAl (gBq _)))) (by simp;omega)).mono ?_;rintro e w5 hp;obtain ⟨a5,l5,c5,f5,er5,rfl,hS5,q0,q1,q2,HB5,HL5⟩:=lFq hp HG3.out (gTq HG10.out (gBq _)) HR3.out;clear hp))
  go_wp2_with fail
  exact eLq (fun w z0 z1=>by simp [results,Tryz.results87,go_sem,z0,z1]) rfl HB5.out HL5.out
theorem reckons_95n {W:World} {n:Int} {ta ra da:Option Addr} {tl tc rl rc dl dc:Nat} {dk dn dp:Int} {ds:ByteArray} {s types:List Ty} {sv:Value} (hs:RowC W s sv) (hT:RowC W types (.slice ta tl tc)) (hc:sFq s [4] = false) (hgd:s.all gYq = true) (hn:s.length <= 1000) :
 Calls Tryz.prog 87 #[insV 95 n ta tl tc ra rl rc dk dn dp ds da dl dc,sv] W (LPq (.no 5) W):=by
 obtain ⟨sa,sl,sc,e1⟩:=hs.form3
 subst e1
 unfold insV
 obtain ⟨hg3,hI3,hR3,hK3⟩:=start3 W (.cells #[.int .i64 95,.int .i64 n,.slice ta tl tc,.slice ra rl rc,.int .i64 dk,.int .i64 dn,.int .i64 dp,.string ds,.slice da dl dc] 115) (.cells #[.slice none 0 0,.bool false] 62) (.cells #[.int .i64 4] 3)
 have hs3:=hs.grow hg3
 have HST:=jh (sTq (ks:=[4]) (kc:=1) hs3 (kinds1 hK3) (by decide))
 rw [hc] at HST
 have hT3:=hT.grow hg3
 have hlen:0 <= s.length:=Nat.zero_le _
 obtain ⟨hsl,hsc,_⟩:=hs3.len
 have b1:(sl:Int) <= (sc:Int):=by omega
 have HSL:=jh hsl
 have HG3:=jh hg3
 have HI3:=jh hI3
 have HR3:=jh hR3
 have HS3:=jh hs3
 have HLEN:=jh hlen
 clear hg3 hI3 hR3 hs hs3 hT hT3 hsl hlen hgd hc hK3
 go_enter Tryz.func87,Tryz.ntmps87
 go_wp2_with fail
 refine HST.out.mono ?_;rintro e w1 ⟨rfl,rfl⟩
 clear HST
 generalize ((W.alloc _).alloc _).alloc _ = W3 at *
 obtain ⟨i0,i1,i2,i3,_⟩:=box9 HI3.out
 have hS3:W3.grownBy W3 (some (W.heap.size + 1)):=gRf _ _
 go_wp2_with fail
 refine (isOfTwo_any 95 _).mono ?_;rintro e w9 ⟨rfl,rfl⟩
 go_wp2_with fail
 refine (rLq 5 (by decide) _).mono ?_
 rintro e w5 hp
 obtain ⟨a5,l5,c5,f5,er5,rfl,hS5,q0,q1,q2,HB5,HL5⟩:=lFq hp HG3.out (gRf _ _) HR3.out
 clear hp
 go_wp2_with fail
 exact eLq (fun w z0 z1=>by simp [results,Tryz.results87,go_sem,z0,z1]) rfl HB5.out HL5.out
theorem sends_else {W:World} {p n:Int} {ta ra da:Option Addr} {tl tc rl rc dl dc:Nat} {dk dn dp:Int} {ds:ByteArray} {s:List Ty} {sv:Value} (hs:RowC W s sv) (q1:p ≠ 88) (q2:p ≠ 89) (q3:p ≠ 90) (q4:p ≠ 91) (q5:p ≠ 92) :
 Calls Tryz.prog 91 #[insV p n ta tl tc ra rl rc dk dn dp ds da dl dc,sv] W (LPq (.no 5) W):=by
 obtain ⟨sa,sl,sc,e1⟩:=hs.form3
 subst e1
 unfold insV
 obtain ⟨hg3,hI3,hR3⟩:=start2 W (.cells #[.int .i64 p,.int .i64 n,.slice ta tl tc,.slice ra rl rc,.int .i64 dk,.int .i64 dn,.int .i64 dp,.string ds,.slice da dl dc] 115) (.cells #[.slice none 0 0,.bool false] 62)
 have hs3:=hs.grow hg3
 obtain ⟨hsl,hsc,_⟩:=hs3.len
 have p0:(p == 88) = false:=by rw [beq_eq_false_iff_ne];omega
 have p1:(p == 89) = false:=by rw [beq_eq_false_iff_ne];omega
 have p2:(p == 90) = false:=by rw [beq_eq_false_iff_ne];omega
 have p3:(p == 91) = false:=by rw [beq_eq_false_iff_ne];omega
 have p4:(p == 92) = false:=by rw [beq_eq_false_iff_ne];omega
 have HG3:=jh hg3
 have HI3:=jh hI3
 have HR3:=jh hR3
 have HS3:=jh hs3
 obtain ⟨i0,i1,i2,i3,_⟩:=box9 hI3
 clear hg3 hI3 hR3 hs hs3 hsl q1 q2 q3 q4 q5
 go_enter Tryz.func91,Tryz.ntmps91
 go_wp2_with fail
 generalize (W.alloc _).alloc _ = W3 at *
 refine (rLq 5 (by decide) _).mono ?_
 rintro e w5 hp
 obtain ⟨a5,l5,c5,f5,er5,rfl,hS5,q0,q1,q2,HB5,HL5⟩:=lFq hp HG3.out (gRf _ _) HR3.out
 clear hp
 go_wp2_with fail
 exact eLq (fun w z0 z1=>by simp [results,Tryz.results91,go_sem,z0,z1]) rfl HB5.out HL5.out
theorem moves_41a {W:World} {n:Int} {ta ra da:Option Addr} {tl tc rl rc dl dc:Nat} {dk dn dp:Int} {ds:ByteArray} {s:List Ty} {sv:Value} (hs:RowC W s sv) (h:¬ 1 <= n) :
 Calls Tryz.prog 82 #[insV 41 n ta tl tc ra rl rc dk dn dp ds da dl dc,sv] W (LPq (.no 5) W):=by
 obtain ⟨sa,sl,sc,e1⟩:=hs.form3
 subst e1
 unfold insV
 obtain ⟨hg3,hI3,hR3⟩:=start2 W (.cells #[.int .i64 41,.int .i64 n,.slice ta tl tc,.slice ra rl rc,.int .i64 dk,.int .i64 dn,.int .i64 dp,.string ds,.slice da dl dc] 115) (.cells #[.slice none 0 0,.bool false] 62)
 have hs3:=hs.grow hg3
 obtain ⟨hsl,hsc,_⟩:=hs3.len
 have HG3:=jh hg3
 have HI3:=jh hI3
 have HR3:=jh hR3
 have HS3:=jh hs3
 obtain ⟨i0,i1,i2,i3,_⟩:=box9 hI3
 clear hg3 hI3 hR3 hs hs3 hsl
 go_enter Tryz.func82,Tryz.ntmps82
 go_wp2_with fail
 generalize (W.alloc _).alloc _ = W3 at *
 refine (rLq 5 (by decide) _).mono ?_
 rintro e w5 hp
 obtain ⟨a5,l5,c5,f5,er5,rfl,hS5,q0,q1,q2,HB5,HL5⟩:=lFq hp HG3.out (gRf _ _) HR3.out
 clear hp
 go_wp2_with fail
 exact eLq (fun w z0 z1=>by simp [results,Tryz.results82,go_sem,z0,z1]) rfl HB5.out HL5.out
theorem moves_41b {W:World} {n:Int} {ta ra da:Option Addr} {tl tc rl rc dl dc:Nat} {dk dn dp:Int} {ds:ByteArray} {s:List Ty} {sv:Value} (hs:RowC W s sv) (h1:1 <= n) (h:¬ n <= (s.length:Int)) :
 Calls Tryz.prog 82 #[insV 41 n ta tl tc ra rl rc dk dn dp ds da dl dc,sv] W (LPq (.no 5) W):=by
 obtain ⟨sa,sl,sc,e1⟩:=hs.form3
 subst e1
 unfold insV
 obtain ⟨hg3,hI3,hR3⟩:=start2 W (.cells #[.int .i64 41,.int .i64 n,.slice ta tl tc,.slice ra rl rc,.int .i64 dk,.int .i64 dn,.int .i64 dp,.string ds,.slice da dl dc] 115) (.cells #[.slice none 0 0,.bool false] 62)
 have hs3:=hs.grow hg3
 obtain ⟨hsl,hsc,_⟩:=hs3.len
 have hx:¬ n <= (sl:Int):=by omega
 have HG3:=jh hg3
 have HI3:=jh hI3
 have HR3:=jh hR3
 have HS3:=jh hs3
 obtain ⟨i0,i1,i2,i3,_⟩:=box9 hI3
 clear hg3 hI3 hR3 hs hs3 hsl h
 go_enter Tryz.func82,Tryz.ntmps82
 go_wp2_with fail
 generalize (W.alloc _).alloc _ = W3 at *
 refine (rLq 5 (by decide) _).mono ?_
 rintro e w5 hp
 obtain ⟨a5,l5,c5,f5,er5,rfl,hS5,q0,q1,q2,HB5,HL5⟩:=lFq hp HG3.out (gRf _ _) HR3.out
 clear hp
 go_wp2_with fail
 exact eLq (fun w z0 z1=>by simp [results,Tryz.results82,go_sem,z0,z1]) rfl HB5.out HL5.out
theorem moves_41c {W:World} {m:Nat} {ta ra da:Option Addr} {tl tc rl rc dl dc:Nat} {dk dn dp:Int} {ds:ByteArray} {s:List Ty} {sv:Value} (hs:RowC W s sv) (hm:m < s.length) (hcp:copyT (tAq s m) = false) (hz:(tAq s m).size <= 50000000) (hn:s.length <= 1000) :
 Calls Tryz.prog 82 #[insV 41 ((m:Int) + 1) ta tl tc ra rl rc dk dn dp ds da dl dc,sv] W (LPq (.no 5) W):=by
 obtain ⟨sa,sl,sc,e1⟩:=hs.form3
 subst e1
 unfold insV
 obtain ⟨hg3,hI3,hR3⟩:=start2 W (.cells #[.int .i64 41,.int .i64 ((m:Int) + 1),.slice ta tl tc,.slice ra rl rc,.int .i64 dk,.int .i64 dn,.int .i64 dp,.string ds,.slice da dl dc] 115) (.cells #[.slice none 0 0,.bool false] 62)
 have hs3:=hs.grow hg3
 obtain ⟨hsl,hsc,_⟩:=hs3.len
 obtain ⟨b,o,t0,a0,l0,k0,rfl,x0a,x0b,hA0⟩:=hs3.at m hm
 have b0:(1:Int) <= (m:Int) + 1:=by omega
 have b2:(m:Int) + 1 <= (sl:Int):=by omega
 have b3:(m:Int) < (sl:Int):=by omega
 have b4:m < sl:=by omega
 have b5:(m:Int) <= 1000:=by omega
 rw [show 2 * m = m * 2 from Nat.mul_comm _ _] at x0a x0b
 rw [← Nat.add_assoc] at x0b
 have HA0:=jh hA0
 have HG3:=jh hg3
 have HI3:=jh hI3
 have HR3:=jh hR3
 have HS3:=jh hs3
 obtain ⟨i0,i1,i2,i3,_⟩:=box9 hI3
 clear hg3 hI3 hR3 hs hs3 hsl hA0 hm
 go_enter Tryz.func82,Tryz.ntmps82
 go_wp2_with fail
 generalize (W.alloc _).alloc _ = W3 at *
 refine (copied_any HA0.out.low hz).mono ?_;rintro e w1 ⟨rfl,hg⟩
 rw [hcp]
 replace i0:=kNq hg i0
 replace i1:=kNq hg i1
 replace HR3:=bCq HR3 hg
 replace HG3:=gCq HG3 hg
 clear hg i2 i3
 go_wp2_with fail
 refine (rLq 5 (by decide) _).mono ?_
 rintro e w5 hp
 obtain ⟨a5,l5,c5,f5,er5,rfl,hS5,q0,q1,q2,HB5,HL5⟩:=lFq hp HG3.out (gRf _ _) HR3.out
 clear hp
 go_wp2_with fail
 exact eLq (fun w z0 z1=>by simp [results,Tryz.results82,go_sem,z0,z1]) rfl HB5.out HL5.out
theorem moves_43n {W:World} {n:Int} {ta ra da:Option Addr} {tl tc rl rc dl dc:Nat} {dk dn dp:Int} {ds:ByteArray} {s:List Ty} {sv:Value} (hs:RowC W s sv) (h:¬ n < (s.length:Int)) :
 Calls Tryz.prog 82 #[insV 43 n ta tl tc ra rl rc dk dn dp ds da dl dc,sv] W (LPq (.no 5) W):=by
 obtain ⟨sa,sl,sc,e1⟩:=hs.form3
 subst e1
 unfold insV
 obtain ⟨hg3,hI3,hR3⟩:=start2 W (.cells #[.int .i64 43,.int .i64 n,.slice ta tl tc,.slice ra rl rc,.int .i64 dk,.int .i64 dn,.int .i64 dp,.string ds,.slice da dl dc] 115) (.cells #[.slice none 0 0,.bool false] 62)
 have hs3:=hs.grow hg3
 obtain ⟨hsl,hsc,_⟩:=hs3.len
 have hx:¬ n < (sl:Int):=by omega
 have HG3:=jh hg3
 have HI3:=jh hI3
 have HR3:=jh hR3
 have HS3:=jh hs3
 obtain ⟨i0,i1,i2,i3,_⟩:=box9 hI3
 clear hg3 hI3 hR3 hs hs3 hsl h
 go_enter Tryz.func82,Tryz.ntmps82
 go_wp2_with fail
 generalize (W.alloc _).alloc _ = W3 at *
 refine (rLq 5 (by decide) _).mono ?_
 rintro e w5 hp
 obtain ⟨a5,l5,c5,f5,er5,rfl,hS5,q0,q1,q2,HB5,HL5⟩:=lFq hp HG3.out (gRf _ _) HR3.out
 clear hp
 go_wp2_with fail
 exact eLq (fun w z0 z1=>by simp [results,Tryz.results82,go_sem,z0,z1]) rfl HB5.out HL5.out
theorem moves_44n {W:World} {n:Int} {ta ra da:Option Addr} {tl tc rl rc dl dc:Nat} {dk dn dp:Int} {ds:ByteArray} {s:List Ty} {sv:Value} (hs:RowC W s sv) (h:¬ n < (s.length:Int)) :
 Calls Tryz.prog 82 #[insV 44 n ta tl tc ra rl rc dk dn dp ds da dl dc,sv] W (LPq (.no 5) W):=by
 obtain ⟨sa,sl,sc,e1⟩:=hs.form3
 subst e1
 unfold insV
 obtain ⟨hg3,hI3,hR3⟩:=start2 W (.cells #[.int .i64 44,.int .i64 n,.slice ta tl tc,.slice ra rl rc,.int .i64 dk,.int .i64 dn,.int .i64 dp,.string ds,.slice da dl dc] 115) (.cells #[.slice none 0 0,.bool false] 62)
 have hs3:=hs.grow hg3
 obtain ⟨hsl,hsc,_⟩:=hs3.len
 have hx:¬ n < (sl:Int):=by omega
 have HG3:=jh hg3
 have HI3:=jh hI3
 have HR3:=jh hR3
 have HS3:=jh hs3
 obtain ⟨i0,i1,i2,i3,_⟩:=box9 hI3
 clear hg3 hI3 hR3 hs hs3 hsl h
 go_enter Tryz.func82,Tryz.ntmps82
 go_wp2_with fail
 generalize (W.alloc _).alloc _ = W3 at *
 refine (rLq 5 (by decide) _).mono ?_
 rintro e w5 hp
 obtain ⟨a5,l5,c5,f5,er5,rfl,hS5,q0,q1,q2,HB5,HL5⟩:=lFq hp HG3.out (gRf _ _) HR3.out
 clear hp
 go_wp2_with fail
 exact eLq (fun w z0 z1=>by simp [results,Tryz.results82,go_sem,z0,z1]) rfl HB5.out HL5.out
theorem moves_41 {W:World} {m:Nat} {ta ra da:Option Addr} {tl tc rl rc dl dc:Nat} {dk dn dp:Int} {ds:ByteArray} {s:List Ty} {sv:Value} (hs:RowC W s sv) (hm:m < s.length) (hcp:copyT (tAq s m) = true) (hz:(tAq s m).size <= 50000000) (hn:s.length <= 1000) :
 Calls Tryz.prog 82 #[insV 41 ((m:Int) + 1) ta tl tc ra rl rc dk dn dp ds da dl dc,sv] W (LPq (pFq s [tAq s m]) W):=by
 obtain ⟨sa,sl,sc,e1⟩:=hs.form3
 subst e1
 unfold insV
 obtain ⟨hg3,hI3,hR3⟩:=start2 W (.cells #[.int .i64 41,.int .i64 ((m:Int) + 1),.slice ta tl tc,.slice ra rl rc,.int .i64 dk,.int .i64 dn,.int .i64 dp,.string ds,.slice da dl dc] 115) (.cells #[.slice none 0 0,.bool false] 62)
 have hs3:=hs.grow hg3
 obtain ⟨hsl,hsc,_⟩:=hs3.len
 obtain ⟨b,o,t0,a0,l0,k0,rfl,x0a,x0b,hA0⟩:=hs3.at m hm
 have b0:(1:Int) <= (m:Int) + 1:=by omega
 have b2:(m:Int) + 1 <= (sl:Int):=by omega
 have b3:(m:Int) < (sl:Int):=by omega
 have b4:m < sl:=by omega
 have b5:(m:Int) <= 1000:=by omega
 rw [show 2 * m = m * 2 from Nat.mul_comm _ _] at x0a x0b
 rw [← Nat.add_assoc] at x0b
 have HA0:=jh hA0
 have HG3:=jh hg3
 have HI3:=jh hI3
 have HR3:=jh hR3
 have HS3:=jh hs3
 obtain ⟨i0,i1,i2,i3,_⟩:=box9 hI3
 clear hg3 hI3 hR3 hs hs3 hA0 hsl hm
 go_enter Tryz.func82,Tryz.ntmps82
 go_wp2_with fail
 generalize (W.alloc _).alloc _ = W3 at *
 refine (copied_any HA0.out.low hz).mono ?_;rintro e w1 ⟨rfl,hg⟩
 rw [hcp]
 replace i0:=kNq hg i0
 replace i1:=kNq hg i1
 replace x0a:=kNq hg x0a
 replace x0b:=kNq hg x0b
 replace HR3:=bCq HR3 hg
 replace HS3:=rCq HS3 hg
 replace HG3:=gCq HG3 hg
 replace HA0:=tCq HA0 hg
 clear hg i2 i3
 go_wp2_with fail
 refine (pAq (HS3.out.grow (gBq _)) (RowC.one (heap_alloc_new w1 _) (HA0.out.same (sAl (gBq _)))) (by simp <;> omega)).mono ?_
 rintro e w5 hp
 obtain ⟨a5,l5,c5,f5,er5,rfl,hS5,q0,q1,q2,HB5,HL5⟩:=lFq hp HG3.out (gBq _) HR3.out
 clear hp
 go_wp2_with fail
 exact eLq (fun w z0 z1=>by simp [results,Tryz.results82,go_sem,z0,z1]) rfl HB5.out HL5.out
end Go.Proofs.YtkglnoimbekhhaaGreat
