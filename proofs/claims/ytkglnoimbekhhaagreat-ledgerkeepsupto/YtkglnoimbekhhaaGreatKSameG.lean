import Derived.Test.YtkglnoimbekhhaaGreatKSideN
import Derived.Test.YtkglnoimbekhhaaGreatKZc
import Derived.Test.YtkglnoimbekhhaaGreatKZt
namespace Go.Proofs.YtkglnoimbekhhaaGreat
set_option maxRecDepth 100000
set_option maxHeartbeats 4000000
open Go.ChangeShapes Go.WideShapes Go.ChangeAt Go.RowKit
set_option linter.unusedVariables false
theorem toListI {a b:ByteArray} (h:a.toList = b.toList):a = b:=by
 have h4:a.data = b.data:=by
  apply Array.ext'
  rw [ByteArray.toList_eq,ByteArray.toList_eq] at h
  exact h
 cases a;cases b;simp_all
def sameCN (x y:Tr):Int:=if kN x = kN y /\ nN x = nN y /\ pN x = pN y /\ (sN x).toList = (sN y).toList then 0 else 1
def sameGC (x y:Va):Int:=if (x.k = y.k /\ x.n = y.n /\ x.a = y.a /\ x.s.toList = y.s.toList) /\ sameTs x.types y.types = true /\ sbsNs sameCN x.code y.code = 0 then 0 else 1
theorem ent_sc2:∀ args w,(callFunc 36 args).run Tryz.prog w = .ok (.enter 36 args) w:=fun args w=>by simp [go_sem]
theorem ent_same1g:∀ args w,(callFunc 25 args).run Tryz.prog w = .ok (.enter 25 args) w:=fun args w=>by simp [go_sem]
theorem ncmp_any {w:World} {x y:Tr} {u v:Value} (hx:Lies (fun _=>True) w x u) (hy:Lies (fun _=>True) w y v) (W:World) :
 Calls Tryz.prog 36 #[u,v] W fun e w'=>e = .returned (.int .i64 (sameCN x y)) /\ W.grownBy w' none:=by
 cases hx with
 | @mk xk xn xp xs args a c hk V hl hs ik iN ip hc hr =>
 cases hy with
 | @mk yk yn yp ys args2 a2 c2 hk2 V2 hl2 hs2 ik2 iN2 ip2 hc2 hr2 =>
 generalize hq:sameCN _ _ = q
 have HR:Hid (q = if xk = yk /\ xn = yn /\ xp = yp /\ xs.toList = ys.toList then 0 else 1):=hq.symm
 clear hq hc hr hc2 hr2 ik iN ip ik2 iN2 ip2 hl hl2 hk hk2 hs hs2
 generalize args.length = xl at *
 generalize args2.length = yl at *
 unfold nodeV at *
 by_cases h1:xk = yk
 case neg =>
  have z1:(xk == yk) = false:=by simpa using h1
  have z2:(xk != yk) = true:=by simpa using h1
  have HQ:Hid (q = 1):=by show q = 1;rw [HR.out,if_neg (fun e=>h1 e.1)]
  clear HR
  go_enter Tryz.func36,Tryz.ntmps36
  go_wp2_with fail
  go_ret
  exact Lf.reti HQ.out.symm (gTq (gBq _) (gBq _))
 subst h1
 by_cases h2:xn = yn
 case neg =>
  have z1:(xn == yn) = false:=by simpa using h2
  have z2:(xn != yn) = true:=by simpa using h2
  have HQ:Hid (q = 1):=by show q = 1;rw [HR.out,if_neg (fun e=>h2 e.2.1)]
  clear HR
  go_enter Tryz.func36,Tryz.ntmps36
  go_wp2_with fail
  go_ret
  exact Lf.reti HQ.out.symm (gTq (gBq _) (gBq _))
 subst h2
 by_cases h3:xp = yp
 case neg =>
  have z1:(xp == yp) = false:=by simpa using h3
  have z2:(xp != yp) = true:=by simpa using h3
  have HQ:Hid (q = 1):=by show q = 1;rw [HR.out,if_neg (fun e=>h3 e.2.2.1)]
  clear HR
  go_enter Tryz.func36,Tryz.ntmps36
  go_wp2_with fail
  go_ret
  exact Lf.reti HQ.out.symm (gTq (gBq _) (gBq _))
 subst h3
 by_cases h4:xs.toList = ys.toList
 case neg =>
  have z3:¬ xs.toList = ys.toList:=h4
  have z1:(xs.toList == ys.toList) = false:=by simpa using h4
  have HQ:Hid (q = 1):=by show q = 1;rw [HR.out,if_neg (fun e=>h4 e.2.2.2)]
  clear HR
  go_enter Tryz.func36,Tryz.ntmps36
  go_wp2_with fail
  go_ret
  exact Lf.reti HQ.out.symm (gTq (gBq _) (gBq _))
 obtain rfl:=toListI h4
 have HQ:Hid (q = 0):=by show q = 0;rw [HR.out,if_pos ⟨rfl,rfl,rfl,rfl⟩]
 clear HR h4
 go_enter Tryz.func36,Tryz.ntmps36
 go_wp2_with fail
 go_ret
 exact Lf.reti HQ.out.symm (gTq (gBq _) (gBq _))
theorem sameCode_any {w:World} {xs ys:List Tr} {a b:Option Addr} {ca cb:Nat} {V V2:Nat -> Value} (hca:xs.length <= ca) (hcb:ys.length <= cb) (hx:RowN (fun _=>True) w xs a V) (hy:RowN (fun _=>True) w ys b V2) (hz:sizes xs <= 20000000) (W:World) (hW:w.grownBy W none) :
 Calls Tryz.prog 26 #[.slice a xs.length ca,.slice b ys.length cb] W fun e w'=>e = .returned (.bool (decide (sbsNs sameCN xs ys = 0))) /\ W.grownBy w' none:=by
 have H:=jh (fun W2 (h:W.grownBy W2 none)=>sideN_any sameCN 36 ent_sc2 (w0:=W2) hca hcb (hx.same (sAl (gTq hW h))) (hy.same (sAl (gTq hW h))) (fun x y u v W3 h3 hx hy _=>ncmp_any hx hy W3) hz)
 clear hx hy hz hW hca hcb
 generalize sbsNs sameCN xs ys = r at *
 generalize xs.length = xl at *
 generalize ys.length = yl at *
 go_enter Tryz.func26,Tryz.ntmps26
 go_wp2_with fail
 refine (H.out _ (gRf _ _)).mono ?_;rintro e w1 ⟨rfl,hg⟩
 have HG:=jh hg
 clear hg
 go_wp2_with fail
 go_ret
 exact Lf.retb (by rw [Bool.eq_iff_iff];simp) HG.out
theorem LiesV.codeCap {ok:Nat -> Prop} {w:World} {x:Va} {v:Value} (h:LiesV ok w x v):∃ aa ac ta tc na nc VT VN,v = Go.Proofs.YtkglnoimbekhhaaGreat.vaV x.k x.n x.a x.s aa x.args.length ac ta x.types.length tc na x.code.length nc /\ (x.code.length <= nc /\ x.types.length <= tc) /\ RowT ok w x.types ta VT /\ RowN ok w x.code na VN:=by
 cases h with
 | mk V VT VN hl hlc hs ik iN ia hT hN hc hr=>exact ⟨_,_,_,_,_,_,VT,VN,rfl,by assumption,hT,hN⟩
theorem same1g_any {w:World} {x y:Va} {u v:Value} (hx:LiesV (fun _=>True) w x u) (hy:LiesV (fun _=>True) w y v) (hz:x.size <= 20000000) (W:World) (hW:w.grownBy W none) :
 Calls Tryz.prog 25 #[u,v] W fun e w'=>e = .returned (.int .i64 (sameGC x y)) /\ W.grownBy w' none:=by
 obtain ⟨aa,ac,ta,tc,na,nc,VT,VN,rfl,⟨hk,_⟩,hT,hN⟩:=hx.codeCap
 obtain ⟨aa2,ac2,ta2,tc2,na2,nc2,VT2,VN2,rfl,⟨hk2,_⟩,hT2,hN2⟩:=hy.codeCap
 have hzz:=vsize_eq x
 have HE:=jh (fun W2 (h:W.grownBy W2 none)=>eqTypes_any (ca:=tc) (cb:=tc2) hT hT2 (by omega) W2 (gTq hW h))
 have HC:=jh (fun W2 (h:W.grownBy W2 none)=>sameCode_any (ca:=nc) (cb:=nc2) hk hk2 hN hN2 (by omega) W2 (gTq hW h))
 have hR:sameGC x y = if (x.k = y.k /\ x.n = y.n /\ x.a = y.a /\ x.s.toList = y.s.toList) /\ sameTs x.types y.types = true /\ sbsNs sameCN x.code y.code = 0 then 0 else 1:=rfl
 clear hx hy hT hT2 hN hN2 hk hk2 hz hW hzz
 generalize sameGC x y = q at *
 have HR:=jh hR
 clear hR
 generalize sameTs x.types y.types = st at *
 generalize sbsNs sameCN x.code y.code = sn at *
 generalize x.k = xk at *
 generalize y.k = yk at *
 generalize x.n = xn at *
 generalize y.n = yn at *
 generalize x.a = xa at *
 generalize y.a = ya at *
 generalize x.s = xs at *
 generalize y.s = ys at *
 generalize x.args.length = xl at *
 generalize y.args.length = yl at *
 generalize x.types.length = xt at *
 generalize y.types.length = yt at *
 generalize x.code.length = xc at *
 generalize y.code.length = yc at *
 unfold vaV at *
 by_cases h1:xk = yk
 case neg =>
  have z1:(xk == yk) = false:=by simpa using h1
  have z2:(xk != yk) = true:=by simpa using h1
  have HQ:Hid (q = 1):=by show q = 1;rw [HR.out,if_neg (fun e=>h1 e.1.1)]
  clear HR HE HC
  go_enter Tryz.func25,Tryz.ntmps25
  go_wp2_with fail
  go_ret
  exact Lf.reti HQ.out.symm (gTq (gBq _) (gBq _))
 subst h1
 by_cases h2:xn = yn
 case neg =>
  have z1:(xn == yn) = false:=by simpa using h2
  have z2:(xn != yn) = true:=by simpa using h2
  have HQ:Hid (q = 1):=by show q = 1;rw [HR.out,if_neg (fun e=>h2 e.1.2.1)]
  clear HR HE HC
  go_enter Tryz.func25,Tryz.ntmps25
  go_wp2_with fail
  go_ret
  exact Lf.reti HQ.out.symm (gTq (gBq _) (gBq _))
 subst h2
 by_cases h3:xa = ya
 case neg =>
  have z1:(xa == ya) = false:=by simpa using h3
  have z2:(xa != ya) = true:=by simpa using h3
  have HQ:Hid (q = 1):=by show q = 1;rw [HR.out,if_neg (fun e=>h3 e.1.2.2.1)]
  clear HR HE HC
  go_enter Tryz.func25,Tryz.ntmps25
  go_wp2_with fail
  go_ret
  exact Lf.reti HQ.out.symm (gTq (gBq _) (gBq _))
 subst h3
 by_cases h4:xs.toList = ys.toList
 case neg =>
  have z3:¬ xs.toList = ys.toList:=h4
  have z1:(xs.toList == ys.toList) = false:=by simpa using h4
  have HQ:Hid (q = 1):=by show q = 1;rw [HR.out,if_neg (fun e=>h4 e.1.2.2.2)]
  clear HR HE HC
  go_enter Tryz.func25,Tryz.ntmps25
  go_wp2_with fail
  go_ret
  exact Lf.reti HQ.out.symm (gTq (gBq _) (gBq _))
 obtain rfl:=toListI h4
 clear h4
 have HG0:=jh (gTq (gBq (w:=W) (.cells #[.int .i64 xk,.int .i64 xn,.int .i64 xa,.string xs,.slice aa xl ac,.slice ta xt tc,.slice na xc nc] 28)) (gBq (.cells #[.int .i64 xk,.int .i64 xn,.int .i64 xa,.string xs,.slice aa2 yl ac2,.slice ta2 yt tc2,.slice na2 yc nc2] 28)))
 have HX0:=jh (rNw W (.cells #[.int .i64 xk,.int .i64 xn,.int .i64 xa,.string xs,.slice aa xl ac,.slice ta xt tc,.slice na xc nc] 28) (.cells #[.int .i64 xk,.int .i64 xn,.int .i64 xa,.string xs,.slice aa2 yl ac2,.slice ta2 yt tc2,.slice na2 yc nc2] 28))
 have HY0:=jh (heap_alloc_new (W.alloc (.cells #[.int .i64 xk,.int .i64 xn,.int .i64 xa,.string xs,.slice aa xl ac,.slice ta xt tc,.slice na xc nc] 28)) (.cells #[.int .i64 xk,.int .i64 xn,.int .i64 xa,.string xs,.slice aa2 yl ac2,.slice ta2 yt tc2,.slice na2 yc nc2] 28))
 rw [show (W.alloc (.cells #[.int .i64 xk,.int .i64 xn,.int .i64 xa,.string xs,.slice aa xl ac,.slice ta xt tc,.slice na xc nc] 28)).heap.size = W.heap.size + 1 from by simp] at HY0
 cases st with
 | false =>
  have HQ:Hid (q = 1):=by show q = 1;rw [HR.out,if_neg (fun e=>by have:=e.2.1;cases this)]
  clear HR HC
  go_enter Tryz.func25,Tryz.ntmps25
  go_wp2_with fail
  refine (HE.out _ HG0.out).mono ?_;rintro e w1 ⟨rfl,hg⟩
  have HG1:=jh (gTq HG0.out hg)
  clear hg
  go_wp2_with fail
  go_ret
  exact Lf.reti HQ.out.symm HG1.out
 | true =>
  by_cases hn:sn = 0
  ·subst hn
   have HQ:Hid (q = 0):=by show q = 0;rw [HR.out,if_pos ⟨⟨rfl,rfl,rfl,rfl⟩,rfl,rfl⟩]
   rw [decide_eq_true rfl] at HC
   clear HR
   go_enter Tryz.func25,Tryz.ntmps25
   go_wp2_with fail
   refine (HE.out _ HG0.out).mono ?_;rintro e w1 ⟨rfl,hg⟩
   obtain ⟨_,_,_,_,_,_,m6⟩:=box7 ((hg.block _ (Array.getElem?_eq_some_iff.1 HX0.out).1 (by simp)).trans HX0.out)
   obtain ⟨_,_,_,_,_,_,r6⟩:=box7 ((hg.block _ (Array.getElem?_eq_some_iff.1 HY0.out).1 (by simp)).trans HY0.out)
   have HG1:=jh (gTq HG0.out hg)
   clear hg
   go_wp2_with fail
   refine (HC.out _ HG1.out).mono ?_;rintro e w2 ⟨rfl,hg⟩
   have HG2:=jh (gTq HG1.out hg)
   clear hg
   go_wp2_with fail
   go_ret
   exact Lf.reti HQ.out.symm HG2.out
  ·have HQ:Hid (q = 1):=by show q = 1;rw [HR.out,if_neg (fun e=>hn e.2.2)]
   rw [decide_eq_false hn] at HC
   clear HR hn
   go_enter Tryz.func25,Tryz.ntmps25
   go_wp2_with fail
   refine (HE.out _ HG0.out).mono ?_;rintro e w1 ⟨rfl,hg⟩
   obtain ⟨_,_,_,_,_,_,m6⟩:=box7 ((hg.block _ (Array.getElem?_eq_some_iff.1 HX0.out).1 (by simp)).trans HX0.out)
   obtain ⟨_,_,_,_,_,_,r6⟩:=box7 ((hg.block _ (Array.getElem?_eq_some_iff.1 HY0.out).1 (by simp)).trans HY0.out)
   have HG1:=jh (gTq HG0.out hg)
   clear hg
   go_wp2_with fail
   refine (HC.out _ HG1.out).mono ?_;rintro e w2 ⟨rfl,hg⟩
   have HG2:=jh (gTq HG1.out hg)
   clear hg
   go_wp2_with fail
   go_ret
   exact Lf.reti HQ.out.symm HG2.out
theorem sameG_any {w:World} {x y:Va} {u v:Value} (hx:LiesV (fun _=>True) w x u) (hy:LiesV (fun _=>True) w y v) (hz:x.size <= 20000000) (W:World) (hW:w.grownBy W none) :
 Calls Tryz.prog 17 #[u,v] W fun e w'=>e = .returned (.bool (decide (sbsV sameGC x y = 0))) /\ W.grownBy w' none:=by
 obtain ⟨k1,n1,a1,s1,aa1,al1,ac1,ta1,tl1,tc1,na1,nl1,nc1,rfl⟩:=hx.vaV
 obtain ⟨k2,n2,a2,s2,aa2,al2,ac2,ta2,tl2,tc2,na2,nl2,nc2,rfl⟩:=hy.vaV
 have HX:=jh (LiesV.up hx hW)
 have HY:=jh (LiesV.up hy hW)
 have HZ:=jh hz
 have hS:∀ (W2:World) (b c:Nat) (ca cb:Nat),W.grownBy W2 none -> 1 <= ca -> 1 <= cb -> W2.heap[b]? = some (.cells #[.int .i64 k1,.int .i64 n1,.int .i64 a1,.string s1,.slice aa1 al1 ac1,.slice ta1 tl1 tc1,.slice na1 nl1 nc1] 28 (0,0)) -> W2.heap[c]? = some (.cells #[.int .i64 k2,.int .i64 n2,.int .i64 a2,.string s2,.slice aa2 al2 ac2,.slice ta2 tl2 tc2,.slice na2 nl2 nc2] 28 (0,0)) ->
  Calls Tryz.prog 23 #[.slice (some ⟨b,0,none⟩) 1 ca,.slice (some ⟨c,0,none⟩) 1 cb,.func (.func 24) #[] #[],.func (.func 25) #[] #[]] W2 fun e w'=>e = .returned (.int .i64 (sbsV sameGC x y)) /\ W2.grownBy w' none:=by
  intro W2 b c ca cb hg h1 h2 hb hc
  have h:=side_any sameGC 25 ent_same1g (w0:=W2) (xs:=[x]) (ys:=[y]) (ca:=ca) (cb:=cb) h1 h2 (rowOneV hb (LiesV.up HX.out hg)) (rowOneV hc (LiesV.up HY.out hg)) (fun x' y' u v W3 h3 hx hy hsz=>same1g_any hx hy (by have:=HZ.out;simp [vsizes] at hsz;omega) W3 h3) (by have:=HZ.out;simp [vsizes];omega)
  rw [sbsVs_one] at h
  exact h
 have HS:=jh hS
 clear hS hx hy hz hW
 generalize sbsV sameGC x y = r at *
 unfold vaV at *
 go_enter Tryz.func17,Tryz.ntmps17
 go_wp2_with fail
 refine (HS.out _ _ _ 1 1 (gTq (gTq (gTq (gBq _) (gBq _)) (gBq _)) (gBq _)) (Nat.le_refl _) (Nat.le_refl _) (new_3of4 _ _ _ _ _) (new_4of4 _ _ _ _ _)).mono ?_;rintro e w1 ⟨rfl,hg⟩
 have HG:=jh (gTq (gTq (gTq (gTq (gBq _) (gBq _)) (gBq _)) (gBq _)) hg)
 clear hg
 go_wp2_with fail
 go_ret
 exact Lf.retb (by rw [Bool.eq_iff_iff];simp) HG.out
end Go.Proofs.YtkglnoimbekhhaaGreat
