import Derived.Test.YtkglnoimbekhhaaGreatKChkT
import Derived.Test.YtkglnoimbekhhaaGreatKZy
namespace Go.Proofs.YtkglnoimbekhhaaGreat
open Go.ChangeShapes Go.WideShapes Go.ChangeAt Go.RowKit
set_option linter.unusedVariables false
set_option maxRecDepth 100000
set_option maxHeartbeats 4000000
theorem lamsF_eq (y:Va):lamsF y = ((!decide (y.k = 14) || meansF y) && lamsFs y.args):=by cases y;rw [lamsF];rfl
theorem lamsFs_drop (l:List Va) (j:Nat) (h:j < l.length):lamsFs (l.drop j) = (lamsF l[j] && lamsFs (l.drop (j + 1))):=by
 rw [List.drop_eq_getElem_cons h,lamsFs]
mutual
def lam2:Va -> Bool
 | .mk k n a s args types code=>(!decide (k = 14) || decide (types.length = 2)) && lam2s args
def lam2s:List Va -> Bool
 | []=>true
 | x :: xs=>lam2 x && lam2s xs
end
theorem lam2_eq (y:Va):lam2 y = ((!decide (y.k = 14) || decide (y.types.length = 2)) && lam2s y.args):=by cases y;rw [lam2];rfl
theorem lam2s_all:∀ l:List Va,lam2s l = l.all lam2
 | []=>rfl
 | x :: l=>by rw [lam2s,lam2s_all l];rfl
theorem sameTs_length:∀ {a b:List Ty},sameTs a b = true -> a.length = b.length
 | [],[],_=>rfl
 | [],_ :: _,h=>by simp [sameTs] at h
 | _ :: _,[],h=>by simp [sameTs] at h
 | _ :: a,_ :: b,h=>by
  simp only [sameTs,Bool.and_eq_true] at h
  simp [sameTs_length h.2]
theorem lam2_of (N:Nat):∀ (x:Va) (T:Ty),x.size <= N -> (∃ d,fBq d T = true) -> hasV x T = true -> lam2 x = true:=by
 induction N with
 | zero=>intro x T h;have:=vsize_pos x;omega
 | succ N ih =>
  intro x T hN hd h
  have hd':=hd
  rw [hasV_eq] at h
  cases hp:partsOf T x with
  | none=>rw [hp] at h;simp at h
  | some ps =>
   rw [hp] at h
   simp only [Bool.and_eq_true] at h
   obtain ⟨⟨hf,hps⟩,_⟩:=h
   have hform:=parts_formed hd hf hp
   unfold partsOf at hp
   cases ha:argTys T x with
   | none=>rw [ha] at hp;simp at hp
   | some ts =>
    rw [ha] at hp
    simp only [Option.map_some,Option.some.injEq] at hp
    have hlen:=argTys_len ha
    have hsz:=vsize_eq x
    rw [lam2_eq,lam2s_all]
    simp only [Bool.and_eq_true]
    refine ⟨?_,List.all_eq_true.2 fun y hy=>?_⟩
    ·obtain ⟨d,hd⟩:=hd'
     unfold fitsF at hf
     simp only [Bool.and_eq_true,decide_eq_true_eq] at hf
     obtain ⟨⟨⟨⟨⟨hk,_⟩,_⟩,_⟩,ht⟩,_⟩:=hf
     by_cases h14:x.k = 14
     ·have hT:T.t = 14:=by rw [← hk];exact h14
      unfold fitsTF at ht
      rw [if_neg (by omega),if_pos hT] at ht
      have e1:=sameTs_length ht
      have e2:=(formed_args hd).1
      rw [hT] at e2
      have e3:partsF 14 = 2:=rfl
      rw [e3] at e2
      rw [decide_eq_true (show x.types.length = 2 by omega)];simp
     ·rw [decide_eq_false h14];rfl
    ·obtain ⟨i,hi,rfl⟩:=List.getElem_of_mem hy
     have hi2:i < ts.length:=by omega
     have hm:(ts[i],x.args[i]) ∈ ps:=by
      rw [← hp]
      have : (ts.zip x.args)[i]'(by simp;omega) = (ts[i],x.args[i]):=by simp
      rw [← this];exact List.getElem_mem _
     have h1:=List.all_eq_true.1 hps _ hm
     have h2:=vsize_mem hy
     exact ih _ _ (by omega) (hform _ hm) h1
def FRel (W:World) (R:Bool) (N n:Nat) (tv:Value) (wr:World):Prop :=
 ∃ (us:List Value) (M:List (List Va)),OwnsV W.heap.size wr tv us /\ MapsOk W M us /\ leftS M = n /\ n <= N /\ M.all lam2s = true /\ M.all lamsFs = R /\ W.grownBy wr none
def FIn (W:World) (R:Bool) (M':List (List Va)) (l:List Va) (j:Nat) (tv:Value) (wr:World):Prop :=
 ∃ (us:List Value),OwnsV W.heap.size wr tv us /\ MapsOk W (M' ++ pushS (l.take j)) us /\ (M' ++ pushS (l.take j)).all lam2s = true /\ ((M' ++ pushS (l.take j)).all lamsFs && lamsFs (l.drop j)) = R /\ W.grownBy wr none
theorem fitsL_any {w:World} {T:Ty} {x:Va} {t v:Value} (hT:LiesT (fun _=>True) w T t) (hV:LiesV (fun _=>True) w x v) (hz:x.size <= 2000000) (W:World) (hW:w.grownBy W none) :
 Calls Tryz.prog 19 #[t,v] W fun e w'=>e = .returned (.bool (fitsL T x)) /\ W.grownBy w' none:=by
 have HH:=jh (fun W2 (h:W.grownBy W2 none)=>has_any hT hV (by omega) W2 (gTq hW h))
 have HX2:Hid (hasF T x = true -> lam2 x = true):=fun h=>by
  unfold hasF at h
  simp only [Bool.and_eq_true] at h
  exact lam2_of _ x T (Nat.le_refl _) ⟨1,(goodTy_formed h.1).1⟩ h.2
 have HFI:Hid (fitsL T x = (hasF T x && lamsF x)):=rfl
 obtain ⟨k1,n1,a1,s1,aa1,al1,ac1,ta1,tl1,tc1,na1,nl1,nc1,rfl⟩:=hV.vaV
 obtain ⟨a,c,V,rfl,it,hRT⟩:=hT.inv
 have HV:=jh (LiesV.up hV hW)
 have HZ:=jh hz
 have hgm:=gTq (gBq (w:=W) (.cells #[.int .i64 T.t,.slice a T.args.length c] 24)) (gBq (.cells #[.int .i64 k1,.int .i64 n1,.int .i64 a1,.string s1,.slice aa1 al1 ac1,.slice ta1 tl1 tc1,.slice na1 nl1 nc1] 28))
 have hb1:=new_twoI W (.cells #[.int .i64 T.t,.slice a T.args.length c] 24) (.cells #[.int .i64 k1,.int .i64 n1,.int .i64 a1,.string s1,.slice aa1 al1 ac1,.slice ta1 tl1 tc1,.slice na1 nl1 nc1] 28)
 have HB1:=jh hb1
 have HGM:=jh hgm
 clear hV hz hT hRT it hW hgm hb1
 generalize fitsL T x = r at *
 unfold tyV vaV at *
 cases hh:hasF T x with
 | false =>
  rw [hh] at HH HFI
  go_enter Tryz.func19,Tryz.ntmps19
  go_wp2_with ((go_at_call 31;refine (HH.out _ HGM.out).mono ?_;rintro e w1 ⟨rfl,hg⟩;have HG:=jh (gTq HGM.out hg);clear hg))
  go_ret
  exact Lf.retb HFI.out.symm HG.out
 | true =>
  rw [hh] at HH HFI
  replace HX2:=jh (HX2.out hh)
  replace HFI:Hid (r = lamsF x):=HFI.out
  go_enter Tryz.func19,Tryz.ntmps19
  go_wp2_with ((go_at_call 31;refine (HH.out _ HGM.out).mono ?_;rintro e w1 ⟨rfl,hg⟩;have HG:=jh (gTq HGM.out hg);obtain ⟨d0,d1,d2,d3,d4,d5,d6⟩:=box7 (kBq HB1.out hg);clear hg))
  have hb2:=heap_alloc_new w1 (.cells #[.int .i64 k1,.int .i64 n1,.int .i64 a1,.string s1,.slice aa1 al1 ac1,.slice ta1 tl1 tc1,.slice na1 nl1 nc1] 28)
  have HGW:=jh (gTq HG.out (gBq (.cells #[.int .i64 k1,.int .i64 n1,.int .i64 a1,.string s1,.slice aa1 al1 ac1,.slice ta1 tl1 tc1,.slice na1 nl1 nc1] 28)))
  have HROW:=jh (rowOneV hb2 (LiesV.up HV.out HGW.out))
  have HSZ:Hid ((w1.alloc (.cells #[.int .i64 k1,.int .i64 n1,.int .i64 a1,.string s1,.slice aa1 al1 ac1,.slice ta1 tl1 tc1,.slice na1 nl1 nc1] 28)).heap.size = w1.heap.size + 1):=World.size_alloc _ _
  clear d0 d1 d2 d3 d4 d5 d6 hb2
  generalize w1.alloc _ = Wm at *
  obtain ⟨μ,hμ⟩:=least_of (fun n (p:Value × World)=>FRel Wm r (x.size + 1) n p.1 p.2)
  have HM:=jh hμ
  clear hμ
  go_loopw [5] (fun tv wr=>∃ n,FRel Wm r (x.size + 1) n tv wr) (fun tv wr=>μ (tv,wr))
  case atStart =>
   refine ⟨_,[.slice (some ⟨w1.heap.size,0,none⟩) 1 1],[[x]],?_,⟨⟨_,_,_,rfl,HROW.out,by have:=HZ.out;simp [vsizes];omega⟩,trivial⟩,rfl,by rw [leftS_one];simp [vsizes],by simp [lam2s,HX2.out],by rw [HFI.out];simp [lamsFs],gBq _⟩
   refine ⟨rfl,.inr ⟨w1.heap.size + 1,1,#[.slice (some ⟨w1.heap.size,0,none⟩) 1 1],rfl,by have:=HSZ.out;omega,?_,Nat.le_refl _,by decide,rfl,rfl⟩⟩
   rw [← HSZ.out]
   exact heap_alloc_new _ _
  case round =>
   obtain ⟨n0,hn0⟩:=hrel
   obtain ⟨us,M,hown,hrows,hn,hle,hl2,hR,hg⟩:=(HM.out (u5,wr) n0 hn0).1
   simp only at hown hg
   have hz:=HZ.out
   clear hn0
   by_cases hv:us.length = 0
   ·obtain ⟨a0,cc0,rfl⟩:=own_empty hown hv
    have hrl:=hrows.len
    have hr0:M = []:=List.length_eq_zero_iff.1 (by omega)
    have hres:r = true:=by rw [← hR,hr0];rfl
    have HRE:=jh hres
    have HG9:=jh (gTq HGW.out hg)
    clear hown hrows hn hle hR hg hres hr0 hrl hv HM HV HROW hl2
    go_wp2_with fail
    go_ret
    exact Lf.retb HRE.out.symm HG9.out
   ·have hne:us ≠ []:=fun e=>hv (by rw [e];rfl)
    have e1:=(List.dropLast_concat_getLast hne).symm
    generalize us.dropLast = us' at e1
    generalize us.getLast hne = u at e1
    subst e1
    obtain ⟨M',l,rfl,hrows',ai,ci,Vi,rfl,hRl,hzl⟩:=hrows.last
    have hlv:(us' ++ [Value.slice ai l.length ci]).length = us'.length + 1:=by simp
    have hform:=World.ownsRow.form hown (by simp)
    rw [hlv] at hform
    obtain ⟨g,cap,rfl,hgB,hglt⟩:=hform
    unfold OwnsV at hown
    rw [hlv] at hown
    have hcap:=oCq hown
    have hcap1:us'.length <= cap:=by omega
    have d0:=World.ownsRow.cells hown (g:=g) rfl us'.length (.slice ai l.length ci) (by simp)
    rw [add_none,Nat.zero_add] at d0
    have HCUT:=jh (own_cut hown)
    have hl1:=hRl.1
    unfold maxLen at hl1
    rw [leftS_append,leftS_one] at hn
    simp only [List.all_append,List.all_cons,List.all_nil,Bool.and_true,Bool.and_eq_true] at hR hl2
    have HL2:=jh hl2
    have HRL:=jh hRl
    have HROWS:=jh hrows'
    have HN:=jh hn
    have HLE:=jh hle
    have HRR:=jh hR
    have HGR:=jh hg
    have hML:us'.length = M'.length:=hrows'.len
    have hul:us'.length <= 20000001:=by
     have h1:=len_leftS M'
     omega
    obtain ⟨mu0,hmu0⟩:∃ m0,m0 = μ (.slice (some ⟨g,0,none⟩) (us'.length + 1) cap,wr):=⟨_,rfl⟩
    have HMU:=jh hmu0
    rw [← hmu0] at HN HLE
    clear hmu0
    clear hown hrows hrows' hRl hn hle hR hg hne hv hcap hlv hzl hML hl2
    go_wp2_with fail
    go_loopw [5,32] (fun tv iv wz=>∃ j:Nat,j <= l.length /\ iv = .int .i64 j /\ FIn Wm r M' l j tv wz) (fun _ iv _=>l.length - (intOf iv).toNat)
    case atStart =>
     exact ⟨0,Nat.zero_le _,rfl,us',HCUT.out,by simpa [pushS] using HROWS.out,by simpa [pushS] using HL2.out.1,by simpa [pushS] using HRR.out,HGR.out⟩
    case round =>
     obtain ⟨j,hj,rfl,us2,hown,hrows,hl2,hR,hg⟩:=hrel
     by_cases hlt:j < l.length
     ·obtain ⟨b1,o1,rfl,_,k3,n3,a3,s3,aa3,al3,ac3,ta3,tl3,tc3,na3,nl3,nc3,hv1,e0,e1,e2,e3,e4,e5,e6⟩:=(HRL.out.2.1 j hlt).same (sAl hg)
      have hLe:=HRL.out.2.2 j hlt
      rw [hv1] at hLe
      obtain ⟨es,hs3,el,VA,hRA⟩:=partsV hLe
      have hk3:k3 = (l[j]).k:=by
       obtain ⟨_,_,_,_,_,_,_,_,_,hv,_⟩:=hLe.inv
       unfold vaV at hv
       simp only [Value.agg.injEq,Array.mk.injEq,List.cons.injEq,Value.int.injEq,true_and] at hv
       exact hv.1
      have hve:=vsize_eq l[j]
      have hvm:(l[j]).size <= vsizes l:=vsize_mem (List.getElem_mem hlt)
      have hy2:lam2 l[j] = true:=by
       have:=HL2.out.2
       rw [lam2s_all] at this
       exact List.all_eq_true.1 this _ (List.getElem_mem hlt)
      rw [lam2_eq] at hy2
      simp only [Bool.and_eq_true] at hy2
      have hle3:=HN.out
      have hle4:=HLE.out
      have hMN:Hid ((l[j]).k = 14 -> ∀ W3,Wm.grownBy W3 none -> Calls Tryz.prog 32 #[vaV k3 n3 a3 s3 aa3 al3 ac3 ta3 tl3 tc3 na3 nl3 nc3] W3 fun e w'=>e = .returned (.bool (meansF l[j])) /\ W3.grownBy w' none):=fun h14 W3 h3=>means_any hLe (by
       have:=hy2.1
       rw [decide_eq_true h14] at this
       simpa using this) (by omega) W3 h3
      have hla:=lamsF_eq l[j]
      rw [lamsFs_drop l j hlt,hla] at hR
      have hpush:=pushS_snoc (l.take j) l[j]
      rw [← List.take_succ_eq_append_getElem hlt] at hpush
      have hleft:=take_left l j
      have hlen2:us2.length <= 50000000:=by
       have h1:=hrows.len
       have h2:=len_leftS (M' ++ pushS (l.take j))
       rw [leftS_append] at h2
       omega
      have hvz:vsizes (l[j]).args <= 20000000:=by omega
      have hW2:wr.grownBy (wr.alloc (.cells #[.int .i64 k3,.int .i64 n3,.int .i64 a3,.string s3,.slice aa3 al3 ac3,.slice ta3 tl3 tc3,.slice na3 nl3 nc3] 28)) none:=gBq _
      have HO2:=jh (World.ownsRow.alloc hown (.cells #[.int .i64 k3,.int .i64 n3,.int .i64 a3,.string s3,.slice aa3 al3 ac3,.slice ta3 tl3 tc3,.slice na3 nl3 nc3] 28))
      have HG2:=jh (gTq hg hW2)
      have HBX:=jh (heap_alloc_new wr (.cells #[.int .i64 k3,.int .i64 n3,.int .i64 a3,.string s3,.slice aa3 al3 ac3,.slice ta3 tl3 tc3,.slice na3 nl3 nc3] 28))
      have HR:=jh hR
      have HROWS2:=jh hrows
      have HL22:=jh hl2
      have HY2:=jh hy2.2
      have HROW2:Hid (∃ a c V,(Value.slice aa3 al3 ac3) = .slice a (l[j]).args.length c /\ RowVa (fun _=>True) Wm (l[j]).args a V /\ vsizes (l[j]).args <= 20000000):=⟨aa3,ac3,VA,by rw [el],hRA,hvz⟩
      have HEL:=jh el
      have HP:=jh hpush
      have HL3:=jh hlen2
      have w2:(j:Int) < (l.length:Int):=by omega
      -- behind what is asked of a lambda
      have hNX0:Hid (∀ w9,(wr.alloc (.cells #[.int .i64 k3,.int .i64 n3,.int .i64 a3,.string s3,.slice aa3 al3 ac3,.slice ta3 tl3 tc3,.slice na3 nl3 nc3] 28)).grownBy w9 none -> (!decide ((l[j]).k = 14) || meansF l[j]) = true -> al3 = 0 -> FIn Wm r M' l (j + 1) u5 w9):=fun w9 h9 hm h0=>by
       have hp:pushS (l.take (j + 1)) = pushS (l.take j):=by rw [HP.out,if_pos (by rw [← HEL.out];exact h0),List.append_nil]
       have hA:(l[j]).args = []:=List.eq_nil_of_length_eq_zero (by rw [← HEL.out];exact h0)
       refine ⟨us2,World.ownsRow.kept HO2.out h9 (by cases u5.ownBlock <;> simp),by rw [hp];exact HROWS2.out,by rw [hp];exact HL22.out,?_,gTq HG2.out h9⟩
       have h:=HR.out
       rw [hm,hA] at h
       rw [hp,← h]
       simp [lamsFs]
      have hNX1:Hid (∀ v9 w9,OwnsV Wm.heap.size w9 v9 (us2 ++ [.slice aa3 al3 ac3]) -> Wm.grownBy w9 none -> (!decide ((l[j]).k = 14) || meansF l[j]) = true -> ¬ al3 = 0 -> FIn Wm r M' l (j + 1) v9 w9):=fun v9 w9 ho h9 hm h0=>by
       have hp:pushS (l.take (j + 1)) = pushS (l.take j) ++ [(l[j]).args]:=by rw [HP.out,if_neg (by rw [← HEL.out];exact h0)]
       refine ⟨us2 ++ [.slice aa3 al3 ac3],ho,by rw [hp,← List.append_assoc];exact MapsOk.snoc HROW2.out HROWS2.out,by rw [hp,← List.append_assoc,List.all_append,HL22.out];simp [HY2.out],?_,h9⟩
       have h:=HR.out
       rw [hm] at h
       rw [hp,← List.append_assoc,List.all_append,← h]
       simp [Bool.and_assoc,Bool.and_comm,Bool.and_left_comm]
      have hRF:Hid ((!decide ((l[j]).k = 14) || meansF l[j]) = false -> r = false):=fun hm=>by
       have h:=HR.out
       rw [hm] at h
       rw [← h];simp
      clear hR hrows hRA hvz hv1 hLe hve hvm hpush hleft hg hown hW2 es el hl2 hy2 hla hle3 hle4 hs3 hlen2
      rw [← hk3] at hMN hNX0 hNX1 hRF
      clear hk3 HR HROWS2 HL22 HY2 HROW2 HEL HP
      unfold vaV at hMN
      generalize meansF l[j] = mb at *
      have q14:(k3 = 14 /\ (k3 == 14) = true) \/ (¬ k3 = 14 /\ (k3 == 14) = false):=by
       by_cases h:k3 = 14
       ·exact .inl ⟨h,by simpa using h⟩
       ·exact .inr ⟨h,by simpa using h⟩
      have hB9:Wm.heap.size <= (wr.alloc (.cells #[.int .i64 k3,.int .i64 n3,.int .i64 a3,.string s3,.slice aa3 al3 ac3,.slice ta3 tl3 tc3,.slice na3 nl3 nc3] 28)).heap.size:=HG2.out.size
      have HB9:=jh hB9
      clear hB9
      rcases q14 with ⟨rfl,_⟩ | ⟨z1,z1'⟩
      ·have HMN:=jh (hMN.out rfl _ HG2.out)
       clear hMN
       cases mb with
       | false =>
        have HQ:=jh (hRF.out (by simp))
        clear hRF hNX0 hNX1
        go_wp2_with ((go_at_call 32;with_reducible refine HMN.out.mono ?_;rintro e w9 ⟨rfl,h9⟩;have HG9:=jh (gTq HGW.out (gTq HG2.out h9));clear h9))
        go_ret
        exact Lf.retb HQ.out.symm HG9.out
       | true =>
        by_cases ha:al3 = 0
        ·subst ha
         go_wp2_with ((go_at_call 32;with_reducible refine HMN.out.mono ?_;rintro e w9 ⟨rfl,h9⟩;have HK9:=jh (hNX0.out _ h9 (by simp) rfl);obtain ⟨c0,c1,c2,c3,c4,c5,c6⟩:=box7 (kBq HBX.out h9);clear h9))
         go_roundw
         case rel=>exact ⟨j + 1,by omega,by go_num,HK9.out⟩
         case measure=>simp [intOf];omega
        ·have ha1:(0:Int) < (al3:Int):=by omega
         have HNA:=jh ha
         clear ha
         go_wp2_with (first
          | (at_builtin;refine appV Wm.heap.size us2 aa3 al3 ac3 w9 u5 rfl _ _ rfl rfl rfl (by simp) HO9.out HB99.out HL3.out ?_;intro v' w10 ho' hg';have HK9:=jh (hNX1.out v' w10 ho' (grow_own HG9.out HO9.out (Nat.le_refl _) hg'.1) (by simp) HNA.out);clear ho' hg')
          | (go_at_call 32;with_reducible refine HMN.out.mono ?_;rintro e w9 ⟨rfl,h9⟩;have HG9:=jh (gTq HG2.out h9);have HO9:=jh (World.ownsRow.kept HO2.out h9 (by cases u5.ownBlock <;> simp));have HB99:=jh (Nat.le_trans HB9.out h9.size);obtain ⟨c0,c1,c2,c3,c4,c5,c6⟩:=box7 (kBq HBX.out h9);clear h9))
         go_roundw
         case rel=>exact ⟨j + 1,by omega,by go_num,HK9.out⟩
         case measure=>simp [intOf];omega
      ·clear hMN
       by_cases ha:al3 = 0
       ·subst ha
        go_wp2_with fail
        go_roundw
        case rel=>exact ⟨j + 1,by omega,by go_num,hNX0.out _ (gRf _ _) (by rw [decide_eq_false z1];rfl) rfl⟩
        case measure=>simp [intOf];omega
       ·have ha1:(0:Int) < (al3:Int):=by omega
        have HNA:=jh ha
        clear ha
        go_wp2_with (at_builtin;refine appV Wm.heap.size us2 aa3 al3 ac3 (wr.alloc (.cells #[.int .i64 k3,.int .i64 n3,.int .i64 a3,.string s3,.slice aa3 al3 ac3,.slice ta3 tl3 tc3,.slice na3 nl3 nc3] 28)) u5 rfl _ _ rfl rfl rfl (by simp) HO2.out HB9.out HL3.out ?_;intro v' w10 ho' hg';have HK9:=jh (hNX1.out v' w10 ho' (grow_own HG2.out HO2.out (Nat.le_refl _) hg'.1) (by rw [decide_eq_false z1];rfl) HNA.out);clear ho' hg')
        go_roundw
        case rel=>exact ⟨j + 1,by omega,by go_num,HK9.out⟩
        case measure=>simp [intOf];omega
     ·have hj2:j = l.length:=by omega
      have hj3:¬ (j:Int) < (l.length:Int):=by omega
      rw [hj2,List.take_length] at hrows hl2 hR
      rw [List.drop_length] at hR
      have HNX:Hid (∃ m,m < mu0 /\ FRel Wm r (x.size + 1) m u5 wr):=by
       have h1:=pushS_left l
       have h2:=HN.out
       have h3:=HLE.out
       exact ⟨leftS (M' ++ pushS l),by rw [leftS_append];omega,us2,M' ++ pushS l,hown,hrows,rfl,by rw [leftS_append];omega,hl2,by simpa [lamsFs] using hR,hg⟩
      clear hR hrows hown hg hl2
      go_wp2_with fail
      obtain ⟨m,h1,h2⟩:=HNX.out
      rw [HMU.out] at h1
      go_roundw
      case rel=>exact ⟨m,h2⟩
      case measure=>exact Nat.lt_of_le_of_lt (HM.out _ m h2).2 h1
end Go.Proofs.YtkglnoimbekhhaaGreat
