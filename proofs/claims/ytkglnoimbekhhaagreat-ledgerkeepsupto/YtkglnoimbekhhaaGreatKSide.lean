import Derived.Test.YtkglnoimbekhhaaGreatKZt
import Derived.Deep.RegionHeld3
import Derived.Deep.DeepCutAuto
namespace Go.Proofs.YtkglnoimbekhhaaGreat
set_option maxRecDepth 100000
set_option maxHeartbeats 4000000
open Go.ChangeShapes Go.WideShapes Go.ChangeAt Go.RowKit
set_option linter.unusedVariables false
theorem info_cpV:(Tryz.prog.info? 70).map (fun i=>(i.zero,i.size,i.bytes)) = some (some (.agg #[.slice none 0 0,.slice none 0 0]),2,48):=by kernel_rfl
def OwnsCV (B:Nat) (w:World) (v:Value) (vs:List Value):Prop:=w.ownsRow B 70 2 v vs.length (flatT vs)
def RowCV (w:World) (r:List Va × List Va) (u:Value):Prop:=∃ a1 c1 V1 a2 c2 V2,u = cpV a1 r.1.length c1 a2 r.2.length c2 /\ (r.1.length <= c1 /\ r.2.length <= c2) /\ RowVa (fun _=>True) w r.1 a1 V1 /\ RowVa (fun _=>True) w r.2 a2 V2
def RowsCV (w:World):List (List Va × List Va) -> List Value -> Prop
 | [],[]=>True
 | r :: rows,u :: us=>RowCV w r u /\ RowsCV w rows us
 | [],_ :: _=>False
 | _ :: _,[]=>False
theorem RowsCV.len {w:World} : ∀ {rows:List (List Va × List Va)} {us:List Value},RowsCV w rows us -> us.length = rows.length
 | [],[],_=>rfl
 | _ :: _,_ :: _,h=>by simp [RowsCV.len h.2]
 | [],_ :: _,h=>h.elim
 | _ :: _,[],h=>h.elim
theorem RowsCV.snoc {w:World} {r:List Va × List Va} {u:Value} (hr:RowCV w r u):∀ {rows:List (List Va × List Va)} {us:List Value},RowsCV w rows us -> RowsCV w (rows ++ [r]) (us ++ [u])
 | [],[],_=>⟨hr,trivial⟩
 | _ :: _,_ :: _,h=>⟨h.1,RowsCV.snoc hr h.2⟩
 | [],_ :: _,h=>h.elim
 | _ :: _,[],h=>h.elim
theorem RowsCV.last {w:World} {us:List Value} {u:Value} : ∀ {rows:List (List Va × List Va)},RowsCV w rows (us ++ [u]) -> ∃ rows' r,rows = rows' ++ [r] /\ RowsCV w rows' us /\ RowCV w r u:=by
 induction us with
 | nil =>
  intro rows h
  match rows,h with
  | [r],h=>exact ⟨[],r,rfl,trivial,h.1⟩
  | r :: r2 :: rs,h=>exact h.2.elim
  | [],h=>exact h.elim
 | cons x us ih =>
  intro rows h
  match rows,h with
  | r :: rs,h =>
   obtain ⟨rows',r',rfl,h1,h2⟩:=ih h.2
   exact ⟨r :: rows',r',rfl,⟨h.1,h1⟩,h2⟩
  | [],h=>exact h.elim
theorem appCV {ops:Array Oper} {rest:List Oper} {o:Oper} {a:Act} {Q:Exit -> Act -> World -> Prop} (B:Nat) (vs:List Value) (a1:Option Addr) (l1 c1:Nat) (a2:Option Addr) (l2 c2:Nat) (w0:World) (v:Value) (hgd:o.guard = none) (s x:Operand)
 (ho:o.op = .call { callee:=.builtin .append,args:=#[s,x],argTypes:=#[71,71] }) (hs:a.eval s = v) {H:Nat} (hx:a.eval x = .slice (some ⟨H,0,none⟩) 1 1) (hH:w0.heap.size = H)
 (hown:OwnsCV B w0 v vs) (hB:B <= w0.heap.size) (hlen:vs.length <= 100000000)
 (h:∀ v' w',OwnsCV B w' v' (vs ++ [cpV a1 l1 c1 a2 l2 c2]) -> Gr w0 v w' v' -> wpList Tryz.prog ops Q rest (a.put o.dst v') w') :
 wpList Tryz.prog ops Q (o :: rest) a (w0.alloc (.cells #[.slice a1 l1 c1,.slice a2 l2 c2] 70)):=by
 subst hH
 refine wpList_app hgd s x 71 ho B 70 Tryz.underlying71 info_cpV rfl (by decide) v vs.length (flatT vs) hs (World.ownsRow.alloc hown _) _ 1 [.slice a1 l1 c1,.slice a2 l2 c2] hx rfl (SrcAt.new _ _ _ _ _) ?_ ?_ ?_ ?_ ?_
 ·intro u hu;simp at hu;rcases hu with rfl | rfl <;> rfl
 ·unfold maxLen;omega
 ·omega
 ·simp;omega
 ·intro v' w' h1 h2 _
  exact h v' w' (by unfold OwnsCV;rw [flatT_append,List.length_append];exact h1) (Gr.trans (Gr.alloc (Gr.refl w0 v) _) h2)
theorem new_two (w:World) (o o':Obj):((w.alloc o).alloc o').heap[w.heap.size + 1]? = some o':=by
 have:=heap_alloc_new (w.alloc o) o'
 rwa [show (w.alloc o).heap.size = w.heap.size + 1 from by simp] at this
theorem own_setLast {w:World} {B:Nat} {e:TypeId} {g cap n:Nat} {vs:List Value} {x y x' y':Value} (h:w.ownsRow B e 2 (.slice (some ⟨g,0,none⟩) (n + 1) cap) (n + 1) (flatT (vs ++ [.agg #[x,y]]))) :
 ((w.setCell ⟨g,n * 2,none⟩ x').setCell ⟨g,n * 2 + 1,none⟩ y').ownsRow B e 2 (.slice (some ⟨g,0,none⟩) (n + 1) cap) (n + 1) (flatT (vs ++ [.agg #[x',y']])):=by
 have e1:∀ p q:Value,flatT [.agg #[p,q]] = [p,q]:=fun p q=>by simp [flatT,tyCells]
 rw [flatT_append,e1] at h ⊢
 have hl:=h.1
 rw [List.length_append] at hl
 simp only [List.length_cons,List.length_nil] at hl
 have hl2:(flatT vs).length = n * 2:=by omega
 refine ⟨by simp;omega,?_⟩
 rcases h.2 with ⟨hx,_⟩ | ⟨g',cap',cur,hx,h1,h2,h3,h4,h5,h6⟩
 ·simp at hx
 ·simp only [Value.slice.injEq,Option.some.injEq,Addr.mk.injEq,and_true,true_and] at hx
  obtain ⟨rfl,rfl⟩:=hx
  have hsz:(n + 1) * 2 <= cur.size:=by rw [h5];exact Nat.mul_le_mul_right _ h3
  refine .inr ⟨g,cap,(cur.setIfInBounds (n * 2) x').setIfInBounds (n * 2 + 1) y',rfl,h1,?_,h3,h4,by simpa using h5,?_⟩
  ·simp [World.setCell,Array.getElem?_modify,h2]
  ·apply List.ext_getElem?
   intro j
   have h7:=congrArg (fun l=>l[j]?) h6
   simp only [List.getElem?_take] at h7 ⊢
   by_cases hj:j < (n + 1) * 2
   ·simp only [hj,if_true] at h7 ⊢
    rw [Array.getElem?_toList] at h7 ⊢
    by_cases hj1:j = n * 2 + 1
    ·subst hj1
     rw [Array.getElem?_setIfInBounds_self_of_lt (by simp;omega),List.getElem?_append_right (by omega),hl2]
     simp
    ·rw [Array.getElem?_setIfInBounds_ne (by omega)]
     by_cases hj0:j = n * 2
     ·subst hj0
      rw [Array.getElem?_setIfInBounds_self_of_lt (by omega),List.getElem?_append_right (by omega),hl2]
      simp
     ·rw [Array.getElem?_setIfInBounds_ne (by omega),h7,List.getElem?_append_left (by omega),List.getElem?_append_left (by omega)]
   ·simp only [hj,if_false]
    rw [List.getElem?_eq_none]
    simp;omega
theorem row_tail {w:World} {x:Va} {xs:List Va} {b o:Nat} {V:Nat -> Value} (h:RowVa (fun _=>True) w (x :: xs) (some ⟨b,o,none⟩) V):RowVa (fun _=>True) w xs (some ⟨b,o + 7,none⟩) (fun i=>V (i + 1)):=by
 refine ⟨by have:=h.1;simp at this;omega,fun i hi=>?_,fun i hi=>?_⟩
 ·obtain ⟨b',o',hp,hb,k,n,a,s,aa,al,ac,ta,tl,tc,na,nl,nc,hv,h0,h1,h2,h3,h4,h5,h6⟩:=h.2.1 (i + 1) (by simpa using hi)
  simp only [Option.some.injEq,Addr.mk.injEq,and_true] at hp
  obtain ⟨rfl,rfl⟩:=hp
  have e:o + (i + 1) * 7 = o + 7 + i * 7:=by omega
  rw [e] at h0 h1 h2 h3 h4 h5 h6
  exact ⟨b,o + 7,rfl,trivial,k,n,a,s,aa,al,ac,ta,tl,tc,na,nl,nc,hv,h0,h1,h2,h3,h4,h5,h6⟩
 ·have:=h.2.2 (i + 1) (by simpa using hi)
  simpa using this
theorem argsOfV {ok:Nat -> Prop} {w:World} {x:Va} {k n a:Int} {s:ByteArray} {aa:Option Addr} {al ac:Nat} {ta:Option Addr} {tl tc:Nat} {na:Option Addr} {nl nc:Nat} (h:LiesV ok w x (vaV k n a s aa al ac ta tl tc na nl nc)) :
 al = x.args.length /\ x.args.length <= ac /\ ∃ V,RowVa ok w x.args aa V:=by
 obtain ⟨aa',ac',ta',tc',na',nc',V,VT,VN,hv,⟨_,_,_,_,hlc⟩,hR,_,_⟩:=h.inv
 unfold vaV at hv
 simp only [Value.agg.injEq,Array.mk.injEq,List.cons.injEq,Value.int.injEq,Value.string.injEq,Value.slice.injEq,true_and,and_true] at hv
 obtain ⟨_,_,_,_,⟨rfl,rfl,rfl⟩,_⟩:=hv
 exact ⟨rfl,hlc,V,hR⟩
theorem stepCV {ops:Array Oper} {o:Oper} {a:Act} {K:Act -> World -> Prop} {Q:Exit -> Act -> World -> Prop} {E:Prop} (B:Nat) (vs:List Value) (a1:Option Addr) (l1 c1:Nat) (a2:Option Addr) (l2 c2:Nat) (w0:World) (v:Value) (hgd:o.guard = none) (s x:Operand)
 (ho:o.op = .call { callee:=.builtin .append,args:=#[s,x],argTypes:=#[71,71] }) (hs:a.eval s = v) {H:Nat} (hx:a.eval x = .slice (some ⟨H,0,none⟩) 1 1) (hH:w0.heap.size = H)
 (hown:OwnsCV B w0 v vs) (hB:B <= w0.heap.size) (hlen:vs.length <= 100000000)
 (h:∀ v' w',OwnsCV B w' v' (vs ++ [cpV a1 l1 c1 a2 l2 c2]) -> Gr w0 v w' v' -> K (a.put o.dst v') w') :
 if Region.wanted o (yielded ops a.tmps) = true then Oper.wp Tryz.prog o a (w0.alloc (.cells #[.slice a1 l1 c1,.slice a2 l2 c2] 70)) K Q else E:=by
 subst hH
 refine step_app hgd s x 71 ho B 70 Tryz.underlying71 info_cpV rfl (by decide) v vs.length (flatT vs) hs (World.ownsRow.alloc hown _) _ 1 [.slice a1 l1 c1,.slice a2 l2 c2] hx rfl (SrcAt.new _ _ _ _ _) ?_ ?_ ?_ ?_ ?_
 ·intro u hu;simp at hu;rcases hu with rfl | rfl <;> rfl
 ·unfold maxLen;omega
 ·omega
 ·simp;omega
 ·intro v' w' h1 h2 _
  exact h v' w' (by unfold OwnsCV;rw [flatT_append,List.length_append];exact h1) (Gr.trans (Gr.alloc (Gr.refl w0 v) _) h2)
def SbRel (w0:World) (c:Va -> Va -> Int) (res:Int) (N n:Nat) (tv:Value) (wr:World):Prop :=
 ∃ (us:List Value) (rows:List (List Va × List Va)),OwnsCV w0.heap.size wr tv us /\ RowsCV w0 rows us /\ leftV rows = n /\ n <= N /\ stk c rows = res /\ w0.grownBy wr none
theorem side_any (c:Va -> Va -> Int) (k:Nat) (eg:∀ args w,(callFunc k args).run Tryz.prog w = .ok (.enter k args) w) {w0:World} {xs ys:List Va} {a b:Option Addr} {ca cb:Nat} {V V2:Nat -> Value} (hca:xs.length <= ca) (hcb:ys.length <= cb) (hx:RowVa (fun _=>True) w0 xs a V) (hy:RowVa (fun _=>True) w0 ys b V2)
 (hcmp:∀ (x y:Va) (u v:Value) (W:World),w0.grownBy W none -> LiesV (fun _=>True) w0 x u -> LiesV (fun _=>True) w0 y v -> x.size <= vsizes xs -> Calls Tryz.prog k #[u,v] W fun e w'=>e = .returned (.int .i64 (c x y)) /\ W.grownBy w' none) (hz:vsizes xs <= 20000000) :
 Calls Tryz.prog 23 #[.slice a xs.length ca,.slice b ys.length cb,.func (.func 24) #[] #[],.func (.func k) #[] #[]] w0 fun e w'=>e = .returned (.int .i64 (sbsVs c xs ys)) /\ w0.grownBy w' none:=by
 generalize hres:sbsVs c xs ys = res
 obtain ⟨μ,hμ⟩:=least_of (fun n (p:Value × World)=>SbRel w0 c res (2 * vsizes xs + 1) n p.1 p.2)
 have hl1:=hx.1
 have hl2:=hy.1
 have HX:=jh hx
 have HY:=jh hy
 have HC:=jh hcmp
 have HM:=jh hμ
 have HRES:=jh hres
 have HCA:=jh hca
 have HCB:=jh hcb
 have HZ:=jh hz
 unfold maxLen at hl1 hl2
 clear hx hy hcmp hμ hres hca hcb hz
 go_enter Tryz.func23,Tryz.ntmps23
 go_wp2_with fail
 go_loopw [9] (fun tv wr=>∃ n,SbRel w0 c res (2 * vsizes xs + 1) n tv wr) (fun tv wr=>μ (tv,wr))
 case atStart =>
  refine ⟨_,[cpV a xs.length ca b ys.length cb],[(xs,ys)],?_,⟨⟨a,ca,V,b,cb,V2,rfl,⟨HCA.out,HCB.out⟩,HX.out,HY.out⟩,trivial⟩,rfl,by rw [leftV_one];exact Nat.le_refl _,by rw [stk_one];exact HRES.out,gBq _⟩
  exact ⟨rfl,.inr ⟨_,1,_,rfl,Nat.le_refl _,heap_alloc_new _ _,Nat.le_refl _,by decide,rfl,rfl⟩⟩
 case round =>
  obtain ⟨n0,hn0⟩:=hrel
  obtain ⟨us,rows,hown,hrows,hn,hle,hstk,hg⟩:=(HM.out (u9,wr) n0 hn0).1
  simp only at hown
  have hz:=HZ.out
  clear hn0 hl1 hl2
  by_cases hv:us.length = 0
  ·obtain ⟨a0,cc0,rfl⟩:=own_empty hown hv
   have hrl:=hrows.len
   have hr0:rows = []:=List.length_eq_zero_iff.1 (by omega)
   have hres:res = 0:=by rw [← hstk,hr0];rfl
   have HR:=jh hres
   have HG:=jh hg
   clear hown hrows hn hle hstk hg hres hr0 hrl hv HRES HM HC HX HY
   go_wp2_with fail
   go_ret
   exact Lf.reti HR.out.symm HG.out
  ·have hne:us ≠ []:=fun e=>hv (by rw [e];rfl)
   have e1:=(List.dropLast_concat_getLast hne).symm
   generalize us.dropLast = us' at e1
   generalize us.getLast hne = u at e1
   subst e1
   obtain ⟨rows',r,rfl,hrows',hrc⟩:=hrows.last
   obtain ⟨x,y⟩:=r
   obtain ⟨a3,c3,V3,a4,c4,V4,rfl,⟨hk3,hk4⟩,hRx,hRy⟩:=hrc
   simp only at hk3 hk4 hRx hRy
   have hlv:(us' ++ [cpV a3 x.length c3 a4 y.length c4]).length = us'.length + 1:=by simp
   have hform:=World.ownsRow.form hown (by simp)
   rw [hlv] at hform
   obtain ⟨g,cap,rfl,hgB,hglt⟩:=hform
   unfold OwnsCV at hown
   rw [hlv] at hown
   have hcap:=oCq hown
   have hcap1:us'.length <= cap:=by omega
   obtain ⟨d0,d1⟩:=own_last2 hown
   have hul:us'.length <= 50000000:=by
    have h1:=hrows.len
    have h2:=len_leftV (rows' ++ [(x,y)])
    rw [List.length_append,List.length_singleton] at h2
    rw [hlv,List.length_append,List.length_singleton] at h1
    omega
   have hx1:=hRx.1
   have hy1:=hRy.1
   unfold maxLen at hx1 hy1
   have HOWN:=jh hown
   have HROWS:=jh hrows'
   have HRX:=jh hRx
   have HRY:=jh hRy
   have HN:=jh hn
   have HLE:=jh hle
   have HSTK:=jh hstk
   have HG:=jh hg
   clear hown hrows hrows' hRx hRy hn hle hstk hg hne hv hcap hlv HX HY HRES
   by_cases hend:x = [] \/ y = []
   ·by_cases hb:x = [] /\ y = []
    ·obtain ⟨rfl,rfl⟩:=hb
     have HCI:Hid (∀ w,Calls Tryz.prog 33 #[.int .i64 0,.int .i64 0] w fun e w'=>e = .returned (.int .i64 0) /\ w' = w):=fun w=>cmpI_any 0 0 w
     have hNx:Hid (∀ q,∃ m,m < μ (.slice (some ⟨g,0,none⟩) (us'.length + 1) cap,wr) /\ SbRel w0 c res (2 * vsizes xs + 1) m (.slice (some ⟨g,0,none⟩) us'.length cap) (wr.drewN q)):=by
      intro q
      refine ⟨leftV rows',?_,us',rows',own_cut2 (w:=wr.drewN q) HOWN.out rfl,HROWS.out,rfl,?_,?_,grow_drewN HG.out⟩
      ·have h:=HN.out
       rw [leftV_append,leftV_one] at h
       omega
      ·have h:=HN.out
       have h2:=HLE.out
       rw [leftV_append,leftV_one] at h
       omega
      ·rw [← HSTK.out,stk_pop]
     clear hend hx1 hy1 hk3 hk4 HC HZ hz HOWN HROWS HRX HRY HN HLE HSTK
     go_wp2_with fail
     go_quiet ((go_at_call 33;exact Calls.quiet_of_same (HCI.out _)))
     go_wp2_with fail
     obtain ⟨m,h1,h2⟩:=hNx.out _
     go_roundw
     case rel=>exact ⟨m,h2⟩
     case measure=>exact Nat.lt_of_le_of_lt (HM.out _ m h2).2 h1
    ·have hse:=stk_end c rows' x y hend hb
     have hres:cmpI (x.length:Nat) (y.length:Nat) = res:=by rw [← hse];exact HSTK.out
     have hnz:¬ res = 0:=by
      rw [← hres]
      rcases hend with rfl | rfl
      ·have : 0 < y.length:=List.length_pos_iff.2 (fun e=>hb ⟨rfl,e⟩)
       rw [cmpI,if_pos (by simp;omega)];decide
      ·have : 0 < x.length:=List.length_pos_iff.2 (fun e=>hb ⟨e,rfl⟩)
       rw [cmpI,if_neg (by simp),if_pos (by simp;omega)];decide
     have z1:(res == 0) = false:=by simpa using hnz
     have z2:(res != 0) = true:=by simpa using hnz
     have HCI:Hid (∀ w,Calls Tryz.prog 33 #[.int .i64 (x.length:Nat),.int .i64 (y.length:Nat)] w fun e w'=>e = .returned (.int .i64 res) /\ w' = w):=fun w=>by rw [← hres];exact cmpI_any _ _ w
     clear hse hres hk3 hk4 HC HZ hz HOWN HROWS HRX HRY HN HLE HSTK
     by_cases hx0:x.length = 0
     ·have hx2:(x.length:Int) = 0:=by omega
      have HX0:=jh hx2
      rw [hx2] at HCI
      clear hx0 hend hb
      go_wp2_with fail
      go_quiet ((go_at_call 33;exact Calls.quiet_of_same (HCI.out _)))
      go_wp2_with fail
      go_ret
      exact Lf.reti rfl (grow_drewN HG.out)
     ·have hy0:y.length = 0:=by
       rcases hend with rfl | rfl
       ·simp at hx0
       ·rfl
      have hx3:¬ (x.length:Int) = 0:=by omega
      have hx4:((x.length:Int) == 0) = false:=by rw [beq_eq_false_iff_ne];exact hx3
      have hy2:(y.length:Int) = 0:=by omega
      rw [hy2] at HCI
      clear hend hb hx0 hy0
      go_wp2_with fail
      go_quiet ((go_at_call 33;exact Calls.quiet_of_same (HCI.out _)))
      go_wp2_with fail
      go_ret
      exact Lf.reti rfl (grow_drewN HG.out)
   ·obtain ⟨x1,xs1,rfl⟩:∃ p l,x = p :: l:=by
     cases x with
     | nil=>simp at hend
     | cons p l=>exact ⟨p,l,rfl⟩
    obtain ⟨y1,ys1,rfl⟩:∃ p l,y = p :: l:=by
     cases y with
     | nil=>simp at hend
     | cons p l=>exact ⟨p,l,rfl⟩
    clear hend
    have hL1:=HRX.out.2.2 0 (by simp)
    have hL2:=HRY.out.2.2 0 (by simp)
    simp only [List.getElem_cons_zero] at hL1 hL2
    obtain ⟨b3,o3,rfl,_,k1,n1,a1,s1,aa1,al1,ac1,ta1,tl1,tc1,na1,nl1,nc1,hv1,e0,e1,e2,e3,e4,e5,e6⟩:=(HRX.out.2.1 0 (by simp)).same (sAl HG.out)
    obtain ⟨b4,o4,rfl,_,k2,n2,a2,s2,aa2,al2,ac2,ta2,tl2,tc2,na2,nl2,nc2,hv2,f0,f1,f2,f3,f4,f5,f6⟩:=(HRY.out.2.1 0 (by simp)).same (sAl HG.out)
    rw [hv1] at hL1
    rw [hv2] at hL2
    rw [Nat.zero_mul,Nat.add_zero] at e0 e1 e2 e3 e4 e5 e6 f0 f1 f2 f3 f4 f5 f6
    have HL1:=jh hL1
    have HL2:=jh hL2
    have hfr:∀ o,wr.frozen? ⟨g,o,none⟩ = false:=by
     rcases HOWN.out.2 with ⟨hq,_⟩ | ⟨g',cap',cur,hq,q1,q2,_⟩
     ·simp at hq
     ·simp only [Value.slice.injEq,Option.some.injEq,Addr.mk.injEq,and_true] at hq
      obtain ⟨rfl,_,_⟩:=hq
      intro o
      simp [World.frozen?,q2]
    clear hL1 hL2 hv1 hv2
    simp only [List.length_cons] at hx1 hy1 hk3 hk4 d0 d1 ⊢
    have z1:¬ ((xs1.length:Int) + 1 = 0):=by omega
    have z2:(((xs1.length:Int) + 1) == 0) = false:=by rw [beq_eq_false_iff_ne];exact z1
    have z3:¬ ((ys1.length:Int) + 1 = 0):=by omega
    have z4:(((ys1.length:Int) + 1) == 0) = false:=by rw [beq_eq_false_iff_ne];exact z3
    have q3:b3 < wr.heap.size:=World.block_lt_of_cell? wr _ e0
    have q4:b4 < wr.heap.size:=World.block_lt_of_cell? wr _ f0
    have q5:¬ b3 = wr.heap.size:=by omega
    have q6:¬ b4 = wr.heap.size:=by omega
    have q7:¬ b4 = wr.heap.size + 1:=by omega
    have q8:¬ g = wr.heap.size:=by omega
    have q9:¬ g = wr.heap.size + 1:=by omega
    have ed0:∀ W3:World,wr.grownBy W3 none -> W3.cell? ⟨b3,o3,none⟩ = some (.int .i64 k1):=fun W3 h=>(World.cell?_of_block (h.block b3 q3 (by simp))).trans e0
    have ed1:∀ W3:World,wr.grownBy W3 none -> W3.cell? ⟨b3,o3 + 1,none⟩ = some (.int .i64 n1):=fun W3 h=>(World.cell?_of_block (h.block b3 q3 (by simp))).trans e1
    have ed2:∀ W3:World,wr.grownBy W3 none -> W3.cell? ⟨b3,o3 + 2,none⟩ = some (.int .i64 a1):=fun W3 h=>(World.cell?_of_block (h.block b3 q3 (by simp))).trans e2
    have ed3:∀ W3:World,wr.grownBy W3 none -> W3.cell? ⟨b3,o3 + 3,none⟩ = some (.string s1):=fun W3 h=>(World.cell?_of_block (h.block b3 q3 (by simp))).trans e3
    have ed4:∀ W3:World,wr.grownBy W3 none -> W3.cell? ⟨b3,o3 + 4,none⟩ = some (.slice aa1 al1 ac1):=fun W3 h=>(World.cell?_of_block (h.block b3 q3 (by simp))).trans e4
    have ed5:∀ W3:World,wr.grownBy W3 none -> W3.cell? ⟨b3,o3 + 5,none⟩ = some (.slice ta1 tl1 tc1):=fun W3 h=>(World.cell?_of_block (h.block b3 q3 (by simp))).trans e5
    have ed6:∀ W3:World,wr.grownBy W3 none -> W3.cell? ⟨b3,o3 + 6,none⟩ = some (.slice na1 nl1 nc1):=fun W3 h=>(World.cell?_of_block (h.block b3 q3 (by simp))).trans e6
    have fd0:∀ W3:World,wr.grownBy W3 none -> W3.cell? ⟨b4,o4,none⟩ = some (.int .i64 k2):=fun W3 h=>(World.cell?_of_block (h.block b4 q4 (by simp))).trans f0
    have fd1:∀ W3:World,wr.grownBy W3 none -> W3.cell? ⟨b4,o4 + 1,none⟩ = some (.int .i64 n2):=fun W3 h=>(World.cell?_of_block (h.block b4 q4 (by simp))).trans f1
    have fd2:∀ W3:World,wr.grownBy W3 none -> W3.cell? ⟨b4,o4 + 2,none⟩ = some (.int .i64 a2):=fun W3 h=>(World.cell?_of_block (h.block b4 q4 (by simp))).trans f2
    have fd3:∀ W3:World,wr.grownBy W3 none -> W3.cell? ⟨b4,o4 + 3,none⟩ = some (.string s2):=fun W3 h=>(World.cell?_of_block (h.block b4 q4 (by simp))).trans f3
    have fd4:∀ W3:World,wr.grownBy W3 none -> W3.cell? ⟨b4,o4 + 4,none⟩ = some (.slice aa2 al2 ac2):=fun W3 h=>(World.cell?_of_block (h.block b4 q4 (by simp))).trans f4
    have fd5:∀ W3:World,wr.grownBy W3 none -> W3.cell? ⟨b4,o4 + 5,none⟩ = some (.slice ta2 tl2 tc2):=fun W3 h=>(World.cell?_of_block (h.block b4 q4 (by simp))).trans f5
    have fd6:∀ W3:World,wr.grownBy W3 none -> W3.cell? ⟨b4,o4 + 6,none⟩ = some (.slice na2 nl2 nc2):=fun W3 h=>(World.cell?_of_block (h.block b4 q4 (by simp))).trans f6
    have dd0:∀ W3:World,wr.grownBy W3 none -> W3.cell? ⟨g,us'.length * 2,none⟩ = some (.slice (some ⟨b3,o3,none⟩) (xs1.length + 1) c3):=fun W3 h=>(World.cell?_of_block (h.block g hglt (by simp))).trans d0
    have dd1:∀ W3:World,wr.grownBy W3 none -> W3.cell? ⟨g,us'.length * 2 + 1,none⟩ = some (.slice (some ⟨b4,o4,none⟩) (ys1.length + 1) c4):=fun W3 h=>(World.cell?_of_block (h.block g hglt (by simp))).trans d1
    go_upto_region 9 with (fail)
    go_cut [12,13] (fun p q wx=>∃ bp bq:Nat,p = .pointer (some ⟨bp,0,none⟩) /\ q = .pointer (some ⟨bq,0,none⟩) /\ wr.heap.size <= bp /\ wr.heap.size <= bq /\ wx.heap[bp]? = some (.cells #[.int .i64 k1,.int .i64 n1,.int .i64 a1,.string s1,.slice aa1 al1 ac1,.slice ta1 tl1 tc1,.slice na1 nl1 nc1] 28 (0,0)) /\ wx.heap[bq]? = some (.cells #[.int .i64 k2,.int .i64 n2,.int .i64 a2,.string s2,.slice aa2 al2 ac2,.slice ta2 tl2 tc2,.slice na2 nl2 nc2] 28 (0,0)) /\ wr.grownBy wx none)
    case first =>
     go_region_held3 (fun w'=>wr.grownBy w' none) (first | assumption | exact gDr (gRf _ _) | exact gDr (gBq _) | exact gDr (gTq (gBq _) (gBq _)) | exact gBq _ | exact gTq (gBq _) (gBq _)) (fail)
     all_goals
      go_wp2_with fail
      go_meet
      first
      | exact ⟨_,_,rfl,rfl,by omega,by omega,rNw _ _ _,new_two _ _ _,gDr (gTq (gBq _) (gBq _))⟩
      | exact ⟨_,_,rfl,rfl,by omega,by omega,new_two _ _ _,rNw _ _ _,gDr (gTq (gBq _) (gBq _))⟩
    case rest =>
     obtain ⟨bp,bq,rfl,rfl,hbp,hbq,hXp,hYq,hgx⟩:=hcut
     have g0:=dd0 wc hgx
     have g1:=dd1 wc hgx
     have hfc:∀ o,wc.frozen? ⟨g,o,none⟩ = false:=by
      intro o
      have h1:=hgx.block g hglt (by simp)
      have h2:=hfr o
      simp only [World.frozen?] at h2 ⊢
      rw [h1];exact h2
     have HOWC:=jh (World.ownsRow.kept HOWN.out hgx (.inr (by simp [Value.ownBlock])))
     have HGX:=jh (gTq HG.out hgx)
     have HXP:=jh hXp
     have HYQ:=jh hYq
     have hne1:g ≠ bp:=by omega
     have hne2:g ≠ bq:=by omega
     clear ed0 ed1 ed2 ed3 ed4 ed5 ed6 fd0 fd1 fd2 fd3 fd4 fd5 fd6 dd0 dd1 e0 e1 e2 e3 e4 e5 e6 f0 f1 f2 f3 f4 f5 f6 d0 d1 hXp hYq hgx hfr
     go_upto_region 10 with (fail)
     go_cut [] (fun wx=>∃ (p3 p4:Option Addr) (U3 U4:Nat -> Value),RowVa (fun _=>True) w0 xs1 p3 U3 /\ RowVa (fun _=>True) w0 ys1 p4 U4 /\ wx.ownsRow w0.heap.size 70 2 (.slice (some ⟨g,0,none⟩) (us'.length + 1) cap) (us'.length + 1) (flatT (us' ++ [cpV p3 xs1.length (c3 - 1) p4 ys1.length (c4 - 1)])) /\ w0.grownBy wx none /\ wx.heap[bp]? = some (.cells #[.int .i64 k1,.int .i64 n1,.int .i64 a1,.string s1,.slice aa1 al1 ac1,.slice ta1 tl1 tc1,.slice na1 nl1 nc1] 28 (0,0)) /\ wx.heap[bq]? = some (.cells #[.int .i64 k2,.int .i64 n2,.int .i64 a2,.string s2,.slice aa2 al2 ac2,.slice ta2 tl2 tc2,.slice na2 nl2 nc2] 28 (0,0)))
     case first =>
      by_cases hc3:c3 = 1
      ·by_cases hc4:c4 = 1
       ·obtain rfl:xs1 = []:=List.eq_nil_of_length_eq_zero (by omega)
        subst hc3
        obtain rfl:ys1 = []:=List.eq_nil_of_length_eq_zero (by omega)
        subst hc4
        go_region_with (fail)
        all_goals
         go_wp2_with fail
         go_meet
         exact ⟨_,_,_,_,RowVa.nil _ _ _ V3,RowVa.nil _ _ _ V4,own_setLast (w:=wc) HOWC.out,gDr (grow_setNew (grow_setNew HGX.out hgB _ _ _) hgB _ _ _),set_far (set_far HXP.out hne1.symm _) hne1.symm _,set_far (set_far HYQ.out hne2.symm _) hne2.symm _⟩
       ·obtain rfl:xs1 = []:=List.eq_nil_of_length_eq_zero (by omega)
        subst hc3
        have hc4b:¬ c4 - 1 = 0:=by omega
        go_region_with (fail)
        all_goals
         go_wp2_with fail
         go_meet
         exact ⟨_,_,_,_,RowVa.nil _ _ _ V3,row_tail HRY.out,own_setLast (w:=wc) HOWC.out,gDr (grow_setNew (grow_setNew HGX.out hgB _ _ _) hgB _ _ _),set_far (set_far HXP.out hne1.symm _) hne1.symm _,set_far (set_far HYQ.out hne2.symm _) hne2.symm _⟩
      ·by_cases hc4:c4 = 1
       ·have hc3b:¬ c3 - 1 = 0:=by omega
        obtain rfl:ys1 = []:=List.eq_nil_of_length_eq_zero (by omega)
        subst hc4
        go_region_with (fail)
        all_goals
         go_wp2_with fail
         go_meet
         exact ⟨_,_,_,_,row_tail HRX.out,RowVa.nil _ _ _ V4,own_setLast (w:=wc) HOWC.out,gDr (grow_setNew (grow_setNew HGX.out hgB _ _ _) hgB _ _ _),set_far (set_far HXP.out hne1.symm _) hne1.symm _,set_far (set_far HYQ.out hne2.symm _) hne2.symm _⟩
       ·have hc3b:¬ c3 - 1 = 0:=by omega
        have hc4b:¬ c4 - 1 = 0:=by omega
        go_region_with (fail)
        all_goals
         go_wp2_with fail
         go_meet
         exact ⟨_,_,_,_,row_tail HRX.out,row_tail HRY.out,own_setLast (w:=wc) HOWC.out,gDr (grow_setNew (grow_setNew HGX.out hgB _ _ _) hgB _ _ _),set_far (set_far HXP.out hne1.symm _) hne1.symm _,set_far (set_far HYQ.out hne2.symm _) hne2.symm _⟩
     case rest =>
      obtain ⟨p3,p4,U3,U4,hR3,hR4,hown2,hgw,hXp,hYq⟩:=hcut
      obtain ⟨x0,x1',x2,x3,x4,x5,x6⟩:=box7 hXp
      obtain ⟨y0,y1',y2,y3,y4,y5,y6⟩:=box7 hYq
      have hsz:x1.size <= vsizes xs:=by
       have h1:=HN.out
       have h2:=HLE.out
       rw [leftV_append,leftV_one] at h1
       simp only [vsizes] at h1
       omega
      have hCC:=HC.out x1 y1 _ _ wc hgw HL1.out HL2.out hsz
      unfold vaV at hCC
      have HCC:=jh hCC
      have HGW:=jh hgw
      have HR3:=jh hR3
      have HR4:=jh hR4
      have HOW:=jh hown2
      have HXQ:=jh hXp
      have HYR:=jh hYq
      clear hCC hgw hR3 hR4 hown2 hXp hYq hsz HOWC HGX HXP HYQ HOWN
      go_wp2_with fail
      refine HCC.out.mono ?_;rintro e w1 ⟨rfl,hg1⟩
      by_cases hc0:c x1 y1 = 0
      ·have HC0:=jh hc0
       have HX1:=jh ((hg1.block _ (Array.getElem?_eq_some_iff.1 HXQ.out).1 (by simp)).trans HXQ.out)
       have HY1:=jh ((hg1.block _ (Array.getElem?_eq_some_iff.1 HYR.out).1 (by simp)).trans HYR.out)
       have HG1:=jh (gTq HGW.out hg1)
       have HO1:=jh (World.ownsRow.kept HOW.out hg1 (.inr (by simp [Value.ownBlock])))
       clear hg1 HCC x0 x1' x2 x3 x4 x5 x6 y0 y1' y2 y3 y4 y5 y6 g0 g1 hfc
       rw [hc0]
       clear hc0
       obtain ⟨rfl,hac1,W1,hRA1⟩:=argsOfV HL1.out
       obtain ⟨rfl,hac2,W2,hRA2⟩:=argsOfV HL2.out
       have HRA1:=jh hRA1
       have HRA2:=jh hRA2
       have HA1:=jh hac1
       have HA2:=jh hac2
       have HOD:OwnsCV w0.heap.size w1.drew (.slice (some ⟨g,0,none⟩) (us'.length + 1) cap) (us' ++ [cpV p3 xs1.length (c3 - 1) p4 ys1.length (c4 - 1)]):=by
        unfold OwnsCV
        rw [List.length_append]
        exact HO1.out
       have HNX:Hid (∀ v' w',OwnsCV w0.heap.size w' v' ((us' ++ [cpV p3 xs1.length (c3 - 1) p4 ys1.length (c4 - 1)]) ++ [cpV aa1 x1.args.length ac1 aa2 y1.args.length ac2]) -> w0.grownBy w' none -> ∃ m,m < μ (.slice (some ⟨g,0,none⟩) (us'.length + 1) cap,wr) /\ SbRel w0 c res (2 * vsizes xs + 1) m v' w'):=by
        intro v' w' ho' hg'
        have h1:=HN.out
        rw [leftV_append,leftV_one] at h1
        simp only [vsizes] at h1
        have h2:=vsize_eq x1
        refine ⟨leftV (rows' ++ [(xs1,ys1)] ++ [(x1.args,y1.args)]),?_,_,_,ho',RowsCV.snoc ⟨aa1,ac1,W1,aa2,ac2,W2,rfl,⟨HA1.out,HA2.out⟩,HRA1.out,HRA2.out⟩ (RowsCV.snoc ⟨p3,c3 - 1,U3,p4,c4 - 1,U4,rfl,⟨by show xs1.length <= _;omega,by show ys1.length <= _;omega⟩,HR3.out,HR4.out⟩ HROWS.out),rfl,?_,?_,hg'⟩
        ·rw [leftV_append,leftV_append,leftV_one,leftV_one]
         simp only
         omega
        ·have h3:=HLE.out
         rw [leftV_append,leftV_append,leftV_one,leftV_one]
         simp only
         omega
        ·rw [← HSTK.out,stk_push c rows' x1 y1 xs1 ys1 HC0.out]
       have hB1:w0.heap.size <= w1.heap.size:=HG1.out.size
       have hgl1:g < w1.heap.size:=by
        have:=HO1.out
        exact (World.ownsRow.lt this g rfl).2
       have nbp:bp ≠ g:=by omega
       have nbq:bq ≠ g:=by omega
       have xdk:∀ W3:World,w1.grownBy W3 (some g) -> W3.heap[bp]? = _:=fun W3 h=>(h.block bp (Array.getElem?_eq_some_iff.1 HX1.out).1 (by simpa using nbp)).trans HX1.out
       have xd0:∀ W3:World,w1.grownBy W3 (some g) -> W3.cell? ⟨bp,0,none⟩ = some (.int .i64 k1):=fun W3 h=>(box7 (xdk W3 h)).1
       have xd1:∀ W3:World,w1.grownBy W3 (some g) -> W3.cell? ⟨bp,1,none⟩ = some (.int .i64 n1):=fun W3 h=>(box7 (xdk W3 h)).2.1
       have xd2:∀ W3:World,w1.grownBy W3 (some g) -> W3.cell? ⟨bp,2,none⟩ = some (.int .i64 a1):=fun W3 h=>(box7 (xdk W3 h)).2.2.1
       have xd3:∀ W3:World,w1.grownBy W3 (some g) -> W3.cell? ⟨bp,3,none⟩ = some (.string s1):=fun W3 h=>(box7 (xdk W3 h)).2.2.2.1
       have xd4:∀ W3:World,w1.grownBy W3 (some g) -> W3.cell? ⟨bp,4,none⟩ = some (.slice aa1 x1.args.length ac1):=fun W3 h=>(box7 (xdk W3 h)).2.2.2.2.1
       have xd5:∀ W3:World,w1.grownBy W3 (some g) -> W3.cell? ⟨bp,5,none⟩ = some (.slice ta1 tl1 tc1):=fun W3 h=>(box7 (xdk W3 h)).2.2.2.2.2.1
       have xd6:∀ W3:World,w1.grownBy W3 (some g) -> W3.cell? ⟨bp,6,none⟩ = some (.slice na1 nl1 nc1):=fun W3 h=>(box7 (xdk W3 h)).2.2.2.2.2.2
       clear xdk
       have ydk:∀ W3:World,w1.grownBy W3 (some g) -> W3.heap[bq]? = _:=fun W3 h=>(h.block bq (Array.getElem?_eq_some_iff.1 HY1.out).1 (by simpa using nbq)).trans HY1.out
       have yd0:∀ W3:World,w1.grownBy W3 (some g) -> W3.cell? ⟨bq,0,none⟩ = some (.int .i64 k2):=fun W3 h=>(box7 (ydk W3 h)).1
       have yd1:∀ W3:World,w1.grownBy W3 (some g) -> W3.cell? ⟨bq,1,none⟩ = some (.int .i64 n2):=fun W3 h=>(box7 (ydk W3 h)).2.1
       have yd2:∀ W3:World,w1.grownBy W3 (some g) -> W3.cell? ⟨bq,2,none⟩ = some (.int .i64 a2):=fun W3 h=>(box7 (ydk W3 h)).2.2.1
       have yd3:∀ W3:World,w1.grownBy W3 (some g) -> W3.cell? ⟨bq,3,none⟩ = some (.string s2):=fun W3 h=>(box7 (ydk W3 h)).2.2.2.1
       have yd4:∀ W3:World,w1.grownBy W3 (some g) -> W3.cell? ⟨bq,4,none⟩ = some (.slice aa2 y1.args.length ac2):=fun W3 h=>(box7 (ydk W3 h)).2.2.2.2.1
       have yd5:∀ W3:World,w1.grownBy W3 (some g) -> W3.cell? ⟨bq,5,none⟩ = some (.slice ta2 tl2 tc2):=fun W3 h=>(box7 (ydk W3 h)).2.2.2.2.2.1
       have yd6:∀ W3:World,w1.grownBy W3 (some g) -> W3.cell? ⟨bq,6,none⟩ = some (.slice na2 nl2 nc2):=fun W3 h=>(box7 (ydk W3 h)).2.2.2.2.2.2
       clear ydk
       have hlen8:(us' ++ [cpV p3 xs1.length (c3 - 1) p4 ys1.length (c4 - 1)]).length <= 100000000:=by simp;omega
       have HL8:=jh hlen8
       clear hRA1 hRA2 hac1 hac2 hlen8
       go_wp2_with fail
       go_region_held3 (fun w'=>w1.grownBy w' (some g)) (first | assumption | exact gDr (gRf _ _) | exact gTr (by assumption) (gAq (gBq _))) (first
        | (go_at_call 24;refine (vmade_any _ _ _ _ _ _ _ _ _ _ _ _ _ _).mono ?_;rintro e w' ⟨rfl,hg⟩;have hS:=gTr (r:=some g) (by assumption) (gAq hg);have hO:OwnsCV w0.heap.size w' (.slice (some ⟨g,0,none⟩) (us'.length + 1) cap) (us' ++ [cpV p3 xs1.length (c3 - 1) p4 ys1.length (c4 - 1)]):=World.ownsRow.kept (by assumption) hg (.inr (by simp [Value.ownBlock])))
        | (refine stepCV w0.heap.size (us' ++ [cpV p3 xs1.length (c3 - 1) p4 ys1.length (c4 - 1)]) _ _ _ _ _ _ _ (.slice (some ⟨g,0,none⟩) (us'.length + 1) cap) rfl (.tmp 95) (.tmp 103) rfl rfl rfl rfl (by assumption) (Nat.le_trans hB1 (show w1.grownBy _ (some g) from by assumption).size) HL8.out ?_;intro v' w9 ho' hg';have hS9:w1.grownBy w9 (some g):=gTr (by assumption) hg'.1;have HO9:=jh ho';clear ho' hg'))
       all_goals
        have HS9:=jh (grow_new HG1.out hS9 hgB)
        clear hS9
        go_wp2_with fail
        obtain ⟨m,h1,h2⟩:=HNX.out _ _ HO9.out HS9.out
        go_roundw
        case rel=>exact ⟨m,h2⟩
        case measure=>exact Nat.lt_of_le_of_lt (HM.out _ m h2).2 h1
      ·have z5:(c x1 y1 == 0) = false:=by simpa using hc0
       have z6:(c x1 y1 != 0) = true:=by simpa using hc0
       have hres:c x1 y1 = res:=by
        rw [← HSTK.out,stk_ret c _ x1 y1 xs1 ys1 hc0]
       have HRE:=jh hres
       have HG1:=jh (gTq HGW.out hg1)
       clear hg1 HCC hres
       go_wp2_with fail
       go_ret
       exact Lf.reti HRE.out HG1.out
end Go.Proofs.YtkglnoimbekhhaaGreat
