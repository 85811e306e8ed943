import Derived.Test.YtkglnoimbekhhaaGreatKZa
import Derived.Deep.RegionHeld3
import Derived.Deep.DeepCutAuto
namespace Go.Proofs.YtkglnoimbekhhaaGreat
set_option maxRecDepth 100000
set_option maxHeartbeats 4000000
open Go.ChangeShapes Go.WideShapes Go.ChangeAt Go.RowKit
set_option linter.unusedVariables false
theorem info_cl:(Tryz.prog.info? 83).map (fun i=>(i.zero,i.size,i.bytes)) = some (some (.agg #[.int .i64 0,.slice none 0 0,.int .i64 0,.int .i64 0,.int .i64 0,.string ⟨#[]⟩,.slice none 0 0,.slice none 0 0,.slice none 0 0]),9,144):=by kernel_rfl
def aggC:Value -> List Value
 | .agg xs=>xs.toList
 | _=>[]
def flatC (cs:List (Value × Value)):List Value:=cs.flatMap fun p=>aggC p.1 ++ aggC p.2
def OwnsK (B:Nat) (w:World) (v:Value) (cs:List (Value × Value)):Prop:=w.ownsRow B 83 9 v cs.length (flatC cs)
def ClaimsOk (w:World):List (Ty × Va) -> List (Value × Value) -> Prop
 | [],[]=>True
 | p :: C,q :: cs=>(LiesT (fun _=>True) w p.1 q.1 /\ LiesV (fun _=>True) w p.2 q.2) /\ ClaimsOk w C cs
 | [],_ :: _=>False
 | _ :: _,[]=>False
theorem flatC_append (a b:List (Value × Value)):flatC (a ++ b) = flatC a ++ flatC b:=by simp [flatC]
theorem ClaimsOk.len {w:World} : ∀ {C:List (Ty × Va)} {cs:List (Value × Value)},ClaimsOk w C cs -> cs.length = C.length
 | [],[],_=>rfl
 | _ :: _,_ :: _,h=>by simp [ClaimsOk.len h.2]
 | [],_ :: _,h=>h.elim
 | _ :: _,[],h=>h.elim
theorem ClaimsOk.append {w:World} : ∀ {C D:List (Ty × Va)} {cs ds:List (Value × Value)},ClaimsOk w C cs -> ClaimsOk w D ds -> ClaimsOk w (C ++ D) (cs ++ ds)
 | [],D,[],ds,_,h=>h
 | _ :: _,_,_ :: _,_,h,k=>⟨h.1,ClaimsOk.append h.2 k⟩
 | [],_,_ :: _,_,h,_=>h.elim
 | _ :: _,_,[],_,h,_=>h.elim
theorem ClaimsOk.last {w:World} {cs:List (Value × Value)} {q:Value × Value} : ∀ {C:List (Ty × Va)},ClaimsOk w C (cs ++ [q]) -> ∃ C' p,C = C' ++ [p] /\ ClaimsOk w C' cs /\ LiesT (fun _=>True) w p.1 q.1 /\ LiesV (fun _=>True) w p.2 q.2:=by
 induction cs with
 | nil =>
  intro C h
  match C,h with
  | [p],h=>exact ⟨[],p,rfl,trivial,h.1.1,h.1.2⟩
  | _ :: _ :: _,h=>exact h.2.elim
  | [],h=>exact h.elim
 | cons x cs ih =>
  intro C h
  match C,h with
  | r :: C,h =>
   obtain ⟨C',p,rfl,h1,h2⟩:=ih h.2
   exact ⟨r :: C',p,rfl,⟨h.1,h1⟩,h2⟩
  | [],h=>exact h.elim
theorem nine {w:World} {T:Ty} {x:Va} {u v:Value} (h1:LiesT (fun _=>True) w T u) (h2:LiesV (fun _=>True) w x v):(aggC u ++ aggC v).length = 9 /\ ∀ z ∈ aggC u ++ aggC v,z.oneCell' = true:=by
 obtain ⟨a,c,V,rfl,it,hR⟩:=h1.inv
 obtain ⟨k,n,aa,s,p,al,ac,ta,tl,tc,na,nl,nc,rfl⟩:=h2.vaV
 refine ⟨rfl,fun z hz=>?_⟩
 simp [aggC,tyV,vaV] at hz
 rcases hz with rfl | rfl | rfl | rfl | rfl | rfl | rfl | rfl | rfl <;> rfl
theorem flatC_len {w:World} : ∀ {C:List (Ty × Va)} {cs:List (Value × Value)},ClaimsOk w C cs -> (flatC cs).length = cs.length * 9 /\ ∀ z ∈ flatC cs,z.oneCell' = true
 | [],[],_=>⟨rfl,fun z hz=>by simp [flatC] at hz⟩
 | p :: C,q :: cs,h=>by
  obtain ⟨e1,e2⟩:=flatC_len h.2
  obtain ⟨n1,n2⟩:=nine h.1.1 h.1.2
  have e:flatC (q :: cs) = (aggC q.1 ++ aggC q.2) ++ flatC cs:=by simp [flatC]
  rw [e]
  refine ⟨by rw [List.length_append,n1,e1,List.length_cons];omega,fun z hz=>?_⟩
  rcases List.mem_append.1 hz with hz | hz
  ·exact n2 z hz
  ·exact e2 z hz
 | [],_ :: _,h=>h.elim
 | _ :: _,[],h=>h.elim
def TysAt (w W:World) (ts:List Ty) (a:Option Addr) (U:Nat -> Value):Prop :=
 ts.length <= maxLen /\ ∀ i (h:i < ts.length),TyAt (fun _=>True) W a i (U i) /\ LiesT (fun _=>True) w ts[i] (U i)
theorem TysAt.grow {w W W2:World} {ts:List Ty} {a:Option Addr} {U:Nat -> Value} (h:TysAt w W ts a U) (hg:W.grownBy W2 none):TysAt w W2 ts a U :=
 ⟨h.1,fun i hi=>⟨(h.2 i hi).1.same (sAl hg),(h.2 i hi).2⟩⟩
theorem TysAt.of {w W:World} {ts:List Ty} {a:Option Addr} {U:Nat -> Value} (h:RowT (fun _=>True) w ts a U) (hg:w.grownBy W none):TysAt w W ts a U :=
 ⟨h.1,fun i hi=>⟨(h.2.1 i hi).same (sAl hg),h.2.2 i hi⟩⟩
theorem oneEach_no {list:List Va} {ts:List Ty} {la ta:Option Addr} {lc tc:Nat} (hl:list.length <= maxLen) (ht:ts.length <= maxLen) (hne:list.length ≠ ts.length) (W:World) :
 Calls Tryz.prog 66 #[.slice la list.length lc,.slice ta ts.length tc] W fun e w'=>e = .returned (.tuple #[.slice none 0 0,.bool false]) /\ w' = W:=by
 unfold maxLen at hl ht
 have z1:((list.length:Int) == (ts.length:Int)) = false:=by rw [beq_eq_false_iff_ne];omega
 have z2:((list.length:Int) != (ts.length:Int)) = true:=by rw [bne_iff_ne];omega
 have z3:¬ (list.length:Int) = (ts.length:Int):=by omega
 go_enter Tryz.func66,Tryz.ntmps66
 go_wp2_with fail
 go_ret2
 exact ⟨rfl,rfl⟩
theorem growK_any (n:Nat) (hn:n <= 20000000) (W:World) :
 Calls Tryz.prog 94 #[.slice none 0 0,.int .i64 n] W fun e w'=>∃ v,e = .returned v /\ w'.ownsRow W.heap.size 83 9 v 0 [] /\ W.grownBy w' none:=by
 have h63:(n:Int) <= 20000000:=by omega
 have h0n:¬ (n:Int) < 0:=by omega
 by_cases h:n = 0
 ·subst h
  go_enter Tryz.func94,Tryz.ntmps94
  go_wp2_with fail
  go_ret
  exact ⟨_,rfl,World.ownsRow_nil _ _ _ _,gRf _ _⟩
 ·obtain ⟨g,cap,w1,hr,ho,hg,hc,hc2⟩:=zeros_own W 85 3 85 83 .i64 .i64 _ 9 144 info_cl Tryz.underlying85 Tryz.underlying3 n (by omega) (by decide) rfl (by omega) (by decide)
  have hpos:(n:Int) > 0:=by omega
  have HO:=jh ho
  have HG:=jh hg
  clear ho hg
  go_enter Tryz.func94,Tryz.ntmps94
  go_wp2_with (at_builtin;refine Lib.wpList_append_run _ rfl _ _ _ _ rfl _ _ rfl rfl _ _ hr ?_)
  go_ret
  exact ⟨_,rfl,HO.out,HG.out⟩
theorem stepK {ops:Array Oper} {o:Oper} {a:Act} {K:Act -> World -> Prop} {Q:Exit -> Act -> World -> Prop} {E:Prop} (B:Nat) (cs:List (Value × Value)) (t:Int) (ta:Option Addr) (tl tc:Nat) (k n aa:Int) (st:ByteArray) (pa:Option Addr) (pl pc:Nat) (ya:Option Addr) (yl yc:Nat) (na:Option Addr) (nl nc:Nat) (w0:World) (v:Value) (hgd:o.guard = none) (s x:Operand)
 (ho:o.op = .call { callee:=.builtin .append,args:=#[s,x],argTypes:=#[85,85] }) (hs:a.eval s = v) {H:Nat} (hx:a.eval x = .slice (some ⟨H,0,none⟩) 1 1) (hH:w0.heap.size = H)
 (hown:OwnsK B w0 v cs) (hB:B <= w0.heap.size) (hlen:cs.length <= 20000000)
 (h:∀ v' w',OwnsK B w' v' (cs ++ [(tyV t ta tl tc,vaV k n aa st pa pl pc ya yl yc na nl nc)]) -> Gr w0 v w' v' -> K (a.put o.dst v') w') :
 if Region.wanted o (yielded ops a.tmps) = true then Oper.wp Tryz.prog o a (w0.alloc (.cells #[.int .i64 t,.slice ta tl tc,.int .i64 k,.int .i64 n,.int .i64 aa,.string st,.slice pa pl pc,.slice ya yl yc,.slice na nl nc] 83)) K Q else E:=by
 subst hH
 refine step_app hgd s x 85 ho B 83 Tryz.underlying85 info_cl rfl (by decide) v cs.length (flatC cs) hs (World.ownsRow.alloc hown _) _ 1 [.int .i64 t,.slice ta tl tc,.int .i64 k,.int .i64 n,.int .i64 aa,.string st,.slice pa pl pc,.slice ya yl yc,.slice na nl nc] hx rfl (SrcAt.new _ _ _ _ _) ?_ ?_ ?_ ?_ ?_
 ·intro u hu;simp at hu;rcases hu with rfl | rfl | rfl | rfl | rfl | rfl | rfl | rfl | rfl <;> rfl
 ·unfold maxLen;omega
 ·omega
 ·simp;omega
 ·intro v' w' h1 h2 _
  exact h v' w' (by unfold OwnsK;rw [flatC_append,List.length_append];exact h1) (Gr.trans (Gr.alloc (Gr.refl w0 v) _) h2)
theorem stepKd {ops:Array Oper} {o:Oper} {a:Act} {K:Act -> World -> Prop} {Q:Exit -> Act -> World -> Prop} {E:Prop} (B:Nat) (cs:List (Value × Value)) (t:Int) (ta:Option Addr) (tl tc:Nat) (k n aa:Int) (st:ByteArray) (pa:Option Addr) (pl pc:Nat) (ya:Option Addr) (yl yc:Nat) (na:Option Addr) (nl nc:Nat) (w0:World) (v:Value) (hgd:o.guard = none) (s x:Operand)
 (ho:o.op = .call { callee:=.builtin .append,args:=#[s,x],argTypes:=#[85,85] }) (hs:a.eval s = v) {H:Nat} (hx:a.eval x = .slice (some ⟨H,0,none⟩) 1 1) (hH:w0.heap.size = H)
 (hown:OwnsK B w0 v cs) (hB:B <= w0.heap.size) (hlen:cs.length <= 20000000)
 (h:∀ v' w',OwnsK B w' v' (cs ++ [(tyV t ta tl tc,vaV k n aa st pa pl pc ya yl yc na nl nc)]) -> Gr w0 v w' v' -> K (a.put o.dst v') w') :
 if Region.wanted o (yielded ops a.tmps) = true then Oper.wp Tryz.prog o a (w0.alloc (.cells #[.int .i64 t,.slice ta tl tc,.int .i64 k,.int .i64 n,.int .i64 aa,.string st,.slice pa pl pc,.slice ya yl yc,.slice na nl nc] 83)).drew K Q else E :=
 stepK B cs t ta tl tc k n aa st pa pl pc ya yl yc na nl nc w0.drew v hgd s x ho hs hx hH hown hB hlen (fun v' w' h1 h2=>h v' w' h1 h2.ofDrew)
theorem zip_take_snoc (ts:List Ty) (l:List Va) (j:Nat) (h1:j < ts.length) (h2:j < l.length):(ts.zip l).take (j + 1) = (ts.zip l).take j ++ [(ts[j],l[j])]:=by
 rw [List.take_succ_eq_append_getElem (by simp;omega)]
 simp
theorem oneEach_any {w W:World} {list:List Va} {ts:List Ty} {la ta:Option Addr} {lc tc:Nat} {V U:Nat -> Value} (hL:RowVa (fun _=>True) w list la V) (hT:TysAt w W ts ta U) (hW:w.grownBy W none) (heq:list.length = ts.length) (hz:list.length <= 20000000) :
 Calls Tryz.prog 66 #[.slice la list.length lc,.slice ta ts.length tc] W fun e w'=>∃ cv cs,e = .returned (.tuple #[cv,.bool true]) /\ OwnsK W.heap.size w' cv cs /\ ClaimsOk w (ts.zip list) cs /\ W.grownBy w' none:=by
 have hl:=hL.1
 unfold maxLen at hl
 have HL:=jh hL
 have HT:=jh hT
 have HW:=jh hW
 have HE:=jh heq
 have hZ:=hz
 have HGK:=jh (growK_any list.length hz W)
 rw [← heq]
 clear hL hT hW heq
 go_enter Tryz.func66,Tryz.ntmps66
 go_wp2_with fail
 refine HGK.out.mono ?_;rintro e w1 ⟨cv0,rfl,hown0,hg0⟩
 have HO0:=jh hown0
 have HG0:=jh hg0
 clear hown0 hg0 HGK
 go_wp2_with fail
 go_loopw [6,19] (fun cv iv wr=>∃ (j:Nat) (cs:List (Value × Value)),j <= list.length /\ iv = .int .i64 j /\ OwnsK W.heap.size wr cv cs /\ ClaimsOk w ((ts.zip list).take j) cs /\ W.grownBy wr none) (fun _ iv _=>list.length - (intOf iv).toNat)
 case atStart=>exact ⟨0,[],Nat.zero_le _,rfl,HO0.out,trivial,HG0.out⟩
 case round =>
  obtain ⟨j,cs,hj,rfl,hown,hcl,hgr⟩:=hrel
  by_cases hlt:j < list.length
  ·have hgw:=gTq HW.out hgr
   have hltT:j < ts.length:=by rw [← HE.out];exact hlt
   obtain ⟨hTA,hLT⟩:=(HT.out.grow hgr).2 j hltT
   obtain ⟨b0,o0,t0,a0,l0,c0,rfl,_,hv0,t1,t2⟩:=hTA.cells
   have hLV:=HL.out.2.2 j hlt
   obtain ⟨b3,o3,rfl,_,k1,n1,a1,s1,aa1,al1,ac1,ta1,tl1,tc1,na1,nl1,nc1,hv1,e0,e1,e2,e3,e4,e5,e6⟩:=(HL.out.2.1 j hlt).same (sAl hgw)
   rw [hv0] at hLT
   rw [hv1] at hLV
   have q0:b0 < wr.heap.size:=World.block_lt_of_cell? wr _ t1
   have q3:b3 < wr.heap.size:=World.block_lt_of_cell? wr _ e0
   have hlc:=hcl.len
   have hlc2:cs.length <= 20000000:=by rw [hlc];simp;omega
   have hB:W.heap.size <= wr.heap.size:=hgr.size
   have hj2:(j:Int) < (list.length:Int):=by omega
   have hb0W:b0 < W.heap.size:=by
    obtain ⟨hTA2,_⟩:=HT.out.2 j hltT
    obtain ⟨b0',o0',t0',a0',l0',c0',hae,_,_,t1',_⟩:=hTA2.cells
    simp only [Option.some.injEq,Addr.mk.injEq,and_true] at hae
    obtain ⟨rfl,rfl⟩:=hae
    exact World.block_lt_of_cell? W _ t1'
   have n0:some b0 ≠ u6.ownBlock:=fun e=>by have:=(World.ownsRow.lt hown b0 e.symm).1;omega
   have n3:some wr.heap.size ≠ u6.ownBlock:=fun e=>by have:=(World.ownsRow.lt hown wr.heap.size e.symm).2;omega
   have hvb:=heap_alloc_new wr (.cells #[.int .i64 k1,.int .i64 n1,.int .i64 a1,.string s1,.slice aa1 al1 ac1,.slice ta1 tl1 tc1,.slice na1 nl1 nc1] 28)
   have hown5:=World.ownsRow.alloc hown (.cells #[.int .i64 k1,.int .i64 n1,.int .i64 a1,.string s1,.slice aa1 al1 ac1,.slice ta1 tl1 tc1,.slice na1 nl1 nc1] 28)
   have hg5:=gTq hgr (gBq (w:=wr) (.cells #[.int .i64 k1,.int .i64 n1,.int .i64 a1,.string s1,.slice aa1 al1 ac1,.slice ta1 tl1 tc1,.slice na1 nl1 nc1] 28))
   have t15:=(World.cell?_of_block (heap_alloc_old (w:=wr) (o:=(.cells #[.int .i64 k1,.int .i64 n1,.int .i64 a1,.string s1,.slice aa1 al1 ac1,.slice ta1 tl1 tc1,.slice na1 nl1 nc1] 28)) (h:=q0))).trans t1
   have t25:=(World.cell?_of_block (heap_alloc_old (w:=wr) (o:=(.cells #[.int .i64 k1,.int .i64 n1,.int .i64 a1,.string s1,.slice aa1 al1 ac1,.slice ta1 tl1 tc1,.slice na1 nl1 nc1] 28)) (h:=q0))).trans t2
   have hsz5:(wr.alloc (.cells #[.int .i64 k1,.int .i64 n1,.int .i64 a1,.string s1,.slice aa1 al1 ac1,.slice ta1 tl1 tc1,.slice na1 nl1 nc1] 28)).heap.size = wr.heap.size + 1:=by simp
   have hj63:j < 9223372036854775807:=by omega
   clear hj2 hgw hTA
   go_wp2_with fail
   generalize wr.alloc (.cells #[.int .i64 k1,.int .i64 n1,.int .i64 a1,.string s1,.slice aa1 al1 ac1,.slice ta1 tl1 tc1,.slice na1 nl1 nc1] 28) = w5 at *
   have td1:∀ W3:World,w5.grownBy W3 u6.ownBlock -> W3.cell? ⟨b0,o0 + j * 2,none⟩ = some (.int .i64 t0):=fun W3 h=>(World.cell?_of_block (h.block b0 (by omega) n0)).trans t15
   have td2:∀ W3:World,w5.grownBy W3 u6.ownBlock -> W3.cell? ⟨b0,o0 + j * 2 + 1,none⟩ = some (.slice a0 l0 c0):=fun W3 h=>(World.cell?_of_block (h.block b0 (by omega) n0)).trans t25
   have vk:∀ W3:World,w5.grownBy W3 u6.ownBlock -> W3.heap[wr.heap.size]? = _:=fun W3 h=>(h.block wr.heap.size (by omega) n3).trans hvb
   have vd0:∀ W3:World,w5.grownBy W3 u6.ownBlock -> W3.cell? ⟨wr.heap.size,0,none⟩ = some (.int .i64 k1):=fun W3 h=>(box7 (vk W3 h)).1
   have vd1:∀ W3:World,w5.grownBy W3 u6.ownBlock -> W3.cell? ⟨wr.heap.size,1,none⟩ = some (.int .i64 n1):=fun W3 h=>(box7 (vk W3 h)).2.1
   have vd2:∀ W3:World,w5.grownBy W3 u6.ownBlock -> W3.cell? ⟨wr.heap.size,2,none⟩ = some (.int .i64 a1):=fun W3 h=>(box7 (vk W3 h)).2.2.1
   have vd3:∀ W3:World,w5.grownBy W3 u6.ownBlock -> W3.cell? ⟨wr.heap.size,3,none⟩ = some (.string s1):=fun W3 h=>(box7 (vk W3 h)).2.2.2.1
   have vd4:∀ W3:World,w5.grownBy W3 u6.ownBlock -> W3.cell? ⟨wr.heap.size,4,none⟩ = some (.slice aa1 al1 ac1):=fun W3 h=>(box7 (vk W3 h)).2.2.2.2.1
   have vd5:∀ W3:World,w5.grownBy W3 u6.ownBlock -> W3.cell? ⟨wr.heap.size,5,none⟩ = some (.slice ta1 tl1 tc1):=fun W3 h=>(box7 (vk W3 h)).2.2.2.2.2.1
   have vd6:∀ W3:World,w5.grownBy W3 u6.ownBlock -> W3.cell? ⟨wr.heap.size,6,none⟩ = some (.slice na1 nl1 nc1):=fun W3 h=>(box7 (vk W3 h)).2.2.2.2.2.2
   clear vk
   have HOD:OwnsK W.heap.size w5.drew u6 cs:=hown5
   have HB5:Hid (W.heap.size <= w5.heap.size):=hg5.size
   have HG5:=jh hg5
   have HO5:=jh hown5
   have HLT:=jh hLT
   have HLV:=jh hLV
   have HCL:=jh hcl
   have hltL:(j:Int) < (list.length:Int):=by omega
   clear hsz5
   clear hg5 hown5 hLT hLV hcl hown hgr hv0 hv1 e0 e1 e2 e3 e4 e5 e6 t1 t2 t15 t25 hvb
   go_region_held3 (fun w'=>w5.grownBy w' u6.ownBlock) (first | assumption | exact gDr (gRf _ _) | exact gTr (by assumption) (gAq (gBq _)) | exact gDr (gAq (gBq _))) (first
    | (refine stepKd W.heap.size cs _ _ _ _ _ _ _ _ _ _ _ _ _ _ _ _ _ w5 u6 rfl (.tmp 24) (.tmp 31) rfl rfl rfl rfl HO5.out HB5.out hlc2 ?_;intro v' w9 ho' hg';have hS9:w5.grownBy w9 u6.ownBlock:=hg'.1;have HO9:=jh ho';clear ho' hg'))
   have HS9:=jh (grow_own HG5.out HO5.out (Nat.le_refl _) hS9)
   clear hS9
   go_wp2_with fail
   go_roundw
   case rel =>
    refine ⟨j + 1,_,by omega,by go_num,HO9.out,?_,HS9.out⟩
    rw [zip_take_snoc ts list j hltT hlt]
    exact ClaimsOk.append HCL.out ⟨⟨HLT.out,HLV.out⟩,trivial⟩
   case measure=>simp [intOf];omega
  ·have hje:(ts.zip list).take j = ts.zip list:=List.take_of_length_le (by have:=HE.out;simp;omega)
   rw [hje] at hcl
   have HO:=jh hown
   have HCL:=jh hcl
   have HGR:=jh hgr
   have hj3:¬ (j:Int) < (list.length:Int):=by omega
   clear hown hcl hgr hje
   go_wp2_with fail
   go_ret2
   exact ⟨_,rfl,_,HO.out,HCL.out,HGR.out⟩
def OfPost (w W:World) (ps:Option (List (Ty × Va))) (e:Ending) (w':World):Prop :=
 ((ps = none /\ e = .returned (.tuple #[.slice none 0 0,.bool false])) \/ ∃ l cv cs,ps = some l /\ e = .returned (.tuple #[cv,.bool true]) /\ OwnsK W.heap.size w' cv cs /\ ClaimsOk w l cs) /\ W.grownBy w' none
theorem oneEach_all {w W:World} {list:List Va} {ts:List Ty} {la ta:Option Addr} {lc tc:Nat} {V U:Nat -> Value} (hL:RowVa (fun _=>True) w list la V) (hT:TysAt w W ts ta U) (hW:w.grownBy W none) (hz:list.length <= 20000000) :
 Calls Tryz.prog 66 #[.slice la list.length lc,.slice ta ts.length tc] W (OfPost w W (if list.length = ts.length then some (ts.zip list) else none)):=by
 by_cases h:list.length = ts.length
 ·rw [if_pos h]
  exact (oneEach_any hL hT hW h hz).mono fun e w' ⟨cv,cs,he,ho,hc,hg⟩=>⟨.inr ⟨_,cv,cs,rfl,he,ho,hc⟩,hg⟩
 ·rw [if_neg h]
  exact (oneEach_no hL.1 hT.1 h W).mono fun e w' ⟨he,hw⟩=>⟨.inl ⟨rfl,he⟩,by rw [hw];exact gRf _ _⟩
theorem OfPost.grown {w W W2:World} {ps:Option (List (Ty × Va))} {e:Ending} {w':World} (h:OfPost w W2 ps e w') (hg:W.grownBy W2 none):OfPost w W ps e w':=by
 refine ⟨?_,gTq hg h.2⟩
 rcases h.1 with h | ⟨l,cv,cs,h1,h2,h3,h4⟩
 ·exact .inl h
 ·refine .inr ⟨l,cv,cs,h1,h2,?_,h4⟩
  have hs:=hg.size
  refine ⟨h3.1,?_⟩
  rcases h3.2 with q | ⟨g,cap,cur,q1,q2,q3⟩
  ·exact .inl q
  ·exact .inr ⟨g,cap,cur,q1,by omega,q3⟩
theorem OfPost.form {w W:World} {ps:Option (List (Ty × Va))} {e:Ending} {w':World} (h:OfPost w W ps e w'):∃ cv bb,e = .returned (.tuple #[cv,.bool bb]):=by
 rcases h.1 with ⟨_,h⟩ | ⟨l,cv,cs,_,h,_⟩
 ·exact ⟨_,_,h⟩
 ·exact ⟨_,_,h⟩
theorem rep_tys {w W:World} {T:Ty} {t:Int} {a:Option Addr} {l c g n:Nat} (hT:LiesT (fun _=>True) w T (tyV t a l c)) (hn:n <= maxLen) (h:RepAt W g n n (.int .i64 t) (.slice a l c)):TysAt w W (List.replicate n T) (some ⟨g,0,none⟩) (fun _=>tyV t a l c):=by
 refine ⟨by simpa using hn,fun i hi=>?_⟩
 rw [List.length_replicate] at hi
 obtain ⟨cur,q1,q2,q3,q4⟩:=h
 obtain ⟨e0,e1⟩:=q4 i hi
 refine ⟨⟨g,0,rfl,trivial,t,a,l,c,rfl,?_,?_⟩,by rw [List.getElem_replicate];exact hT⟩
 ·rw [Nat.zero_add];simp [World.cell?,q1,e0]
 ·rw [Nat.zero_add];simp [World.cell?,q1,e1]
theorem new_twoI (w:World) (o o':Obj):((w.alloc o).alloc o').heap[w.heap.size + 1]? = some o':=by
 have:=heap_alloc_new (w.alloc o) o'
 rwa [show (w.alloc o).heap.size = w.heap.size + 1 from by simp] at this
theorem items_any {w W:World} {list:List Va} {la:Option Addr} {lc:Nat} {V:Nat -> Value} {T:Ty} {u:Value} (hL:RowVa (fun _=>True) w list la V) (hT:LiesT (fun _=>True) w T u) (hW:w.grownBy W none) :
 Calls Tryz.prog 67 #[.slice la list.length lc,u] W (OfPost w W (if list.length <= 24 then some ((List.replicate list.length T).zip list) else none)):=by
 have hl:=hL.1
 unfold maxLen at hl
 obtain ⟨a,c,V',rfl,it,hR⟩:=hT.inv
 by_cases h24:list.length <= 24
 ·rw [if_pos h24]
  have h24':¬ (24:Int) < (list.length:Int):=by omega
  have HRep:=jh (repeat_any T.t a T.args.length c)
  have HL:=jh hL
  have HT:=jh hT
  have HW:=jh hW
  have HOne:Hid (∀ (W2:World) (g c':Nat),W.grownBy W2 none -> RepAt W2 g list.length list.length (.int .i64 T.t) (.slice a T.args.length c) -> Calls Tryz.prog 66 #[.slice la list.length lc,.slice (some ⟨g,0,none⟩) list.length c'] W2 (OfPost w W2 (some ((List.replicate list.length T).zip list)))):=fun W2 g c' hg hrep=>by
   have h:=oneEach_all (lc:=lc) (tc:=c') HL.out (rep_tys HT.out (by unfold maxLen;omega) hrep) (gTq HW.out hg) (by omega)
   rw [List.length_replicate,if_pos rfl] at h
   exact h
  clear hL hT hW hR it HL HT HW
  unfold tyV
  go_enter Tryz.func67,Tryz.ntmps67
  go_wp2_with fail
  refine (HRep.out _ _ _ (by omega) _ (c0q (new_twoI _ _ _)) (c1q (new_twoI _ _ _))).mono ?_;rintro e w1 ⟨g,c',rfl,hgs,hrep,hg⟩
  have HP:=jh hrep
  have HG:=jh (gTq (gTq (gBq _) (gBq _)) hg)
  clear hg hrep
  go_wp2_with fail
  refine (HOne.out _ _ _ HG.out HP.out).mono ?_;rintro e w2 hpost
  have hp:=OfPost.grown hpost HG.out
  clear hpost
  rcases hp with ⟨⟨hn,rfl⟩ | ⟨l,cv,cs,hn,rfl,ho,hc⟩,hg2⟩
  ·cases hn
  ·have HO:=jh ho
   have HC:=jh hc
   have HN:=jh hn
   have HG2:=jh hg2
   clear ho hc hn hg2
   go_wp2_with fail
   go_ret2
   exact ⟨.inr ⟨l,cv,cs,HN.out,rfl,HO.out,HC.out⟩,HG2.out⟩
 ·rw [if_neg h24]
  have h24':(24:Int) < (list.length:Int):=by omega
  clear hL hT hW hR it
  unfold tyV
  go_enter Tryz.func67,Tryz.ntmps67
  go_wp2_with fail
  go_ret2
  exact ⟨.inl ⟨rfl,rfl⟩,gBq _⟩
structure ArgsOk (T:Ty) (x:Va):Prop where
 len:(T.args.length:Int) = partsF T.t
 side:T.t = 12 -> x.n = 0 \/ x.n = 1
theorem ofArgs_any {w:World} {T:Ty} {x:Va} {u v:Value} (hT:LiesT (fun _=>True) w T u) (hV:LiesV (fun _=>True) w x v) (hok:ArgsOk T x) (hz:x.size <= 20000000) (W:World) (hW:w.grownBy W none) :
 Calls Tryz.prog 45 #[u,v] W (OfPost w W (partsOf T x)):=by
 obtain ⟨a,c,V,rfl,it,hRT⟩:=hT.inv
 obtain ⟨aa,ac,ta,tc,na,nc,VV,VT,VN,rfl,⟨ik,iN,ia,hs,hlc⟩,hRV,hRY,hRN⟩:=hV.inv
 have hll:=vlength_le x.args
 have hsz:=vsize_eq x
 have hla:=hRV.1
 have hlt:=hRT.1
 unfold maxLen at hla hlt
 have HCAP:=jh hT.cap
 have HRV:=jh hRV
 have HRY:=jh hRY
 have HRT:=jh hRT
 have HW:=jh hW
 have HGB:Hid (∀ o1 o2:Obj,W.grownBy ((W.alloc o1).alloc o2) none):=fun o1 o2=>gTq (gBq _) (gBq _)
 have HLEN:=jh hok.len
 have HZ:Hid (x.args.length <= 20000000):=by show _ <= _;omega
 by_cases h8:T.t = 8
 ·have hp:partsOf T x = if x.args.length = x.types.length then some (x.types.zip x.args) else none:=by
   simp only [partsOf,argTys];rw [if_pos h8];split <;> rfl
  have HC:Hid (∀ W2,W.grownBy W2 none -> Calls Tryz.prog 66 #[.slice aa x.args.length ac,.slice ta x.types.length tc] W2 (OfPost w W2 (partsOf T x))):=fun W2 hg=>by
   rw [hp];exact oneEach_all HRV.out (TysAt.of HRY.out (gTq HW.out hg)) (gTq HW.out hg) HZ.out
  generalize partsOf T x = ps at *
  clear hp hT hV hok hz hW it ik iN ia hs hlc hRV hRY hRN hRT hll hsz HRV HRY HRT HW HLEN HZ
  rw [h8]
  clear h8
  unfold tyV vaV
  go_enter Tryz.func45,Tryz.ntmps45
  go_wp2_with fail
  refine (HC.out _ (HGB.out _ _)).mono ?_;rintro e w2 hpost
  have hp:=OfPost.grown hpost (HGB.out _ _)
  clear hpost
  rcases hp with ⟨⟨hn,rfl⟩ | ⟨l,cv,cs,hn,rfl,ho,hc⟩,hg2⟩
  ·have HN:=jh hn
   have HG2:=jh hg2
   clear hn hg2
   go_wp2_with fail
   go_ret2
   exact ⟨.inl ⟨HN.out,rfl⟩,HG2.out⟩
  ·have HO:=jh ho
   have HCC:=jh hc
   have HN:=jh hn
   have HG2:=jh hg2
   clear ho hc hn hg2
   go_wp2_with fail
   go_ret2
   exact ⟨.inr ⟨l,cv,cs,HN.out,rfl,HO.out,HCC.out⟩,HG2.out⟩
 have b8:(T.t == 8) = false:=by simpa using h8
 by_cases h9:T.t = 9 /\ x.args.length = 0
 ·have hp:partsOf T x = some []:=by
   simp only [partsOf,argTys];rw [if_neg h8,if_pos h9];rfl
  obtain ⟨h9,h0⟩:=h9
  rw [hp,h9,h0]
  clear hp hT hV hok hz hW it ik iN ia hs hlc hRV hRY hRN hRT hll hsz HRV HRY HRT HW HLEN HZ h8 b8 h9 h0
  unfold tyV vaV
  go_enter Tryz.func45,Tryz.ntmps45
  go_wp2_with fail
  go_ret2
  exact ⟨.inr ⟨[],.slice none 0 0,[],rfl,rfl,World.ownsRow_nil _ _ _ _,trivial⟩,HGB.out _ _⟩
 by_cases h10:T.t = 10
 ·have hp:partsOf T x = if x.args.length <= 24 then some ((List.replicate x.args.length (tAq T.args 0)).zip x.args) else none:=by
   simp only [partsOf,argTys];rw [if_neg h8,if_neg h9,if_pos h10];split <;> rfl
  have hl1:T.args.length = 1:=by have:=HLEN.out;rw [h10] at this;simp [partsF] at this;omega
  obtain ⟨y,hy⟩:=List.length_eq_one_iff.1 hl1
  have hyt:tAq T.args 0 = y:=by simp [tAq,hy]
  obtain ⟨b0,o0,t0,a0,l0,c0,rfl,_,hv0,t1,t2⟩:=((HRT.out.2.1 0 (by omega)).same (sAl HW.out)).cells
  have hLy:=HRT.out.2.2 0 (by omega)
  rw [hv0] at hLy
  simp only [hy,List.getElem_cons_zero] at hLy
  rw [Nat.zero_mul,Nat.add_zero] at t1 t2
  have q0:b0 < W.heap.size:=World.block_lt_of_cell? W _ t1
  have HC:Hid (∀ W2,W.grownBy W2 none -> Calls Tryz.prog 67 #[.slice aa x.args.length ac,tyV t0 a0 l0 c0] W2 (OfPost w W2 (partsOf T x))):=fun W2 hg=>by
   rw [hp,hyt];exact items_any HRV.out hLy (gTq HW.out hg)
  generalize partsOf T x = ps at *
  clear hp hT hV hok hz hW it ik iN ia hs hlc hRV hRY hRN hRT hll hsz HRV HRY HRT HW HLEN HZ hyt hy hv0 hLy b8
  rw [h10,hl1]
  clear h10 h8 h9 hl1 hlt
  have HC2:Hid (∀ w5:World,W.grownBy w5 none -> ∀ W2,w5.grownBy W2 none -> Calls Tryz.prog 67 #[.slice aa x.args.length ac,.agg #[.int .i64 t0,.slice a0 l0 c0]] W2 (OfPost w w5 ps)):=fun w5 h5 W2 h2=>(HC.out W2 (gTq h5 h2)).mono fun e w' h=>h.grown h2
  clear HC
  unfold tyV vaV
  go_enter Tryz.func45,Tryz.ntmps45
  go_wp2_with fail
  have hb0:=rNw W (.cells #[.int .i64 10,.slice (some ⟨b0,o0,none⟩) 1 c] 24) (.cells #[.int .i64 x.k,.int .i64 x.n,.int .i64 x.a,.string x.s,.slice aa x.args.length ac,.slice ta x.types.length tc,.slice na x.code.length nc] 28)
  have hb1:=new_twoI W (.cells #[.int .i64 10,.slice (some ⟨b0,o0,none⟩) 1 c] 24) (.cells #[.int .i64 x.k,.int .i64 x.n,.int .i64 x.a,.string x.s,.slice aa x.args.length ac,.slice ta x.types.length tc,.slice na x.code.length nc] 28)
  have HG5:=jh (gTq (gBq (w:=W) (.cells #[.int .i64 10,.slice (some ⟨b0,o0,none⟩) 1 c] 24)) (gBq (.cells #[.int .i64 x.k,.int .i64 x.n,.int .i64 x.a,.string x.s,.slice aa x.args.length ac,.slice ta x.types.length tc,.slice na x.code.length nc] 28)))
  have hu1:=(World.cell?_of_block (HG5.out.block b0 q0 (by simp))).trans t1
  have hu2:=(World.cell?_of_block (HG5.out.block b0 q0 (by simp))).trans t2
  have hq5:b0 < ((W.alloc (.cells #[.int .i64 10,.slice (some ⟨b0,o0,none⟩) 1 c] 24)).alloc (.cells #[.int .i64 x.k,.int .i64 x.n,.int .i64 x.a,.string x.s,.slice aa x.args.length ac,.slice ta x.types.length tc,.slice na x.code.length nc] 28)).heap.size:=by simp;omega
  generalize (W.alloc (.cells #[.int .i64 10,.slice (some ⟨b0,o0,none⟩) 1 c] 24)).alloc (.cells #[.int .i64 x.k,.int .i64 x.n,.int .i64 x.a,.string x.s,.slice aa x.args.length ac,.slice ta x.types.length tc,.slice na x.code.length nc] 28) = w5 at *
  have k0:∀ W3:World,w5.grownBy W3 none -> W3.heap[W.heap.size]? = _:=fun W3 h=>(h.block _ (Array.getElem?_eq_some_iff.1 hb0).1 (by simp)).trans hb0
  have k1:∀ W3:World,w5.grownBy W3 none -> W3.heap[W.heap.size + 1]? = _:=fun W3 h=>(h.block _ (Array.getElem?_eq_some_iff.1 hb1).1 (by simp)).trans hb1
  have f1:∀ W3:World,w5.grownBy W3 none -> W3.cell? ⟨W.heap.size,1,none⟩ = some (.slice (some ⟨b0,o0,none⟩) 1 c):=fun W3 h=>c1q (k0 W3 h)
  have f2:∀ W3:World,w5.grownBy W3 none -> W3.cell? ⟨W.heap.size + 1,4,none⟩ = some (.slice aa x.args.length ac):=fun W3 h=>(box7 (k1 W3 h)).2.2.2.2.1
  have f3:∀ W3:World,w5.grownBy W3 none -> W3.cell? ⟨W.heap.size + 1,1,none⟩ = some (.int .i64 x.n):=fun W3 h=>(box7 (k1 W3 h)).2.1
  have f4:∀ W3:World,w5.grownBy W3 none -> W3.cell? ⟨b0,o0,none⟩ = some (.int .i64 t0):=fun W3 h=>(World.cell?_of_block (h.block b0 hq5 (by simp))).trans hu1
  have f5:∀ W3:World,w5.grownBy W3 none -> W3.cell? ⟨b0,o0 + 1,none⟩ = some (.slice a0 l0 c0):=fun W3 h=>(World.cell?_of_block (h.block b0 hq5 (by simp))).trans hu2
  clear k0 k1 hb0 hb1 hu1 hu2 hq5 q0 t1 t2
  go_region_held3 (fun w'=>w5.grownBy w' none) (first | assumption | exact gDr (gRf _ _) | exact gDr (gBq _) | exact gTq (by assumption) (gBq _)) (first
   | (go_at_call 67;refine (HC2.out w5 HG5.out _ (by assumption)).mono ?_;rintro e w2 hpost;obtain ⟨cv,bb,rfl⟩:=hpost.form;have hS:=gTq (gRf w5 none) hpost.2;have HPO:=jh hpost;clear hpost))
  all_goals
   clear hS
   go_wp2_with fail
   go_ret2
   exact HPO.out.grown HG5.out
 have b10:(T.t == 10) = false:=by simpa using h10
 by_cases h13:T.t = 13
 ·have hp:partsOf T x = if x.args.length <= 24 then some ((List.replicate x.args.length (.nd 11 T.args)).zip x.args) else none:=by
   simp only [partsOf,argTys];rw [if_neg h8,if_neg h9,if_neg h10,if_pos h13];split <;> rfl
  have HC:Hid (∀ W2,W.grownBy W2 none -> Calls Tryz.prog 67 #[.slice aa x.args.length ac,tyV 11 a T.args.length c] W2 (OfPost w W2 (partsOf T x))):=fun W2 hg=>by
   rw [hp];exact items_any HRV.out (LiesT.of ⟨by decide,by decide⟩ HRT.out HCAP.out) (gTq HW.out hg)
  generalize partsOf T x = ps at *
  clear hp hT hV hok hz hW it ik iN ia hs hlc hRV hRY hRN hRT hll hsz HRV HRY HRT HW HLEN HZ b8 b10
  rw [h13]
  clear h13 h8 h9 h10
  unfold tyV at HC
  unfold tyV vaV
  go_enter Tryz.func45,Tryz.ntmps45
  go_wp2_with fail
  refine (HC.out _ (HGB.out _ _)).mono ?_;rintro e w2 hpost
  have hp:=OfPost.grown hpost (HGB.out _ _)
  clear hpost
  rcases hp with ⟨⟨hn,rfl⟩ | ⟨l,cv,cs,hn,rfl,ho,hc⟩,hg2⟩
  ·have HN:=jh hn
   have HG2:=jh hg2
   clear hn hg2
   go_wp2_with fail
   go_ret2
   exact ⟨.inl ⟨HN.out,rfl⟩,HG2.out⟩
  ·have HO:=jh ho
   have HCC:=jh hc
   have HN:=jh hn
   have HG2:=jh hg2
   clear ho hc hn hg2
   go_wp2_with fail
   go_ret2
   exact ⟨.inr ⟨l,cv,cs,HN.out,rfl,HO.out,HCC.out⟩,HG2.out⟩
 have b13:(T.t == 13) = false:=by simpa using h13
 by_cases h12:T.t = 12
 ·have hl2:T.args.length = 2:=by have:=HLEN.out;rw [h12] at this;simp [partsF] at this;omega
  rcases hok.side h12 with hn | hn
  ·have hp:partsOf T x = if x.args.length = ([T.args[0]'(by omega)]:List Ty).length then some (([T.args[0]'(by omega)]:List Ty).zip x.args) else none:=by
    simp only [partsOf,argTys];rw [if_neg h8,if_neg h9,if_neg h10,if_neg h13,if_pos h12,hn]
    have e1:tAq T.args ((0:Int).toNat) = T.args[0]'(by omega):=by
     show tAq T.args 0 = _
     unfold tAq;rw [List.getElem?_eq_getElem (by omega)];rfl
    rw [e1]
    by_cases h0:x.args.length = 1
    ·rw [if_pos h0,if_pos (by simpa using h0)];rfl
    ·rw [if_neg h0,if_neg (by simpa using h0)];rfl
   obtain ⟨b0,o0,t0,a0,l0,c0,rfl,_,hv0,t1,t2⟩:=((HRT.out.2.1 0 (by omega)).same (sAl HW.out)).cells
   have hLy:=HRT.out.2.2 0 (by omega)
   rw [hv0] at hLy
   rw [Nat.zero_mul,Nat.add_zero] at t1 t2
   have q0:b0 < W.heap.size:=World.block_lt_of_cell? W _ t1
   have HC2:Hid (∀ w5:World,W.grownBy w5 none -> ∀ H,w5.heap.size = H -> Calls Tryz.prog 66 #[.slice aa x.args.length ac,.slice (some ⟨H,0,none⟩) 1 1] (w5.alloc (.cells #[.int .i64 t0,.slice a0 l0 c0] 24)).drew (OfPost w w5 (partsOf T x))):=fun w5 h5 H hH=>by
    subst hH
    have hb:(w5.alloc (.cells #[.int .i64 t0,.slice a0 l0 c0] 24)).drew.heap[w5.heap.size]? = some (.cells #[.int .i64 t0,.slice a0 l0 c0] 24):=heap_alloc_new w5 _
    have hg:w5.grownBy (w5.alloc (.cells #[.int .i64 t0,.slice a0 l0 c0] 24)).drew none:=gDr (gBq _)
    rw [hp]
    refine (oneEach_all (ts:=[T.args[0]'(by omega)]) (U:=fun _=>tyV t0 a0 l0 c0) HRV.out ⟨by simp [maxLen],fun i hi=>?_⟩ (gTq HW.out (gTq h5 hg)) HZ.out).mono fun e w' h=>h.grown hg
    have : i = 0:=by simpa using hi
    subst this
    exact ⟨⟨w5.heap.size,0,rfl,trivial,t0,a0,l0,c0,rfl,c0q hb,c1q hb⟩,hLy⟩
   generalize partsOf T x = ps at *
   clear hp hT hV hok hz hW it ik iN ia hs hlc hRV hRY hRN hRT hll hsz HRV HRY HRT HW HLEN HZ hv0 hLy b8 b10 b13
   rw [h12,hl2,hn]
   clear h12 h8 h9 h10 h13 hl2 hlt hn
   unfold tyV vaV
   go_enter Tryz.func45,Tryz.ntmps45
   go_wp2_with fail
   have hb0:=rNw W (.cells #[.int .i64 12,.slice (some ⟨b0,o0,none⟩) 2 c] 24) (.cells #[.int .i64 x.k,.int .i64 0,.int .i64 x.a,.string x.s,.slice aa x.args.length ac,.slice ta x.types.length tc,.slice na x.code.length nc] 28)
   have hb1:=new_twoI W (.cells #[.int .i64 12,.slice (some ⟨b0,o0,none⟩) 2 c] 24) (.cells #[.int .i64 x.k,.int .i64 0,.int .i64 x.a,.string x.s,.slice aa x.args.length ac,.slice ta x.types.length tc,.slice na x.code.length nc] 28)
   have HG5:=jh (gTq (gBq (w:=W) (.cells #[.int .i64 12,.slice (some ⟨b0,o0,none⟩) 2 c] 24)) (gBq (.cells #[.int .i64 x.k,.int .i64 0,.int .i64 x.a,.string x.s,.slice aa x.args.length ac,.slice ta x.types.length tc,.slice na x.code.length nc] 28)))
   have hu1:=(World.cell?_of_block (HG5.out.block b0 q0 (by simp))).trans t1
   have hu2:=(World.cell?_of_block (HG5.out.block b0 q0 (by simp))).trans t2
   have hq5:b0 < ((W.alloc (.cells #[.int .i64 12,.slice (some ⟨b0,o0,none⟩) 2 c] 24)).alloc (.cells #[.int .i64 x.k,.int .i64 0,.int .i64 x.a,.string x.s,.slice aa x.args.length ac,.slice ta x.types.length tc,.slice na x.code.length nc] 28)).heap.size:=by simp;omega
   generalize (W.alloc (.cells #[.int .i64 12,.slice (some ⟨b0,o0,none⟩) 2 c] 24)).alloc (.cells #[.int .i64 x.k,.int .i64 0,.int .i64 x.a,.string x.s,.slice aa x.args.length ac,.slice ta x.types.length tc,.slice na x.code.length nc] 28) = w5 at *
   have k0:∀ W3:World,w5.grownBy W3 none -> W3.heap[W.heap.size]? = _:=fun W3 h=>(h.block _ (Array.getElem?_eq_some_iff.1 hb0).1 (by simp)).trans hb0
   have k1:∀ W3:World,w5.grownBy W3 none -> W3.heap[W.heap.size + 1]? = _:=fun W3 h=>(h.block _ (Array.getElem?_eq_some_iff.1 hb1).1 (by simp)).trans hb1
   have f1:∀ W3:World,w5.grownBy W3 none -> W3.cell? ⟨W.heap.size,1,none⟩ = some (.slice (some ⟨b0,o0,none⟩) 2 c):=fun W3 h=>c1q (k0 W3 h)
   have f2:∀ W3:World,w5.grownBy W3 none -> W3.cell? ⟨W.heap.size + 1,4,none⟩ = some (.slice aa x.args.length ac):=fun W3 h=>(box7 (k1 W3 h)).2.2.2.2.1
   have f3:∀ W3:World,w5.grownBy W3 none -> W3.cell? ⟨W.heap.size + 1,1,none⟩ = some (.int .i64 0):=fun W3 h=>(box7 (k1 W3 h)).2.1
   have f4:∀ W3:World,w5.grownBy W3 none -> W3.cell? ⟨b0,o0,none⟩ = some (.int .i64 t0):=fun W3 h=>(World.cell?_of_block (h.block b0 hq5 (by simp))).trans hu1
   have f5:∀ W3:World,w5.grownBy W3 none -> W3.cell? ⟨b0,o0 + 1,none⟩ = some (.slice a0 l0 c0):=fun W3 h=>(World.cell?_of_block (h.block b0 hq5 (by simp))).trans hu2
   clear k0 k1 hb0 hb1 hu1 hu2 hq5 q0 t1 t2
   go_region_held3 (fun w'=>w5.grownBy w' none) (first | assumption | exact gDr (gRf _ _) | exact gDr (gBq _) | exact gTq (by assumption) (gBq _)) (first
    | (go_at_call 66;refine (HC2.out w5 HG5.out _ rfl).mono ?_;rintro e w2 hpost;obtain ⟨cv,bb,rfl⟩:=hpost.form;have hS:=gTq (gRf w5 none) hpost.2;have HPO:=jh hpost;clear hpost))
   all_goals
    clear hS
    go_wp2_with fail
    go_ret2
    exact HPO.out.grown HG5.out
  ·have hp:partsOf T x = if x.args.length = ([T.args[1]'(by omega)]:List Ty).length then some (([T.args[1]'(by omega)]:List Ty).zip x.args) else none:=by
    simp only [partsOf,argTys];rw [if_neg h8,if_neg h9,if_neg h10,if_neg h13,if_pos h12,hn]
    have e1:tAq T.args ((1:Int).toNat) = T.args[1]'(by omega):=by
     show tAq T.args 1 = _
     unfold tAq;rw [List.getElem?_eq_getElem (by omega)];rfl
    rw [e1]
    by_cases h0:x.args.length = 1
    ·rw [if_pos h0,if_pos (by simpa using h0)];rfl
    ·rw [if_neg h0,if_neg (by simpa using h0)];rfl
   obtain ⟨b0,o0,t0,a0,l0,c0,rfl,_,hv0,t1,t2⟩:=((HRT.out.2.1 1 (by omega)).same (sAl HW.out)).cells
   have hLy:=HRT.out.2.2 1 (by omega)
   rw [hv0] at hLy
   have q0:b0 < W.heap.size:=World.block_lt_of_cell? W _ t1
   have HC2:Hid (∀ w5:World,W.grownBy w5 none -> ∀ H,w5.heap.size = H -> Calls Tryz.prog 66 #[.slice aa x.args.length ac,.slice (some ⟨H,0,none⟩) 1 1] (w5.alloc (.cells #[.int .i64 t0,.slice a0 l0 c0] 24)).drew (OfPost w w5 (partsOf T x))):=fun w5 h5 H hH=>by
    subst hH
    have hb:(w5.alloc (.cells #[.int .i64 t0,.slice a0 l0 c0] 24)).drew.heap[w5.heap.size]? = some (.cells #[.int .i64 t0,.slice a0 l0 c0] 24):=heap_alloc_new w5 _
    have hg:w5.grownBy (w5.alloc (.cells #[.int .i64 t0,.slice a0 l0 c0] 24)).drew none:=gDr (gBq _)
    rw [hp]
    refine (oneEach_all (ts:=[T.args[1]'(by omega)]) (U:=fun _=>tyV t0 a0 l0 c0) HRV.out ⟨by simp [maxLen],fun i hi=>?_⟩ (gTq HW.out (gTq h5 hg)) HZ.out).mono fun e w' h=>h.grown hg
    have : i = 0:=by simpa using hi
    subst this
    exact ⟨⟨w5.heap.size,0,rfl,trivial,t0,a0,l0,c0,rfl,c0q hb,c1q hb⟩,hLy⟩
   generalize partsOf T x = ps at *
   clear hp hT hV hok hz hW it ik iN ia hs hlc hRV hRY hRN hRT hll hsz HRV HRY HRT HW HLEN HZ hv0 hLy b8 b10 b13
   rw [h12,hl2,hn]
   clear h12 h8 h9 h10 h13 hl2 hlt hn
   unfold tyV vaV
   go_enter Tryz.func45,Tryz.ntmps45
   go_wp2_with fail
   have hb0:=rNw W (.cells #[.int .i64 12,.slice (some ⟨b0,o0,none⟩) 2 c] 24) (.cells #[.int .i64 x.k,.int .i64 1,.int .i64 x.a,.string x.s,.slice aa x.args.length ac,.slice ta x.types.length tc,.slice na x.code.length nc] 28)
   have hb1:=new_twoI W (.cells #[.int .i64 12,.slice (some ⟨b0,o0,none⟩) 2 c] 24) (.cells #[.int .i64 x.k,.int .i64 1,.int .i64 x.a,.string x.s,.slice aa x.args.length ac,.slice ta x.types.length tc,.slice na x.code.length nc] 28)
   have HG5:=jh (gTq (gBq (w:=W) (.cells #[.int .i64 12,.slice (some ⟨b0,o0,none⟩) 2 c] 24)) (gBq (.cells #[.int .i64 x.k,.int .i64 1,.int .i64 x.a,.string x.s,.slice aa x.args.length ac,.slice ta x.types.length tc,.slice na x.code.length nc] 28)))
   have hu1:=(World.cell?_of_block (HG5.out.block b0 q0 (by simp))).trans t1
   have hu2:=(World.cell?_of_block (HG5.out.block b0 q0 (by simp))).trans t2
   have hq5:b0 < ((W.alloc (.cells #[.int .i64 12,.slice (some ⟨b0,o0,none⟩) 2 c] 24)).alloc (.cells #[.int .i64 x.k,.int .i64 1,.int .i64 x.a,.string x.s,.slice aa x.args.length ac,.slice ta x.types.length tc,.slice na x.code.length nc] 28)).heap.size:=by simp;omega
   generalize (W.alloc (.cells #[.int .i64 12,.slice (some ⟨b0,o0,none⟩) 2 c] 24)).alloc (.cells #[.int .i64 x.k,.int .i64 1,.int .i64 x.a,.string x.s,.slice aa x.args.length ac,.slice ta x.types.length tc,.slice na x.code.length nc] 28) = w5 at *
   have k0:∀ W3:World,w5.grownBy W3 none -> W3.heap[W.heap.size]? = _:=fun W3 h=>(h.block _ (Array.getElem?_eq_some_iff.1 hb0).1 (by simp)).trans hb0
   have k1:∀ W3:World,w5.grownBy W3 none -> W3.heap[W.heap.size + 1]? = _:=fun W3 h=>(h.block _ (Array.getElem?_eq_some_iff.1 hb1).1 (by simp)).trans hb1
   have f1:∀ W3:World,w5.grownBy W3 none -> W3.cell? ⟨W.heap.size,1,none⟩ = some (.slice (some ⟨b0,o0,none⟩) 2 c):=fun W3 h=>c1q (k0 W3 h)
   have f2:∀ W3:World,w5.grownBy W3 none -> W3.cell? ⟨W.heap.size + 1,4,none⟩ = some (.slice aa x.args.length ac):=fun W3 h=>(box7 (k1 W3 h)).2.2.2.2.1
   have f3:∀ W3:World,w5.grownBy W3 none -> W3.cell? ⟨W.heap.size + 1,1,none⟩ = some (.int .i64 1):=fun W3 h=>(box7 (k1 W3 h)).2.1
   have f4:∀ W3:World,w5.grownBy W3 none -> W3.cell? ⟨b0,o0 + 1 * 2,none⟩ = some (.int .i64 t0):=fun W3 h=>(World.cell?_of_block (h.block b0 hq5 (by simp))).trans hu1
   have f5:∀ W3:World,w5.grownBy W3 none -> W3.cell? ⟨b0,o0 + 1 * 2 + 1,none⟩ = some (.slice a0 l0 c0):=fun W3 h=>(World.cell?_of_block (h.block b0 hq5 (by simp))).trans hu2
   clear k0 k1 hb0 hb1 hu1 hu2 hq5 q0 t1 t2
   go_region_held3 (fun w'=>w5.grownBy w' none) (first | assumption | exact gDr (gRf _ _) | exact gDr (gBq _) | exact gTq (by assumption) (gBq _)) (first
    | (go_at_call 66;refine (HC2.out w5 HG5.out _ rfl).mono ?_;rintro e w2 hpost;obtain ⟨cv,bb,rfl⟩:=hpost.form;have hS:=gTq (gRf w5 none) hpost.2;have HPO:=jh hpost;clear hpost))
   all_goals
    clear hS
    go_wp2_with fail
    go_ret2
    exact HPO.out.grown HG5.out
 have b12:(T.t == 12) = false:=by simpa using h12
 by_cases h14:T.t = 14
 ·have hp:partsOf T x = if x.args.length = ([]:List Ty).length then some (([]:List Ty).zip x.args) else none:=by
   simp only [partsOf,argTys];rw [if_neg h8,if_neg h9,if_neg h10,if_neg h13,if_neg h12,if_pos h14]
   by_cases h0:x.args.length = 0
   ·rw [if_pos h0,if_pos (by simpa using h0)];rfl
   ·rw [if_neg h0,if_neg (by simpa using h0)];rfl
  have HC:Hid (∀ W2,W.grownBy W2 none -> Calls Tryz.prog 66 #[.slice aa x.args.length ac,.slice none 0 0] W2 (OfPost w W2 (partsOf T x))):=fun W2 hg=>by
   rw [hp];exact oneEach_all (ts:=[]) (U:=fun _=>.int .i64 0) HRV.out ⟨by simp [maxLen],fun i hi=>by simp at hi⟩ (gTq HW.out hg) HZ.out
  generalize partsOf T x = ps at *
  clear hp hT hV hok hz hW it ik iN ia hs hlc hRV hRY hRN hRT hll hsz HRV HRY HRT HW HLEN HZ b8 b10 b13 b12
  rw [h14]
  clear h14 h8 h9 h10 h13 h12
  unfold tyV vaV
  go_enter Tryz.func45,Tryz.ntmps45
  go_wp2_with fail
  refine (HC.out _ (HGB.out _ _)).mono ?_;rintro e w2 hpost
  have hp:=OfPost.grown hpost (HGB.out _ _)
  clear hpost
  rcases hp with ⟨⟨hn,rfl⟩ | ⟨l,cv,cs,hn,rfl,ho,hc⟩,hg2⟩
  ·have HN:=jh hn
   have HG2:=jh hg2
   clear hn hg2
   go_wp2_with fail
   go_ret2
   exact ⟨.inl ⟨HN.out,rfl⟩,HG2.out⟩
  ·have HO:=jh ho
   have HCC:=jh hc
   have HN:=jh hn
   have HG2:=jh hg2
   clear ho hc hn hg2
   go_wp2_with fail
   go_ret2
   exact ⟨.inr ⟨l,cv,cs,HN.out,rfl,HO.out,HCC.out⟩,HG2.out⟩
 have b14:(T.t == 14) = false:=by simpa using h14
 have hp:partsOf T x = if x.args.length = T.args.length then some (T.args.zip x.args) else none:=by
  simp only [partsOf,argTys];rw [if_neg h8,if_neg h9,if_neg h10,if_neg h13,if_neg h12,if_neg h14];split <;> rfl
 have HC:Hid (∀ W2,W.grownBy W2 none -> Calls Tryz.prog 66 #[.slice aa x.args.length ac,.slice a T.args.length c] W2 (OfPost w W2 (partsOf T x))):=fun W2 hg=>by
  rw [hp];exact oneEach_all HRV.out (TysAt.of HRT.out (gTq HW.out hg)) (gTq HW.out hg) HZ.out
 generalize partsOf T x = ps at *
 clear hp hT hV hok hz hW it ik iN ia hs hlc hRV hRY hRN hRT hll hsz HRV HRY HRT HW HLEN HZ
 by_cases h99:T.t = 9
 ·have h0:¬ x.args.length = 0:=fun e=>h9 ⟨h99,e⟩
  have z1:¬ (x.args.length:Int) = 0:=by omega
  have z2:((x.args.length:Int) == 0) = false:=by rw [beq_eq_false_iff_ne];exact z1
  clear h9 b8 b10 b13 b12 b14 h8 h10 h13 h12 h14 h0
  rw [h99]
  clear h99
  unfold tyV vaV
  go_enter Tryz.func45,Tryz.ntmps45
  go_wp2_with fail
  refine (HC.out _ (HGB.out _ _)).mono ?_;rintro e w2 hpost
  have hp:=OfPost.grown hpost (HGB.out _ _)
  clear hpost
  rcases hp with ⟨⟨hn,rfl⟩ | ⟨l,cv,cs,hn,rfl,ho,hc⟩,hg2⟩
  ·have HN:=jh hn
   have HG2:=jh hg2
   clear hn hg2
   go_wp2_with fail
   go_ret2
   exact ⟨.inl ⟨HN.out,rfl⟩,HG2.out⟩
  ·have HO:=jh ho
   have HCC:=jh hc
   have HN:=jh hn
   have HG2:=jh hg2
   clear ho hc hn hg2
   go_wp2_with fail
   go_ret2
   exact ⟨.inr ⟨l,cv,cs,HN.out,rfl,HO.out,HCC.out⟩,HG2.out⟩
 ·have b9:(T.t == 9) = false:=by simpa using h99
  clear h9
  unfold tyV vaV
  go_enter Tryz.func45,Tryz.ntmps45
  go_wp2_with fail
  refine (HC.out _ (HGB.out _ _)).mono ?_;rintro e w2 hpost
  have hp:=OfPost.grown hpost (HGB.out _ _)
  clear hpost
  rcases hp with ⟨⟨hn,rfl⟩ | ⟨l,cv,cs,hn,rfl,ho,hc⟩,hg2⟩
  ·have HN:=jh hn
   have HG2:=jh hg2
   clear hn hg2
   go_wp2_with fail
   go_ret2
   exact ⟨.inl ⟨HN.out,rfl⟩,HG2.out⟩
  ·have HO:=jh ho
   have HCC:=jh hc
   have HN:=jh hn
   have HG2:=jh hg2
   clear ho hc hn hg2
   go_wp2_with fail
   go_ret2
   exact ⟨.inr ⟨l,cv,cs,HN.out,rfl,HO.out,HCC.out⟩,HG2.out⟩
theorem info_va:(Tryz.prog.info? 28).map (fun i=>(i.zero,i.size,i.bytes)) = some (some (.agg #[.int .i64 0,.int .i64 0,.int .i64 0,.string ⟨#[]⟩,.slice none 0 0,.slice none 0 0,.slice none 0 0]),7,112):=by kernel_rfl
def OwnsVa (B:Nat) (w:World) (v:Value) (vs:List Value):Prop:=w.ownsRow B 28 7 v vs.length (flat vs)
theorem appVa {ops:Array Oper} {rest:List Oper} {o:Oper} {a:Act} {Q:Exit -> Act -> World -> Prop} (B:Nat) (vs:List Value) (k n p:Int) (st:ByteArray) (sa:Option Addr) (sl sc:Nat) (ta:Option Addr) (tl tc:Nat) (na:Option Addr) (nl nc:Nat) (w0:World) (v:Value) (hgd:o.guard = none) (s x:Operand)
 (ho:o.op = .call { callee:=.builtin .append,args:=#[s,x],argTypes:=#[26,26] }) (hs:a.eval s = v) {H:Nat} (hx:a.eval x = .slice (some ⟨H,0,none⟩) 1 1) (hH:w0.heap.size = H)
 (hown:OwnsVa B w0 v vs) (hB:B <= w0.heap.size) (hlen:vs.length <= 100000000000)
 (h:∀ g cap w',OwnsVa B w' (.slice (some ⟨g,0,none⟩) (vs.length + 1) cap) (vs ++ [vaV k n p st sa sl sc ta tl tc na nl nc]) -> Gr w0 v w' (.slice (some ⟨g,0,none⟩) (vs.length + 1) cap) -> wpList Tryz.prog ops Q rest (a.put o.dst (.slice (some ⟨g,0,none⟩) (vs.length + 1) cap)) w') :
 wpList Tryz.prog ops Q (o :: rest) a (w0.alloc (.cells #[.int .i64 k,.int .i64 n,.int .i64 p,.string st,.slice sa sl sc,.slice ta tl tc,.slice na nl nc] 28)):=by
 obtain ⟨i0,hi,hz0,hz1,hz2⟩:=info_parts info_va
 subst hH
 refine wpList_append_lies _ hgd s x 26 ho B 28 i0 _ 7 112 Tryz.underlying26 hi hz0 hz1 hz2 rfl (by decide) v vs.length (flat vs) hs (World.ownsRow.alloc hown _) ⟨w0.heap.size,0,none⟩ 1 1 [.int .i64 k,.int .i64 n,.int .i64 p,.string st,.slice sa sl sc,.slice ta tl tc,.slice na nl nc] hx rfl ?_ ?_ (by decide) ?_ ?_ ?_ _ rfl ?_
 ·exact World.news_of_block (w:=w0.alloc _) (B:=w0.heap.size) (cs:=#[.int .i64 k,.int .i64 n,.int .i64 p,.string st,.slice sa sl sc,.slice ta tl tc,.slice na nl nc]) (heap_alloc_new _ _)
 ·intro u hu;simp at hu;rcases hu with rfl | rfl | rfl | rfl | rfl | rfl | rfl <;> rfl
 ·unfold maxLen;omega
 ·omega
 ·simp;omega
 ·intro g cap w' h1 h2 h3 _
  refine h g cap w' ?_ ?_
  ·unfold OwnsVa;rw [flat_append,List.length_append];exact h1
  ·refine Gr.trans (Gr.alloc (Gr.refl w0 v) _) ⟨h2,?_⟩
   rcases h3 with h3 | h3
   ·exact .inl h3.symm
   ·exact .inr ⟨g,rfl,by omega⟩
structure ListOkV (H:Nat) (w:World) (v:Value) (ts:List Va) (vs:List Value):Prop where
 own:OwnsVa H w v vs
 len:vs.length = ts.length
 lies:∀ (i:Nat) (t:Va) (u:Value),ts[i]? = some t -> vs[i]? = some u -> LiesV (fun b=>H <= b /\ some b ≠ v.ownBlock) w t u
theorem ListOkV.nil (H:Nat) (w:World):ListOkV H w (.slice none 0 0) [] []:=⟨World.ownsRow_nil _ _ _ _,rfl,fun i t u h=>by simp at h⟩
theorem ListOkV.keep {H:Nat} {w w':World} {v:Value} {ts:List Va} {vs:List Value} {rb:Nat} (h:ListOkV H w v ts vs) (hg:w.grownBy w' (some rb)) (hrb:rb < H):ListOkV H w' v ts vs:=by
 refine ⟨World.ownsRow.kept h.own hg ?_,h.len,fun i t u ht hu=>(h.lies i t u ht hu).same ?_⟩
 ·cases hv:v.ownBlock with
  | none=>exact .inl rfl
  | some k=>right;have:=(World.ownsRow.lt h.own k hv).1;simp;omega
 ·intro b o hb hlt
  exact World.cell?_of_block (hg.block b hlt (by simp;have:=hb.1;omega))
theorem ListOkV.push {H:Nat} {w w':World} {v v' u:Value} {ts:List Va} {vs:List Value} {t:Va} {S:Nat} (h:ListOkV H w v ts vs) (hS:H <= S) (hvS:∀ k,v.ownBlock = some k -> k < S) (hL:LiesV (S <= ·) w t u) (hg:Gr w v w' v') (ho:OwnsVa H w' v' (vs ++ [u])):ListOkV H w' v' (ts ++ [t]) (vs ++ [u]):=by
 have key:∀ t u,LiesV (fun b=>H <= b /\ some b ≠ v.ownBlock) w t u -> LiesV (fun b=>H <= b /\ some b ≠ v'.ownBlock) w' t u:=by
  intro t u hl
  have h1:=hl.okMono (ok':=fun b=>H <= b /\ some b ≠ v.ownBlock /\ some b ≠ v'.ownBlock) (fun b hb hk=>⟨hk.1,hk.2,by
   rcases hg.2 with e | ⟨g,e,hge⟩
   ·rw [e];exact hk.2
   ·rw [e];simp;omega⟩)
  refine (h1.same (w':=w') ?_).okMono (fun b _ hb=>⟨hb.1,hb.2.2⟩)
  intro b o hb hlt
  exact World.cell?_of_block (hg.block hlt hb.2.1)
 refine ⟨ho,by simp [h.len],fun i t' u' ht hu=>key t' u' ?_⟩
 by_cases hi:i < ts.length
 ·rw [List.getElem?_append_left hi] at ht
  rw [List.getElem?_append_left (by rw [h.len];exact hi)] at hu
  exact h.lies i t' u' ht hu
 ·have hi':i = ts.length:=by
   have:=(List.getElem?_eq_some_iff.1 ht).1
   simp at this;omega
  subst hi'
  rw [List.getElem?_append_right (Nat.le_refl _)] at ht
  rw [← h.len,List.getElem?_append_right (Nat.le_refl _)] at hu
  simp at ht hu
  subst ht;subst hu
  exact hL.okMono (fun b _ hb=>⟨by have : S <= b:=hb;omega,fun e=>by have h2:=hvS b e.symm;have : S <= b:=hb;omega⟩)
theorem flatV_get:∀ (vs:List Value),(∀ u ∈ vs,(nodeCells u).length = 7) -> ∀ (i j:Nat) (u:Value),vs[i]? = some u -> j < 7 -> (flat vs)[i * 7 + j]? = (nodeCells u)[j]?
 | [],_,i,j,u,h,_=>by simp at h
 | x :: vs,hx,0,j,u,h,hj=>by
  simp at h;subst h
  have:=hx x (by simp)
  simp only [flat,List.flatMap_cons]
  rw [List.getElem?_append_left (by omega)];simp
 | x :: vs,hx,i + 1,j,u,h,hj=>by
  have h5:=hx x (by simp)
  have:=flatV_get vs (fun u hu=>hx u (by simp [hu])) i j u (by simpa using h) hj
  simp only [flat,List.flatMap_cons] at this ⊢
  rw [List.getElem?_append_right (by omega),h5,show (i + 1) * 7 + j - 7 = i * 7 + j from by omega]
  exact this
theorem ListOkV.done {H:Nat} {w:World} {v:Value} {ts:List Va} {vs:List Value} (h:ListOkV H w v ts vs) (hm:ts.length <= maxLen) :
 ∃ (a:Option Addr) (c:Nat) (V:Nat -> Value),v = .slice a ts.length c /\ ts.length <= c /\ RowVa (H <= ·) w ts a V:=by
 have hl:=h.len
 have each:∀ i (hi:i < ts.length),∃ u,vs[i]? = some u /\ LiesV (H <= ·) w ts[i] u:=by
  intro i hi
  have hv:i < vs.length:=by omega
  exact ⟨vs[i],List.getElem?_eq_getElem hv,(h.lies i ts[i] vs[i] (List.getElem?_eq_getElem hi) (List.getElem?_eq_getElem hv)).okMono (fun b _ hb=>hb.1)⟩
 have h5:∀ u ∈ vs,(nodeCells u).length = 7:=by
  intro u hu
  obtain ⟨i,hi,rfl⟩:=List.getElem_of_mem hu
  obtain ⟨u,e,hL⟩:=each i (by omega)
  rw [List.getElem?_eq_getElem hi] at e
  simp at e
  obtain ⟨k,n,p,s,aa,al,ac,ta,tl,tc,na,nl,nc,e2⟩:=hL.vaV
  rw [e,e2];rfl
 have ho:=h.own
 unfold OwnsVa at ho
 rcases ho.2 with ⟨rfl,h0⟩ | ⟨g,cap,cur,rfl,hbg,hg,hnc,hcm,hcs,htake⟩
 ·have h00:ts.length = 0:=by omega
  exact ⟨none,0,fun _=>.int .i64 0,by rw [h00],by omega,by omega,fun i hi=>by omega,fun i hi=>by omega⟩
 ·refine ⟨some ⟨g,0,none⟩,cap,fun i=>(vs[i]?).getD (.int .i64 0),by rw [hl],by omega,hm,fun i hi=>?_,fun i hi=>?_⟩
  ·obtain ⟨u,e,hL⟩:=each i hi
   obtain ⟨k,n,p,s,aa,al,ac,ta,tl,tc,na,nl,nc,e2⟩:=hL.vaV
   have hcell:∀ j x,j < 7 -> (nodeCells u)[j]? = some x -> w.cell? ⟨g,i * 7 + j,none⟩ = some x:=by
    intro j x hj hx
    have:=World.ownsRow.cells ho (g:=g) rfl (i * 7 + j) x (by rw [flatV_get vs h5 i j u e hj];exact hx)
    have hadd:(⟨g,0,none⟩:Addr).add (i * 7 + j) = ⟨g,i * 7 + j,none⟩:=by unfold Addr.add;split <;> simp_all
    rwa [hadd] at this
   rw [e2] at hcell
   refine ⟨g,0,rfl,hbg,k,n,p,s,aa,al,ac,ta,tl,tc,na,nl,nc,by show (vs[i]?).getD _ = _;rw [e];exact e2,?_,?_,?_,?_,?_,?_,?_⟩
   ·have:=hcell 0 _ (by omega) rfl;simpa using this
   ·have:=hcell 1 _ (by omega) rfl;simpa using this
   ·have:=hcell 2 _ (by omega) rfl;simpa using this
   ·have:=hcell 3 _ (by omega) rfl;simpa using this
   ·have:=hcell 4 _ (by omega) rfl;simpa using this
   ·have:=hcell 5 _ (by omega) rfl;simpa using this
   ·have:=hcell 6 _ (by omega) rfl;simpa using this
  ·obtain ⟨u,e,hL⟩:=each i hi
   show LiesV _ _ _ ((vs[i]?).getD _)
   rw [e];exact hL
theorem nin_any (n:Int) (w:World):Calls Tryz.prog 92 #[.int .i64 n] w fun e w'=>e = .returned (.bool (inB n)) /\ w' = w:=by
 go_enter Tryz.func92,Tryz.ntmps92
 go_wp2
 all_goals
  go_ret
  refine Lf.retb ?_ rfl
  rw [Bool.eq_iff_iff]
  simp [inB]
  try omega
theorem isAmount_any (n:Int) (w:World):Calls Tryz.prog 93 #[.int .i64 n] w fun e w'=>e = .returned (.bool (amountB n)) /\ w' = w:=by
 have H:=jh (fun w=>nin_any n w)
 by_cases h:0 <= n
 ·have hr:amountB n = inB n:=by
   rw [Bool.eq_iff_iff];simp [amountB,inB];omega
  rw [hr]
  generalize inB n = b at *
  clear hr
  go_enter Tryz.func93,Tryz.ntmps93
  go_wp2_with ((go_at_call 92;refine (H.out _).mono ?_;rintro e w' ⟨rfl,rfl⟩))
  go_ret
  exact ⟨rfl,rfl⟩
 ·have hr:amountB n = false:=by simp [amountB];omega
  rw [hr]
  clear hr
  go_enter Tryz.func93,Tryz.ntmps93
  go_wp2_with fail
  go_ret
  exact ⟨rfl,rfl⟩
theorem isAddr_any (n:Int) (w:World):Calls Tryz.prog 64 #[.int .i64 n] w fun e w'=>e = .returned (.bool (addrB n)) /\ w' = w:=by
 go_enter Tryz.func64,Tryz.ntmps64
 go_wp2
 all_goals
  go_ret
  refine Lf.retb ?_ rfl
  rw [Bool.eq_iff_iff]
  simp [addrB]
  try omega
theorem isSent_any (n:Int) (w:World):Calls Tryz.prog 63 #[.int .i64 n] w fun e w'=>e = .returned (.bool (decide (n = 8 \/ n = 15))) /\ w' = w:=by
 go_enter Tryz.func63,Tryz.ntmps63
 go_wp2
 all_goals
  go_ret
  refine Lf.retb ?_ rfl
  rw [Bool.eq_iff_iff]
  simp
  try omega
theorem fitsN_any (t n:Int) (w:World):Calls Tryz.prog 62 #[.int .i64 t,.int .i64 n] w fun e w'=>e = .returned (.bool (fitsNF t n)) /\ w' = w:=by
 have H1:=jh (fun w=>nin_any n w)
 have H2:=jh (fun w=>isAmount_any n w)
 have H3:=jh (fun w=>isAddr_any n w)
 have HF:Hid (fitsNF t n = fitsNF t n):=rfl
 generalize hr:fitsNF t n = r
 have HR:=jh hr
 clear hr HF
 go_enter Tryz.func62,Tryz.ntmps62
 go_wp2_with (first
  | (go_at_call 92;refine (H1.out _).mono ?_;rintro e w' ⟨rfl,rfl⟩)
  | (go_at_call 93;refine (H2.out _).mono ?_;rintro e w' ⟨rfl,rfl⟩)
  | (go_at_call 64;refine (H3.out _).mono ?_;rintro e w' ⟨rfl,rfl⟩))
 all_goals
  go_ret
  refine Lf.retb ?_ rfl
  have hr:=HR.out
  clear HR H1 H2 H3
  subst hr
  rw [Bool.eq_iff_iff]
  simp_all [fitsNF]
theorem RowT.up {w W:World} {ts:List Ty} {a:Option Addr} {V:Nat -> Value} (h:RowT (fun _=>True) w ts a V) (hg:w.grownBy W none):RowT (· < W.heap.size) W ts a V :=
 (h.same (sAl hg)).okMono (fun b hb _=>hb)
theorem LiesT.up {w W:World} {T:Ty} {v:Value} (h:LiesT (fun _=>True) w T v) (hg:w.grownBy W none):LiesT (· < W.heap.size) W T v :=
 (h.same (sAl hg)).okMono (fun b hb _=>hb)
theorem sizes_mem_le {l:List Ty} {i:Nat} (h:i < l.length):l[i].size <= tysizes l:=tysize_mem (List.getElem_mem h)
theorem ent_ksame:∀ args w,(callFunc 16 args).run Tryz.prog w = .ok (.enter 16 args) w:=fun args w=>by simp [go_sem]
def sameAtT (x y:List Ty) (i:Nat):Bool:=match x[i]?,y[i]? with
 | some p,some q=>sameT p q
 | _,_=>true
theorem sameAtT_eq {x y:List Ty} {i:Nat} (h1:i < x.length) (h2:i < y.length):sameAtT x y i = sameT x[i] y[i]:=by
 simp [sameAtT,List.getElem?_eq_getElem h1,List.getElem?_eq_getElem h2]
theorem sameTs_all:∀ (x y:List Ty),x.length = y.length -> ((∀ i,i < x.length -> sameAtT x y i = true) -> sameTs x y = true) /\ ((∃ i,i < x.length /\ sameAtT x y i = false) -> sameTs x y = false)
 | [],[],_=>⟨fun _=>rfl,fun ⟨i,h,_⟩=>by simp at h⟩
 | _ :: _,[],h=>by simp at h
 | [],_ :: _,h=>by simp at h
 | p :: x,q :: y,h=>by
  obtain ⟨h1,h2⟩:=sameTs_all x y (by simpa using h)
  refine ⟨fun ha=>?_,fun ⟨i,hi,hn⟩=>?_⟩
  ·have e0:=ha 0 (by simp)
   have e1:=h1 (fun i hi=>by have:=ha (i + 1) (by simpa using hi);simpa [sameAtT] using this)
   simp [sameTs,e1]
   simpa [sameAtT] using e0
  ·cases i with
   | zero =>
    have hf:sameT p q = false:=by simpa [sameAtT] using hn
    simp [sameTs,hf]
   | succ i =>
    have:=h2 ⟨i,by simpa using hi,by simpa [sameAtT] using hn⟩
    simp [sameTs,this]
theorem eqTypes_any {w:World} {x y:List Ty} {a b:Option Addr} {ca cb:Nat} {V V2:Nat -> Value} (hx:RowT (fun _=>True) w x a V) (hy:RowT (fun _=>True) w y b V2) (hz:tysizes x <= 50000000) (W:World) (hW:w.grownBy W none) :
 Calls Tryz.prog 22 #[.slice a x.length ca,.slice b y.length cb,.func (.func 16) #[] #[]] W fun e w'=>e = .returned (.bool (sameTs x y)) /\ W.grownBy w' none:=by
 by_cases hl:x.length = y.length
 ·have h:=equal_any 16 #[] x.length a b ca cb V V2 (sameAtT x y) (fun _ W'=>W.grownBy W' none) (fun W'=>W.grownBy W' none) hx.1 ent_ksame
   (fun i W' hi hI=>((hx.2.1 i hi).same (sAl (gTq hW hI)))) (fun i W' hi hI=>((hy.2.1 i (by omega)).same (sAl (gTq hW hI)))) (fun i W' o hI=>gTq hI (gBq _))
   (fun i W' hi hI=>by
    have h1:=LiesT.up (hx.2.2 i hi) (gTq hW hI)
    have h2:=LiesT.up (hy.2.2 i (by omega)) (gTq hW hI)
    have h3:=same_any h1 h2 (Nat.le_trans (sizes_mem_le hi) hz)
    rw [sameAtT_eq hi (by omega)]
    exact h3.mono fun e w' h=>⟨h.1,fun _=>gTq hI h.2,fun _=>gTq hI h.2⟩) W (gRf _ _)
  rw [hl] at h ⊢
  obtain ⟨q1,q2⟩:=sameTs_all x y hl
  refine h.mono fun e w' h=>?_
  rcases h with ⟨rfl,hg,hall⟩ | ⟨i,hi,hn,rfl,hg⟩
  ·rw [q1 (by rw [hl];exact hall)];exact ⟨rfl,hg⟩
  ·rw [q2 ⟨i,by rw [hl];exact hi,hn⟩];exact ⟨rfl,hg⟩
 ·have h:=equal_len (.func (.func 16) #[] #[]) x.length y.length a b ca cb hl hx.1 hy.1 W
  have hno:sameTs x y = false:=by
   cases hq:sameTs x y with
   | false=>rfl
   | true=>exact absurd (sameTs_len hq) hl
  rw [hno]
  exact h.mono fun e w' h=>⟨h.1,by rw [h.2];exact gRf _ _⟩
theorem fitsT_any {w:World} {T:Ty} {u:Value} {types:List Ty} {ta:Option Addr} {tc:Nat} {VT:Nat -> Value} (hT:LiesT (fun _=>True) w T u) (hR:RowT (fun _=>True) w types ta VT) (hz:tysizes types <= 50000000) (W:World) (hW:w.grownBy W none) :
 Calls Tryz.prog 65 #[u,.slice ta types.length tc] W fun e w'=>e = .returned (.bool (fitsTF T types)) /\ W.grownBy w' none:=by
 obtain ⟨a,c,V,rfl,it,hRT⟩:=hT.inv
 have hl:=hR.1
 unfold maxLen at hl
 have HR:=jh hR
 have HRT:=jh hRT
 have HW:=jh hW
 have HZ:=jh hz
 by_cases h8:T.t = 8
 ·have hF:fitsTF T types = oneGood types:=by unfold fitsTF;rw [if_pos h8]
  rw [hF]
  by_cases h1:types.length = 1
  ·obtain ⟨x,rfl⟩:=List.length_eq_one_iff.1 h1
   obtain ⟨b1,o1,t',a',l',c',rfl,_,hv,e0,e1⟩:=((HR.out.2.1 0 (by simp)).same (sAl HW.out)).cells
   have hG:∀ W2,W.grownBy W2 none -> Calls Tryz.prog 37 #[tyV t' a' l' c'] W2 fun e w'=>e = .returned (.bool (gYq x)) /\ W2.grownBy w' none:=fun W2 h2=>by
    have h3:=HR.out.2.2 0 (by simp)
    rw [hv] at h3
    exact kgood_any (LiesT.up h3 (gTq HW.out h2))
   have HG:=jh hG
   rw [Nat.zero_mul,Nat.add_zero] at e0 e1
   have q1:b1 < W.heap.size:=World.block_lt_of_cell? W _ e0
   rw [show oneGood [x] = gYq x from rfl]
   generalize gYq x = r at *
   clear hG hT hR hRT hW hz it hF h1 hv HR HRT HZ
   have HGB:=jh (gBq (w:=W) (.cells #[.int .i64 T.t,.slice a T.args.length c] 24))
   rw [h8] at HGB ⊢
   clear h8
   unfold tyV at HG ⊢
   simp only [List.length_singleton] at hl ⊢
   go_enter Tryz.func65,Tryz.ntmps65
   go_wp2_with fail
   refine (HG.out _ HGB.out).mono ?_;rintro e w1 ⟨rfl,hg⟩
   have HG1:=jh (gTq HGB.out hg)
   clear hg
   go_wp2_with fail
   go_ret
   exact ⟨rfl,HG1.out⟩
  ·have hF2:=oneGood_no h1
   rw [hF2]
   have z1:¬ (types.length:Int) = 1:=by omega
   have z2:((types.length:Int) == 1) = false:=by rw [beq_eq_false_iff_ne];exact z1
   clear hT hR hRT hW hz it hF hF2 h1 HR HRT HZ HW
   rw [h8]
   clear h8
   unfold tyV
   go_enter Tryz.func65,Tryz.ntmps65
   go_wp2_with fail
   go_ret
   exact ⟨rfl,gBq _⟩
 ·by_cases h14:T.t = 14
  ·have hF:fitsTF T types = sameTs types T.args:=by unfold fitsTF;rw [if_neg h8,if_pos h14]
   rw [hF]
   have HE:=jh (fun W2 (h2:W.grownBy W2 none)=>eqTypes_any (ca:=tc) (cb:=c) HR.out HRT.out HZ.out W2 (gTq HW.out h2))
   generalize sameTs types T.args = r at *
   have hl2:=HRT.out.1
   unfold maxLen at hl2
   clear hT hR hRT hW hz it hF h8 HR HRT HZ HW
   have HGB:=jh (gBq (w:=W) (.cells #[.int .i64 T.t,.slice a T.args.length c] 24))
   rw [h14] at HGB ⊢
   clear h14
   unfold tyV
   go_enter Tryz.func65,Tryz.ntmps65
   go_wp2_with fail
   refine (HE.out _ HGB.out).mono ?_;rintro e w1 ⟨rfl,hg⟩
   have HG1:=jh (gTq HGB.out hg)
   clear hg
   go_wp2_with fail
   go_ret
   exact ⟨rfl,HG1.out⟩
  ·have hF:fitsTF T types = decide (types.length = 0):=by unfold fitsTF;rw [if_neg h8,if_neg h14]
   rw [hF]
   have k1:(T.t == 8) = false:=by simpa using h8
   have k2:(T.t == 14) = false:=by simpa using h14
   clear hT hR hRT hW hz it hF HR HRT HZ HW
   unfold tyV
   go_enter Tryz.func65,Tryz.ntmps65
   go_wp2_with fail
   go_ret
   refine Lf.retb ?_ (gBq _)
   rw [Bool.eq_iff_iff]
   simp
theorem new_two' (w:World) (o o':Obj):((w.alloc o).alloc o').heap[w.heap.size + 1]? = some o':=by
 have:=heap_alloc_new (w.alloc o) o'
 rwa [show (w.alloc o).heap.size = w.heap.size + 1 from by simp] at this
theorem fits_any {w:World} {T:Ty} {x:Va} {u v:Value} (hT:LiesT (fun _=>True) w T u) (hV:LiesV (fun _=>True) w x v) (hz:x.size <= 20000000) (W:World) (hW:w.grownBy W none) :
 Calls Tryz.prog 44 #[u,v] W fun e w'=>e = .returned (.bool (fitsF T x)) /\ W.grownBy w' none:=by
 have HT:=jh hT
 obtain ⟨a,c,V,rfl,it,hRT⟩:=hT.inv
 obtain ⟨aa,ac,ta,tc,na,nc,VV,VT,VN,rfl,⟨ik,iN,ia,hs,hlc⟩,hRV,hRY,hRN⟩:=hV.inv
 have hsz:=vsize_eq x
 have H1:=jh (fun W=>fitsN_any T.t x.n W)
 have H2:=jh (fun W=>isSent_any T.t W)
 have H3:=jh (fun W=>isAddr_any x.a W)
 have H4:=jh (fun W2 (h2:W.grownBy W2 none)=>fitsT_any (tc:=tc) HT.out hRY (by omega) W2 (gTq hW h2))
 have hl:=hRN.1
 unfold maxLen at hl hs
 have HF:Hid (fitsF T x = (decide (x.k = T.t) && fitsNF T.t x.n && (decide (x.a = 0) || decide (T.t = 8 \/ T.t = 15) && addrB x.a) && (decide (x.s.size = 0) || decide (T.t = 6) && decide (x.s.size <= 200)) && fitsTF T x.types && (decide (x.code.length = 0) || decide (T.t = 14)))):=rfl
 have HSL:=jh (Lf.nil_iff x.s)
 have HSZ:Hid (x.s.size = 0 -> x.s = ⟨#[]⟩):=fun h=>by
  have h2:x.s.data = #[]:=Array.eq_empty_of_size_eq_zero h
  cases hx:x.s with
  | mk d=>rw [hx] at h2;simp at h2;rw [h2]
 have HSZ:Hid (x.s.size = 0 -> x.s = ⟨#[]⟩):=fun h=>by
  have h2:x.s.data = #[]:=Array.eq_empty_of_size_eq_zero h
  cases hx:x.s with
  | mk d=>rw [hx] at h2;simp at h2;rw [h2]
 have HSZ:Hid (x.s.size = 0 -> x.s = ⟨#[]⟩):=fun h=>by
  have h2:x.s.data = #[]:=Array.eq_empty_of_size_eq_zero h
  cases hx:x.s with
  | mk d=>rw [hx] at h2;simp at h2;rw [h2]
 have HSZ:Hid (x.s.size = 0 -> x.s = ⟨#[]⟩):=fun h=>by
  have h2:x.s.data = #[]:=Array.eq_empty_of_size_eq_zero h
  cases hx:x.s with
  | mk d=>rw [hx] at h2;simp at h2;rw [h2]
 generalize hr:fitsF T x = r at *
 clear hr HT hT hV hRT hRV hRY hRN hW it ik iN ia hlc hz hsz
 generalize fitsNF T.t x.n = b1 at *
 generalize decide (T.t = 8 \/ T.t = 15) = b2 at *
 generalize addrB x.a = b3 at *
 generalize fitsTF T x.types = b4 at *
 generalize x.k = xk at *
 generalize x.n = xn at *
 generalize x.a = xa at *
 generalize x.s = xs at *
 generalize x.args.length = xl at *
 generalize x.types.length = yl at *
 generalize x.code.length = cl at *
 generalize T.args.length = tl at *
 generalize T.t = tt at *
 unfold tyV vaV at *
 by_cases hk:xk = tt
 ·subst hk
  cases b1 with
  | false =>
   have HGB:=jh (gTq (gBq (w:=W) (.cells #[.int .i64 xk,.slice a tl c] 24)) (gBq (.cells #[.int .i64 xk,.int .i64 xn,.int .i64 xa,.string xs,.slice aa xl ac,.slice ta yl tc,.slice na cl nc] 28)))
   have HB0:=jh (rNw W (.cells #[.int .i64 xk,.slice a tl c] 24) (.cells #[.int .i64 xk,.int .i64 xn,.int .i64 xa,.string xs,.slice aa xl ac,.slice ta yl tc,.slice na cl nc] 28))
   have HB1:=jh (new_two' W (.cells #[.int .i64 xk,.slice a tl c] 24) (.cells #[.int .i64 xk,.int .i64 xn,.int .i64 xa,.string xs,.slice aa xl ac,.slice ta yl tc,.slice na cl nc] 28))
   have hrr:r = false:=by rw [HF.out];(try rw [show decide ((xk:Int) = xk) = true from decide_eq_true rfl]);rfl
   subst hrr
   clear HF
   go_enter Tryz.func44,Tryz.ntmps44
   go_wp2_with fail
   refine (H1.out _).mono ?_;rintro e w' ⟨rfl,rfl⟩
   go_wp2_with fail
   go_ret
   exact ⟨rfl,HGB.out⟩
  | true =>
   by_cases ha:xa = 0
   ·subst ha
    by_cases hs0:xs.size = 0
    ·have dS:decide (xs.size = 0) = true:=decide_eq_true hs0
     obtain rfl:=HSZ.out hs0
     cases b4 with
     | false =>
      have HGB:=jh (gTq (gBq (w:=W) (.cells #[.int .i64 xk,.slice a tl c] 24)) (gBq (.cells #[.int .i64 xk,.int .i64 xn,.int .i64 0,.string ⟨#[]⟩,.slice aa xl ac,.slice ta yl tc,.slice na cl nc] 28)))
      have HB0:=jh (rNw W (.cells #[.int .i64 xk,.slice a tl c] 24) (.cells #[.int .i64 xk,.int .i64 xn,.int .i64 0,.string ⟨#[]⟩,.slice aa xl ac,.slice ta yl tc,.slice na cl nc] 28))
      have HB1:=jh (new_two' W (.cells #[.int .i64 xk,.slice a tl c] 24) (.cells #[.int .i64 xk,.int .i64 xn,.int .i64 0,.string ⟨#[]⟩,.slice aa xl ac,.slice ta yl tc,.slice na cl nc] 28))
      have hrr:r = false:=by rw [HF.out];(try rw [show decide ((xk:Int) = xk) = true from decide_eq_true rfl]);(try rw [dS]);rfl
      subst hrr
      clear HF
      go_enter Tryz.func44,Tryz.ntmps44
      go_wp2_with fail
      refine (H1.out _).mono ?_;rintro e w' ⟨rfl,rfl⟩
      go_wp2_with fail
      refine (H4.out _ HGB.out).mono ?_;rintro e w1 ⟨rfl,hg⟩
      have m0:=c0q ((hg.block _ (Array.getElem?_eq_some_iff.1 HB0.out).1 (by simp)).trans HB0.out)
      obtain ⟨_,_,_,_,_,_,m6⟩:=box7 ((hg.block _ (Array.getElem?_eq_some_iff.1 HB1.out).1 (by simp)).trans HB1.out)
      have HG:=jh (gTq HGB.out hg)
      clear hg
      go_wp2_with fail
      go_ret
      exact ⟨rfl,HG.out⟩
     | true =>
      by_cases hcl:cl = 0
      ·subst hcl
       have HGB:=jh (gTq (gBq (w:=W) (.cells #[.int .i64 xk,.slice a tl c] 24)) (gBq (.cells #[.int .i64 xk,.int .i64 xn,.int .i64 0,.string ⟨#[]⟩,.slice aa xl ac,.slice ta yl tc,.slice na 0 nc] 28)))
       have HB0:=jh (rNw W (.cells #[.int .i64 xk,.slice a tl c] 24) (.cells #[.int .i64 xk,.int .i64 xn,.int .i64 0,.string ⟨#[]⟩,.slice aa xl ac,.slice ta yl tc,.slice na 0 nc] 28))
       have HB1:=jh (new_two' W (.cells #[.int .i64 xk,.slice a tl c] 24) (.cells #[.int .i64 xk,.int .i64 xn,.int .i64 0,.string ⟨#[]⟩,.slice aa xl ac,.slice ta yl tc,.slice na 0 nc] 28))
       have hrr:r = true:=by rw [HF.out];(try rw [show decide ((xk:Int) = xk) = true from decide_eq_true rfl]);(try rw [dS]);rfl
       subst hrr
       clear HF
       go_enter Tryz.func44,Tryz.ntmps44
       go_wp2_with fail
       refine (H1.out _).mono ?_;rintro e w' ⟨rfl,rfl⟩
       go_wp2_with fail
       refine (H4.out _ HGB.out).mono ?_;rintro e w1 ⟨rfl,hg⟩
       have m0:=c0q ((hg.block _ (Array.getElem?_eq_some_iff.1 HB0.out).1 (by simp)).trans HB0.out)
       obtain ⟨_,_,_,_,_,_,m6⟩:=box7 ((hg.block _ (Array.getElem?_eq_some_iff.1 HB1.out).1 (by simp)).trans HB1.out)
       have HG:=jh (gTq HGB.out hg)
       clear hg
       go_wp2_with fail
       go_ret
       exact ⟨rfl,HG.out⟩
      ·have dC:decide (cl = 0) = false:=decide_eq_false hcl
       have q1:¬ (cl:Int) = 0:=by omega
       have q2:((cl:Int) == 0) = false:=by rw [beq_eq_false_iff_ne];exact q1
       by_cases h14:xk = 14
       ·subst h14
        have HGB:=jh (gTq (gBq (w:=W) (.cells #[.int .i64 14,.slice a tl c] 24)) (gBq (.cells #[.int .i64 14,.int .i64 xn,.int .i64 0,.string ⟨#[]⟩,.slice aa xl ac,.slice ta yl tc,.slice na cl nc] 28)))
        have HB0:=jh (rNw W (.cells #[.int .i64 14,.slice a tl c] 24) (.cells #[.int .i64 14,.int .i64 xn,.int .i64 0,.string ⟨#[]⟩,.slice aa xl ac,.slice ta yl tc,.slice na cl nc] 28))
        have HB1:=jh (new_two' W (.cells #[.int .i64 14,.slice a tl c] 24) (.cells #[.int .i64 14,.int .i64 xn,.int .i64 0,.string ⟨#[]⟩,.slice aa xl ac,.slice ta yl tc,.slice na cl nc] 28))
        have hrr:r = true:=by rw [HF.out];(try rw [show decide ((14:Int) = 14) = true from decide_eq_true rfl]);(try rw [dS]);(try rw [dC]);rfl
        subst hrr
        clear HF
        go_enter Tryz.func44,Tryz.ntmps44
        go_wp2_with fail
        refine (H1.out _).mono ?_;rintro e w' ⟨rfl,rfl⟩
        go_wp2_with fail
        refine (H4.out _ HGB.out).mono ?_;rintro e w1 ⟨rfl,hg⟩
        have m0:=c0q ((hg.block _ (Array.getElem?_eq_some_iff.1 HB0.out).1 (by simp)).trans HB0.out)
        obtain ⟨_,_,_,_,_,_,m6⟩:=box7 ((hg.block _ (Array.getElem?_eq_some_iff.1 HB1.out).1 (by simp)).trans HB1.out)
        have HG:=jh (gTq HGB.out hg)
        clear hg
        go_wp2_with fail
        go_ret
        exact ⟨rfl,HG.out⟩
       ·have d14:decide (xk = 14) = false:=decide_eq_false h14
        have q3:(xk == 14) = false:=by simpa using h14
        have HGB:=jh (gTq (gBq (w:=W) (.cells #[.int .i64 xk,.slice a tl c] 24)) (gBq (.cells #[.int .i64 xk,.int .i64 xn,.int .i64 0,.string ⟨#[]⟩,.slice aa xl ac,.slice ta yl tc,.slice na cl nc] 28)))
        have HB0:=jh (rNw W (.cells #[.int .i64 xk,.slice a tl c] 24) (.cells #[.int .i64 xk,.int .i64 xn,.int .i64 0,.string ⟨#[]⟩,.slice aa xl ac,.slice ta yl tc,.slice na cl nc] 28))
        have HB1:=jh (new_two' W (.cells #[.int .i64 xk,.slice a tl c] 24) (.cells #[.int .i64 xk,.int .i64 xn,.int .i64 0,.string ⟨#[]⟩,.slice aa xl ac,.slice ta yl tc,.slice na cl nc] 28))
        have hrr:r = false:=by rw [HF.out];(try rw [show decide ((xk:Int) = xk) = true from decide_eq_true rfl]);(try rw [dS]);(try rw [dC]);(try rw [d14]);rfl
        subst hrr
        clear HF
        go_enter Tryz.func44,Tryz.ntmps44
        go_wp2_with fail
        refine (H1.out _).mono ?_;rintro e w' ⟨rfl,rfl⟩
        go_wp2_with fail
        refine (H4.out _ HGB.out).mono ?_;rintro e w1 ⟨rfl,hg⟩
        have m0:=c0q ((hg.block _ (Array.getElem?_eq_some_iff.1 HB0.out).1 (by simp)).trans HB0.out)
        obtain ⟨_,_,_,_,_,_,m6⟩:=box7 ((hg.block _ (Array.getElem?_eq_some_iff.1 HB1.out).1 (by simp)).trans HB1.out)
        have HG:=jh (gTq HGB.out hg)
        clear hg
        go_wp2_with fail
        go_ret
        exact ⟨rfl,HG.out⟩
    ·have dS:decide (xs.size = 0) = false:=decide_eq_false hs0
     have s1:xs.toList.isEmpty = false:=by
      cases hq:xs.toList with
      | nil=>exact absurd (HSL.out.1 hq) hs0
      | cons _ _=>rfl
     have s2:¬ xs.toList = []:=fun h=>hs0 (HSL.out.1 h)
     by_cases h6:xk = 6
     ·subst h6
      have d614:decide ((6:Int) = 14) = false:=rfl
      by_cases h200:xs.size <= 200
      ·have d2:decide (xs.size <= 200) = true:=decide_eq_true h200
       have h201:(xs.size:Int) <= 200:=by omega
       cases b4 with
       | false =>
        have HGB:=jh (gTq (gBq (w:=W) (.cells #[.int .i64 6,.slice a tl c] 24)) (gBq (.cells #[.int .i64 6,.int .i64 xn,.int .i64 0,.string xs,.slice aa xl ac,.slice ta yl tc,.slice na cl nc] 28)))
        have HB0:=jh (rNw W (.cells #[.int .i64 6,.slice a tl c] 24) (.cells #[.int .i64 6,.int .i64 xn,.int .i64 0,.string xs,.slice aa xl ac,.slice ta yl tc,.slice na cl nc] 28))
        have HB1:=jh (new_two' W (.cells #[.int .i64 6,.slice a tl c] 24) (.cells #[.int .i64 6,.int .i64 xn,.int .i64 0,.string xs,.slice aa xl ac,.slice ta yl tc,.slice na cl nc] 28))
        have hrr:r = false:=by rw [HF.out];(try rw [show decide ((6:Int) = 6) = true from decide_eq_true rfl]);(try rw [dS]);(try rw [d614]);(try rw [d2]);rfl
        subst hrr
        clear HF
        go_enter Tryz.func44,Tryz.ntmps44
        go_wp2_with fail
        refine (H1.out _).mono ?_;rintro e w' ⟨rfl,rfl⟩
        go_wp2_with fail
        refine (H4.out _ HGB.out).mono ?_;rintro e w1 ⟨rfl,hg⟩
        have m0:=c0q ((hg.block _ (Array.getElem?_eq_some_iff.1 HB0.out).1 (by simp)).trans HB0.out)
        obtain ⟨_,_,_,_,_,_,m6⟩:=box7 ((hg.block _ (Array.getElem?_eq_some_iff.1 HB1.out).1 (by simp)).trans HB1.out)
        have HG:=jh (gTq HGB.out hg)
        clear hg
        go_wp2_with fail
        go_ret
        exact ⟨rfl,HG.out⟩
       | true =>
        by_cases hcl:cl = 0
        ·subst hcl
         have HGB:=jh (gTq (gBq (w:=W) (.cells #[.int .i64 6,.slice a tl c] 24)) (gBq (.cells #[.int .i64 6,.int .i64 xn,.int .i64 0,.string xs,.slice aa xl ac,.slice ta yl tc,.slice na 0 nc] 28)))
         have HB0:=jh (rNw W (.cells #[.int .i64 6,.slice a tl c] 24) (.cells #[.int .i64 6,.int .i64 xn,.int .i64 0,.string xs,.slice aa xl ac,.slice ta yl tc,.slice na 0 nc] 28))
         have HB1:=jh (new_two' W (.cells #[.int .i64 6,.slice a tl c] 24) (.cells #[.int .i64 6,.int .i64 xn,.int .i64 0,.string xs,.slice aa xl ac,.slice ta yl tc,.slice na 0 nc] 28))
         have hrr:r = true:=by rw [HF.out];(try rw [show decide ((6:Int) = 6) = true from decide_eq_true rfl]);(try rw [dS]);(try rw [d614]);(try rw [d2]);rfl
         subst hrr
         clear HF
         go_enter Tryz.func44,Tryz.ntmps44
         go_wp2_with fail
         refine (H1.out _).mono ?_;rintro e w' ⟨rfl,rfl⟩
         go_wp2_with fail
         refine (H4.out _ HGB.out).mono ?_;rintro e w1 ⟨rfl,hg⟩
         have m0:=c0q ((hg.block _ (Array.getElem?_eq_some_iff.1 HB0.out).1 (by simp)).trans HB0.out)
         obtain ⟨_,_,_,_,_,_,m6⟩:=box7 ((hg.block _ (Array.getElem?_eq_some_iff.1 HB1.out).1 (by simp)).trans HB1.out)
         have HG:=jh (gTq HGB.out hg)
         clear hg
         go_wp2_with fail
         go_ret
         exact ⟨rfl,HG.out⟩
        ·have dC:decide (cl = 0) = false:=decide_eq_false hcl
         have q1:¬ (cl:Int) = 0:=by omega
         have q2:((cl:Int) == 0) = false:=by rw [beq_eq_false_iff_ne];exact q1
         have HGB:=jh (gTq (gBq (w:=W) (.cells #[.int .i64 6,.slice a tl c] 24)) (gBq (.cells #[.int .i64 6,.int .i64 xn,.int .i64 0,.string xs,.slice aa xl ac,.slice ta yl tc,.slice na cl nc] 28)))
         have HB0:=jh (rNw W (.cells #[.int .i64 6,.slice a tl c] 24) (.cells #[.int .i64 6,.int .i64 xn,.int .i64 0,.string xs,.slice aa xl ac,.slice ta yl tc,.slice na cl nc] 28))
         have HB1:=jh (new_two' W (.cells #[.int .i64 6,.slice a tl c] 24) (.cells #[.int .i64 6,.int .i64 xn,.int .i64 0,.string xs,.slice aa xl ac,.slice ta yl tc,.slice na cl nc] 28))
         have hrr:r = false:=by rw [HF.out];(try rw [show decide ((6:Int) = 6) = true from decide_eq_true rfl]);(try rw [dS]);(try rw [d614]);(try rw [d2]);(try rw [dC]);rfl
         subst hrr
         clear HF
         go_enter Tryz.func44,Tryz.ntmps44
         go_wp2_with fail
         refine (H1.out _).mono ?_;rintro e w' ⟨rfl,rfl⟩
         go_wp2_with fail
         refine (H4.out _ HGB.out).mono ?_;rintro e w1 ⟨rfl,hg⟩
         have m0:=c0q ((hg.block _ (Array.getElem?_eq_some_iff.1 HB0.out).1 (by simp)).trans HB0.out)
         obtain ⟨_,_,_,_,_,_,m6⟩:=box7 ((hg.block _ (Array.getElem?_eq_some_iff.1 HB1.out).1 (by simp)).trans HB1.out)
         have HG:=jh (gTq HGB.out hg)
         clear hg
         go_wp2_with fail
         go_ret
         exact ⟨rfl,HG.out⟩
      ·have d2:decide (xs.size <= 200) = false:=decide_eq_false h200
       have h201:¬ (xs.size:Int) <= 200:=by omega
       have HGB:=jh (gTq (gBq (w:=W) (.cells #[.int .i64 6,.slice a tl c] 24)) (gBq (.cells #[.int .i64 6,.int .i64 xn,.int .i64 0,.string xs,.slice aa xl ac,.slice ta yl tc,.slice na cl nc] 28)))
       have HB0:=jh (rNw W (.cells #[.int .i64 6,.slice a tl c] 24) (.cells #[.int .i64 6,.int .i64 xn,.int .i64 0,.string xs,.slice aa xl ac,.slice ta yl tc,.slice na cl nc] 28))
       have HB1:=jh (new_two' W (.cells #[.int .i64 6,.slice a tl c] 24) (.cells #[.int .i64 6,.int .i64 xn,.int .i64 0,.string xs,.slice aa xl ac,.slice ta yl tc,.slice na cl nc] 28))
       have hrr:r = false:=by rw [HF.out];(try rw [show decide ((6:Int) = 6) = true from decide_eq_true rfl]);(try rw [dS]);(try rw [d614]);(try rw [d2]);rfl
       subst hrr
       clear HF
       go_enter Tryz.func44,Tryz.ntmps44
       go_wp2_with fail
       refine (H1.out _).mono ?_;rintro e w' ⟨rfl,rfl⟩
       go_wp2_with fail
       go_ret
       exact ⟨rfl,HGB.out⟩
     ·have d6:decide (xk = 6) = false:=decide_eq_false h6
      have q6:(xk == 6) = false:=by simpa using h6
      have HGB:=jh (gTq (gBq (w:=W) (.cells #[.int .i64 xk,.slice a tl c] 24)) (gBq (.cells #[.int .i64 xk,.int .i64 xn,.int .i64 0,.string xs,.slice aa xl ac,.slice ta yl tc,.slice na cl nc] 28)))
      have HB0:=jh (rNw W (.cells #[.int .i64 xk,.slice a tl c] 24) (.cells #[.int .i64 xk,.int .i64 xn,.int .i64 0,.string xs,.slice aa xl ac,.slice ta yl tc,.slice na cl nc] 28))
      have HB1:=jh (new_two' W (.cells #[.int .i64 xk,.slice a tl c] 24) (.cells #[.int .i64 xk,.int .i64 xn,.int .i64 0,.string xs,.slice aa xl ac,.slice ta yl tc,.slice na cl nc] 28))
      have hrr:r = false:=by rw [HF.out];(try rw [show decide ((xk:Int) = xk) = true from decide_eq_true rfl]);(try rw [dS]);(try rw [d6]);rfl
      subst hrr
      clear HF
      go_enter Tryz.func44,Tryz.ntmps44
      go_wp2_with fail
      refine (H1.out _).mono ?_;rintro e w' ⟨rfl,rfl⟩
      go_wp2_with fail
      go_ret
      exact ⟨rfl,HGB.out⟩
   ·have dA:decide (xa = 0) = false:=decide_eq_false ha
    have za:(xa == 0) = false:=by simpa using ha
    cases b2 with
    | false =>
     have HGB:=jh (gTq (gBq (w:=W) (.cells #[.int .i64 xk,.slice a tl c] 24)) (gBq (.cells #[.int .i64 xk,.int .i64 xn,.int .i64 xa,.string xs,.slice aa xl ac,.slice ta yl tc,.slice na cl nc] 28)))
     have HB0:=jh (rNw W (.cells #[.int .i64 xk,.slice a tl c] 24) (.cells #[.int .i64 xk,.int .i64 xn,.int .i64 xa,.string xs,.slice aa xl ac,.slice ta yl tc,.slice na cl nc] 28))
     have HB1:=jh (new_two' W (.cells #[.int .i64 xk,.slice a tl c] 24) (.cells #[.int .i64 xk,.int .i64 xn,.int .i64 xa,.string xs,.slice aa xl ac,.slice ta yl tc,.slice na cl nc] 28))
     have hrr:r = false:=by rw [HF.out];(try rw [show decide ((xk:Int) = xk) = true from decide_eq_true rfl]);(try rw [dA]);rfl
     subst hrr
     clear HF
     go_enter Tryz.func44,Tryz.ntmps44
     go_wp2_with fail
     refine (H1.out _).mono ?_;rintro e w' ⟨rfl,rfl⟩
     go_wp2_with fail
     refine (H2.out _).mono ?_;rintro e w' ⟨rfl,rfl⟩
     go_wp2_with fail
     go_ret
     exact ⟨rfl,HGB.out⟩
    | true =>
     cases b3 with
     | false =>
      have HGB:=jh (gTq (gBq (w:=W) (.cells #[.int .i64 xk,.slice a tl c] 24)) (gBq (.cells #[.int .i64 xk,.int .i64 xn,.int .i64 xa,.string xs,.slice aa xl ac,.slice ta yl tc,.slice na cl nc] 28)))
      have HB0:=jh (rNw W (.cells #[.int .i64 xk,.slice a tl c] 24) (.cells #[.int .i64 xk,.int .i64 xn,.int .i64 xa,.string xs,.slice aa xl ac,.slice ta yl tc,.slice na cl nc] 28))
      have HB1:=jh (new_two' W (.cells #[.int .i64 xk,.slice a tl c] 24) (.cells #[.int .i64 xk,.int .i64 xn,.int .i64 xa,.string xs,.slice aa xl ac,.slice ta yl tc,.slice na cl nc] 28))
      have hrr:r = false:=by rw [HF.out];(try rw [show decide ((xk:Int) = xk) = true from decide_eq_true rfl]);(try rw [dA]);rfl
      subst hrr
      clear HF
      go_enter Tryz.func44,Tryz.ntmps44
      go_wp2_with fail
      refine (H1.out _).mono ?_;rintro e w' ⟨rfl,rfl⟩
      go_wp2_with fail
      refine (H2.out _).mono ?_;rintro e w' ⟨rfl,rfl⟩
      go_wp2_with fail
      refine (H3.out _).mono ?_;rintro e w' ⟨rfl,rfl⟩
      go_wp2_with fail
      go_ret
      exact ⟨rfl,HGB.out⟩
     | true =>
      by_cases hs0:xs.size = 0
      ·have dS:decide (xs.size = 0) = true:=decide_eq_true hs0
       obtain rfl:=HSZ.out hs0
       cases b4 with
       | false =>
        have HGB:=jh (gTq (gBq (w:=W) (.cells #[.int .i64 xk,.slice a tl c] 24)) (gBq (.cells #[.int .i64 xk,.int .i64 xn,.int .i64 xa,.string ⟨#[]⟩,.slice aa xl ac,.slice ta yl tc,.slice na cl nc] 28)))
        have HB0:=jh (rNw W (.cells #[.int .i64 xk,.slice a tl c] 24) (.cells #[.int .i64 xk,.int .i64 xn,.int .i64 xa,.string ⟨#[]⟩,.slice aa xl ac,.slice ta yl tc,.slice na cl nc] 28))
        have HB1:=jh (new_two' W (.cells #[.int .i64 xk,.slice a tl c] 24) (.cells #[.int .i64 xk,.int .i64 xn,.int .i64 xa,.string ⟨#[]⟩,.slice aa xl ac,.slice ta yl tc,.slice na cl nc] 28))
        have hrr:r = false:=by rw [HF.out];(try rw [show decide ((xk:Int) = xk) = true from decide_eq_true rfl]);(try rw [dA]);(try rw [dS]);rfl
        subst hrr
        clear HF
        go_enter Tryz.func44,Tryz.ntmps44
        go_wp2_with fail
        refine (H1.out _).mono ?_;rintro e w' ⟨rfl,rfl⟩
        go_wp2_with fail
        refine (H2.out _).mono ?_;rintro e w' ⟨rfl,rfl⟩
        go_wp2_with fail
        refine (H3.out _).mono ?_;rintro e w' ⟨rfl,rfl⟩
        go_wp2_with fail
        refine (H4.out _ HGB.out).mono ?_;rintro e w1 ⟨rfl,hg⟩
        have m0:=c0q ((hg.block _ (Array.getElem?_eq_some_iff.1 HB0.out).1 (by simp)).trans HB0.out)
        obtain ⟨_,_,_,_,_,_,m6⟩:=box7 ((hg.block _ (Array.getElem?_eq_some_iff.1 HB1.out).1 (by simp)).trans HB1.out)
        have HG:=jh (gTq HGB.out hg)
        clear hg
        go_wp2_with fail
        go_ret
        exact ⟨rfl,HG.out⟩
       | true =>
        by_cases hcl:cl = 0
        ·subst hcl
         have HGB:=jh (gTq (gBq (w:=W) (.cells #[.int .i64 xk,.slice a tl c] 24)) (gBq (.cells #[.int .i64 xk,.int .i64 xn,.int .i64 xa,.string ⟨#[]⟩,.slice aa xl ac,.slice ta yl tc,.slice na 0 nc] 28)))
         have HB0:=jh (rNw W (.cells #[.int .i64 xk,.slice a tl c] 24) (.cells #[.int .i64 xk,.int .i64 xn,.int .i64 xa,.string ⟨#[]⟩,.slice aa xl ac,.slice ta yl tc,.slice na 0 nc] 28))
         have HB1:=jh (new_two' W (.cells #[.int .i64 xk,.slice a tl c] 24) (.cells #[.int .i64 xk,.int .i64 xn,.int .i64 xa,.string ⟨#[]⟩,.slice aa xl ac,.slice ta yl tc,.slice na 0 nc] 28))
         have hrr:r = true:=by rw [HF.out];(try rw [show decide ((xk:Int) = xk) = true from decide_eq_true rfl]);(try rw [dA]);(try rw [dS]);rfl
         subst hrr
         clear HF
         go_enter Tryz.func44,Tryz.ntmps44
         go_wp2_with fail
         refine (H1.out _).mono ?_;rintro e w' ⟨rfl,rfl⟩
         go_wp2_with fail
         refine (H2.out _).mono ?_;rintro e w' ⟨rfl,rfl⟩
         go_wp2_with fail
         refine (H3.out _).mono ?_;rintro e w' ⟨rfl,rfl⟩
         go_wp2_with fail
         refine (H4.out _ HGB.out).mono ?_;rintro e w1 ⟨rfl,hg⟩
         have m0:=c0q ((hg.block _ (Array.getElem?_eq_some_iff.1 HB0.out).1 (by simp)).trans HB0.out)
         obtain ⟨_,_,_,_,_,_,m6⟩:=box7 ((hg.block _ (Array.getElem?_eq_some_iff.1 HB1.out).1 (by simp)).trans HB1.out)
         have HG:=jh (gTq HGB.out hg)
         clear hg
         go_wp2_with fail
         go_ret
         exact ⟨rfl,HG.out⟩
        ·have dC:decide (cl = 0) = false:=decide_eq_false hcl
         have q1:¬ (cl:Int) = 0:=by omega
         have q2:((cl:Int) == 0) = false:=by rw [beq_eq_false_iff_ne];exact q1
         by_cases h14:xk = 14
         ·subst h14
          have HGB:=jh (gTq (gBq (w:=W) (.cells #[.int .i64 14,.slice a tl c] 24)) (gBq (.cells #[.int .i64 14,.int .i64 xn,.int .i64 xa,.string ⟨#[]⟩,.slice aa xl ac,.slice ta yl tc,.slice na cl nc] 28)))
          have HB0:=jh (rNw W (.cells #[.int .i64 14,.slice a tl c] 24) (.cells #[.int .i64 14,.int .i64 xn,.int .i64 xa,.string ⟨#[]⟩,.slice aa xl ac,.slice ta yl tc,.slice na cl nc] 28))
          have HB1:=jh (new_two' W (.cells #[.int .i64 14,.slice a tl c] 24) (.cells #[.int .i64 14,.int .i64 xn,.int .i64 xa,.string ⟨#[]⟩,.slice aa xl ac,.slice ta yl tc,.slice na cl nc] 28))
          have hrr:r = true:=by rw [HF.out];(try rw [show decide ((14:Int) = 14) = true from decide_eq_true rfl]);(try rw [dA]);(try rw [dS]);(try rw [dC]);rfl
          subst hrr
          clear HF
          go_enter Tryz.func44,Tryz.ntmps44
          go_wp2_with fail
          refine (H1.out _).mono ?_;rintro e w' ⟨rfl,rfl⟩
          go_wp2_with fail
          refine (H2.out _).mono ?_;rintro e w' ⟨rfl,rfl⟩
          go_wp2_with fail
          refine (H3.out _).mono ?_;rintro e w' ⟨rfl,rfl⟩
          go_wp2_with fail
          refine (H4.out _ HGB.out).mono ?_;rintro e w1 ⟨rfl,hg⟩
          have m0:=c0q ((hg.block _ (Array.getElem?_eq_some_iff.1 HB0.out).1 (by simp)).trans HB0.out)
          obtain ⟨_,_,_,_,_,_,m6⟩:=box7 ((hg.block _ (Array.getElem?_eq_some_iff.1 HB1.out).1 (by simp)).trans HB1.out)
          have HG:=jh (gTq HGB.out hg)
          clear hg
          go_wp2_with fail
          go_ret
          exact ⟨rfl,HG.out⟩
         ·have d14:decide (xk = 14) = false:=decide_eq_false h14
          have q3:(xk == 14) = false:=by simpa using h14
          have HGB:=jh (gTq (gBq (w:=W) (.cells #[.int .i64 xk,.slice a tl c] 24)) (gBq (.cells #[.int .i64 xk,.int .i64 xn,.int .i64 xa,.string ⟨#[]⟩,.slice aa xl ac,.slice ta yl tc,.slice na cl nc] 28)))
          have HB0:=jh (rNw W (.cells #[.int .i64 xk,.slice a tl c] 24) (.cells #[.int .i64 xk,.int .i64 xn,.int .i64 xa,.string ⟨#[]⟩,.slice aa xl ac,.slice ta yl tc,.slice na cl nc] 28))
          have HB1:=jh (new_two' W (.cells #[.int .i64 xk,.slice a tl c] 24) (.cells #[.int .i64 xk,.int .i64 xn,.int .i64 xa,.string ⟨#[]⟩,.slice aa xl ac,.slice ta yl tc,.slice na cl nc] 28))
          have hrr:r = false:=by rw [HF.out];(try rw [show decide ((xk:Int) = xk) = true from decide_eq_true rfl]);(try rw [dA]);(try rw [dS]);(try rw [dC]);(try rw [d14]);rfl
          subst hrr
          clear HF
          go_enter Tryz.func44,Tryz.ntmps44
          go_wp2_with fail
          refine (H1.out _).mono ?_;rintro e w' ⟨rfl,rfl⟩
          go_wp2_with fail
          refine (H2.out _).mono ?_;rintro e w' ⟨rfl,rfl⟩
          go_wp2_with fail
          refine (H3.out _).mono ?_;rintro e w' ⟨rfl,rfl⟩
          go_wp2_with fail
          refine (H4.out _ HGB.out).mono ?_;rintro e w1 ⟨rfl,hg⟩
          have m0:=c0q ((hg.block _ (Array.getElem?_eq_some_iff.1 HB0.out).1 (by simp)).trans HB0.out)
          obtain ⟨_,_,_,_,_,_,m6⟩:=box7 ((hg.block _ (Array.getElem?_eq_some_iff.1 HB1.out).1 (by simp)).trans HB1.out)
          have HG:=jh (gTq HGB.out hg)
          clear hg
          go_wp2_with fail
          go_ret
          exact ⟨rfl,HG.out⟩
      ·have dS:decide (xs.size = 0) = false:=decide_eq_false hs0
       have s1:xs.toList.isEmpty = false:=by
        cases hq:xs.toList with
        | nil=>exact absurd (HSL.out.1 hq) hs0
        | cons _ _=>rfl
       have s2:¬ xs.toList = []:=fun h=>hs0 (HSL.out.1 h)
       by_cases h6:xk = 6
       ·subst h6
        have d614:decide ((6:Int) = 14) = false:=rfl
        by_cases h200:xs.size <= 200
        ·have d2:decide (xs.size <= 200) = true:=decide_eq_true h200
         have h201:(xs.size:Int) <= 200:=by omega
         cases b4 with
         | false =>
          have HGB:=jh (gTq (gBq (w:=W) (.cells #[.int .i64 6,.slice a tl c] 24)) (gBq (.cells #[.int .i64 6,.int .i64 xn,.int .i64 xa,.string xs,.slice aa xl ac,.slice ta yl tc,.slice na cl nc] 28)))
          have HB0:=jh (rNw W (.cells #[.int .i64 6,.slice a tl c] 24) (.cells #[.int .i64 6,.int .i64 xn,.int .i64 xa,.string xs,.slice aa xl ac,.slice ta yl tc,.slice na cl nc] 28))
          have HB1:=jh (new_two' W (.cells #[.int .i64 6,.slice a tl c] 24) (.cells #[.int .i64 6,.int .i64 xn,.int .i64 xa,.string xs,.slice aa xl ac,.slice ta yl tc,.slice na cl nc] 28))
          have hrr:r = false:=by rw [HF.out];(try rw [show decide ((6:Int) = 6) = true from decide_eq_true rfl]);(try rw [dA]);(try rw [dS]);(try rw [d614]);(try rw [d2]);rfl
          subst hrr
          clear HF
          go_enter Tryz.func44,Tryz.ntmps44
          go_wp2_with fail
          refine (H1.out _).mono ?_;rintro e w' ⟨rfl,rfl⟩
          go_wp2_with fail
          refine (H2.out _).mono ?_;rintro e w' ⟨rfl,rfl⟩
          go_wp2_with fail
          refine (H3.out _).mono ?_;rintro e w' ⟨rfl,rfl⟩
          go_wp2_with fail
          refine (H4.out _ HGB.out).mono ?_;rintro e w1 ⟨rfl,hg⟩
          have m0:=c0q ((hg.block _ (Array.getElem?_eq_some_iff.1 HB0.out).1 (by simp)).trans HB0.out)
          obtain ⟨_,_,_,_,_,_,m6⟩:=box7 ((hg.block _ (Array.getElem?_eq_some_iff.1 HB1.out).1 (by simp)).trans HB1.out)
          have HG:=jh (gTq HGB.out hg)
          clear hg
          go_wp2_with fail
          go_ret
          exact ⟨rfl,HG.out⟩
         | true =>
          by_cases hcl:cl = 0
          ·subst hcl
           have HGB:=jh (gTq (gBq (w:=W) (.cells #[.int .i64 6,.slice a tl c] 24)) (gBq (.cells #[.int .i64 6,.int .i64 xn,.int .i64 xa,.string xs,.slice aa xl ac,.slice ta yl tc,.slice na 0 nc] 28)))
           have HB0:=jh (rNw W (.cells #[.int .i64 6,.slice a tl c] 24) (.cells #[.int .i64 6,.int .i64 xn,.int .i64 xa,.string xs,.slice aa xl ac,.slice ta yl tc,.slice na 0 nc] 28))
           have HB1:=jh (new_two' W (.cells #[.int .i64 6,.slice a tl c] 24) (.cells #[.int .i64 6,.int .i64 xn,.int .i64 xa,.string xs,.slice aa xl ac,.slice ta yl tc,.slice na 0 nc] 28))
           have hrr:r = true:=by rw [HF.out];(try rw [show decide ((6:Int) = 6) = true from decide_eq_true rfl]);(try rw [dA]);(try rw [dS]);(try rw [d614]);(try rw [d2]);rfl
           subst hrr
           clear HF
           go_enter Tryz.func44,Tryz.ntmps44
           go_wp2_with fail
           refine (H1.out _).mono ?_;rintro e w' ⟨rfl,rfl⟩
           go_wp2_with fail
           refine (H2.out _).mono ?_;rintro e w' ⟨rfl,rfl⟩
           go_wp2_with fail
           refine (H3.out _).mono ?_;rintro e w' ⟨rfl,rfl⟩
           go_wp2_with fail
           refine (H4.out _ HGB.out).mono ?_;rintro e w1 ⟨rfl,hg⟩
           have m0:=c0q ((hg.block _ (Array.getElem?_eq_some_iff.1 HB0.out).1 (by simp)).trans HB0.out)
           obtain ⟨_,_,_,_,_,_,m6⟩:=box7 ((hg.block _ (Array.getElem?_eq_some_iff.1 HB1.out).1 (by simp)).trans HB1.out)
           have HG:=jh (gTq HGB.out hg)
           clear hg
           go_wp2_with fail
           go_ret
           exact ⟨rfl,HG.out⟩
          ·have dC:decide (cl = 0) = false:=decide_eq_false hcl
           have q1:¬ (cl:Int) = 0:=by omega
           have q2:((cl:Int) == 0) = false:=by rw [beq_eq_false_iff_ne];exact q1
           have HGB:=jh (gTq (gBq (w:=W) (.cells #[.int .i64 6,.slice a tl c] 24)) (gBq (.cells #[.int .i64 6,.int .i64 xn,.int .i64 xa,.string xs,.slice aa xl ac,.slice ta yl tc,.slice na cl nc] 28)))
           have HB0:=jh (rNw W (.cells #[.int .i64 6,.slice a tl c] 24) (.cells #[.int .i64 6,.int .i64 xn,.int .i64 xa,.string xs,.slice aa xl ac,.slice ta yl tc,.slice na cl nc] 28))
           have HB1:=jh (new_two' W (.cells #[.int .i64 6,.slice a tl c] 24) (.cells #[.int .i64 6,.int .i64 xn,.int .i64 xa,.string xs,.slice aa xl ac,.slice ta yl tc,.slice na cl nc] 28))
           have hrr:r = false:=by rw [HF.out];(try rw [show decide ((6:Int) = 6) = true from decide_eq_true rfl]);(try rw [dA]);(try rw [dS]);(try rw [d614]);(try rw [d2]);(try rw [dC]);rfl
           subst hrr
           clear HF
           go_enter Tryz.func44,Tryz.ntmps44
           go_wp2_with fail
           refine (H1.out _).mono ?_;rintro e w' ⟨rfl,rfl⟩
           go_wp2_with fail
           refine (H2.out _).mono ?_;rintro e w' ⟨rfl,rfl⟩
           go_wp2_with fail
           refine (H3.out _).mono ?_;rintro e w' ⟨rfl,rfl⟩
           go_wp2_with fail
           refine (H4.out _ HGB.out).mono ?_;rintro e w1 ⟨rfl,hg⟩
           have m0:=c0q ((hg.block _ (Array.getElem?_eq_some_iff.1 HB0.out).1 (by simp)).trans HB0.out)
           obtain ⟨_,_,_,_,_,_,m6⟩:=box7 ((hg.block _ (Array.getElem?_eq_some_iff.1 HB1.out).1 (by simp)).trans HB1.out)
           have HG:=jh (gTq HGB.out hg)
           clear hg
           go_wp2_with fail
           go_ret
           exact ⟨rfl,HG.out⟩
        ·have d2:decide (xs.size <= 200) = false:=decide_eq_false h200
         have h201:¬ (xs.size:Int) <= 200:=by omega
         have HGB:=jh (gTq (gBq (w:=W) (.cells #[.int .i64 6,.slice a tl c] 24)) (gBq (.cells #[.int .i64 6,.int .i64 xn,.int .i64 xa,.string xs,.slice aa xl ac,.slice ta yl tc,.slice na cl nc] 28)))
         have HB0:=jh (rNw W (.cells #[.int .i64 6,.slice a tl c] 24) (.cells #[.int .i64 6,.int .i64 xn,.int .i64 xa,.string xs,.slice aa xl ac,.slice ta yl tc,.slice na cl nc] 28))
         have HB1:=jh (new_two' W (.cells #[.int .i64 6,.slice a tl c] 24) (.cells #[.int .i64 6,.int .i64 xn,.int .i64 xa,.string xs,.slice aa xl ac,.slice ta yl tc,.slice na cl nc] 28))
         have hrr:r = false:=by rw [HF.out];(try rw [show decide ((6:Int) = 6) = true from decide_eq_true rfl]);(try rw [dA]);(try rw [dS]);(try rw [d614]);(try rw [d2]);rfl
         subst hrr
         clear HF
         go_enter Tryz.func44,Tryz.ntmps44
         go_wp2_with fail
         refine (H1.out _).mono ?_;rintro e w' ⟨rfl,rfl⟩
         go_wp2_with fail
         refine (H2.out _).mono ?_;rintro e w' ⟨rfl,rfl⟩
         go_wp2_with fail
         refine (H3.out _).mono ?_;rintro e w' ⟨rfl,rfl⟩
         go_wp2_with fail
         go_ret
         exact ⟨rfl,HGB.out⟩
       ·have d6:decide (xk = 6) = false:=decide_eq_false h6
        have q6:(xk == 6) = false:=by simpa using h6
        have HGB:=jh (gTq (gBq (w:=W) (.cells #[.int .i64 xk,.slice a tl c] 24)) (gBq (.cells #[.int .i64 xk,.int .i64 xn,.int .i64 xa,.string xs,.slice aa xl ac,.slice ta yl tc,.slice na cl nc] 28)))
        have HB0:=jh (rNw W (.cells #[.int .i64 xk,.slice a tl c] 24) (.cells #[.int .i64 xk,.int .i64 xn,.int .i64 xa,.string xs,.slice aa xl ac,.slice ta yl tc,.slice na cl nc] 28))
        have HB1:=jh (new_two' W (.cells #[.int .i64 xk,.slice a tl c] 24) (.cells #[.int .i64 xk,.int .i64 xn,.int .i64 xa,.string xs,.slice aa xl ac,.slice ta yl tc,.slice na cl nc] 28))
        have hrr:r = false:=by rw [HF.out];(try rw [show decide ((xk:Int) = xk) = true from decide_eq_true rfl]);(try rw [dA]);(try rw [dS]);(try rw [d6]);rfl
        subst hrr
        clear HF
        go_enter Tryz.func44,Tryz.ntmps44
        go_wp2_with fail
        refine (H1.out _).mono ?_;rintro e w' ⟨rfl,rfl⟩
        go_wp2_with fail
        refine (H2.out _).mono ?_;rintro e w' ⟨rfl,rfl⟩
        go_wp2_with fail
        refine (H3.out _).mono ?_;rintro e w' ⟨rfl,rfl⟩
        go_wp2_with fail
        go_ret
        exact ⟨rfl,HGB.out⟩
 ·have k1:(xk == tt) = false:=by simpa using hk
  have hrr:r = false:=by rw [HF.out];simp [hk]
  subst hrr
  clear HF H1 H2 H3 H4
  go_enter Tryz.func44,Tryz.ntmps44
  go_wp2_with fail
  go_ret
  exact ⟨rfl,gTq (gBq _) (gBq _)⟩
theorem nanI_any (a:Int) (w:World):Calls Tryz.prog 50 #[.int .i64 a] w fun e w'=>e = .returned (.bool false) /\ w' = w:=by
 go_enter Tryz.func50,Tryz.ntmps50
 go_wp2
 all_goals
  go_ret
  first | exact ⟨rfl,rfl⟩ | exact Lf.retb (by simp) rfl
theorem nanS_any (a:ByteArray) (w:World):Calls Tryz.prog 119 #[.string a] w fun e w'=>e = .returned (.bool false) /\ w' = w:=by
 go_enter Tryz.func119,Tryz.ntmps119
 go_wp2
 all_goals
  go_ret
  first | exact ⟨rfl,rfl⟩ | exact Lf.retb (by simp) rfl
theorem cmpI_any (a b:Int) (w:World):Calls Tryz.prog 33 #[.int .i64 a,.int .i64 b] w fun e w'=>e = .returned (.int .i64 (cmpI a b)) /\ w' = w:=by
 have H:=jh nanI_any
 by_cases h1:a < b
 ·have hr:cmpI a b = -1:=by rw [cmpI,if_pos h1]
  rw [hr]
  clear hr
  go_enter Tryz.func33,Tryz.ntmps33
  go_wp2_with ((go_at_call 50;refine (H.out _ _).mono ?_;rintro e w' ⟨rfl,rfl⟩))
  go_ret
  exact ⟨rfl,rfl⟩
 ·by_cases h2:b < a
  ·have hr:cmpI a b = 1:=by rw [cmpI,if_neg h1,if_pos h2]
   rw [hr]
   clear hr
   go_enter Tryz.func33,Tryz.ntmps33
   go_wp2_with ((go_at_call 50;refine (H.out _ _).mono ?_;rintro e w' ⟨rfl,rfl⟩))
   go_ret
   exact ⟨rfl,rfl⟩
  ·have hr:cmpI a b = 0:=by rw [cmpI,if_neg h1,if_neg h2]
   rw [hr]
   clear hr
   go_enter Tryz.func33,Tryz.ntmps33
   go_wp2_with ((go_at_call 50;refine (H.out _ _).mono ?_;rintro e w' ⟨rfl,rfl⟩))
   go_ret
   exact ⟨rfl,rfl⟩
theorem cmpS_any (a b:ByteArray) (w:World):Calls Tryz.prog 98 #[.string a,.string b] w fun e w'=>e = .returned (.int .i64 (cmpS a b)) /\ w' = w:=by
 have H:=jh nanS_any
 have hgt:∀ w,(binOp BinOp.gtr 9 (.string a) (.string b)).run Tryz.prog w = .ok (.bool (!(Op.bytesLess a.toList b.toList || a.toList == b.toList))) w:=fun w=>by simp [binOp,Op.stringOp]
 have hr:cmpS a b = if Op.bytesLess a.toList b.toList = true then -1 else if a.toList = b.toList then 0 else 1:=rfl
 rw [hr]
 cases h1:Op.bytesLess a.toList b.toList with
 | true =>
  rw [if_pos rfl]
  go_enter Tryz.func98,Tryz.ntmps98
  go_wp2_with ((go_at_call 119;refine (H.out _ _).mono ?_;rintro e w' ⟨rfl,rfl⟩))
  go_ret
  exact ⟨rfl,rfl⟩
 | false =>
  rw [if_neg (by decide)]
  by_cases h2:a.toList = b.toList
  ·rw [if_pos h2]
   have h3:(a.toList == b.toList) = true:=by simpa using h2
   have hs:a = b:=by
    have h4:a.data = b.data:=by
     apply Array.ext'
     rw [ByteArray.toList_eq,ByteArray.toList_eq] at h2
     exact h2
    cases a;cases b;simp_all
   subst hs
   clear h2 h3
   go_enter Tryz.func98,Tryz.ntmps98
   go_wp2_with ((go_at_call 119;refine (H.out _ _).mono ?_;rintro e w' ⟨rfl,rfl⟩))
   go_ret
   exact ⟨rfl,rfl⟩
  ·rw [if_neg h2]
   have h3:(a.toList == b.toList) = false:=by simpa using h2
   have h4:(Op.bytesLess a.toList b.toList || a.toList == b.toList) = false:=by rw [h1,h3];rfl
   go_enter Tryz.func98,Tryz.ntmps98
   go_wp2_with ((go_at_call 119;refine (H.out _ _).mono ?_;rintro e w' ⟨rfl,rfl⟩))
   go_ret
   exact ⟨rfl,rfl⟩
theorem vmade_any (k n a:Int) (s:ByteArray) (aa:Option Addr) (al ac:Nat) (ta:Option Addr) (tl tc:Nat) (na:Option Addr) (nl nc:Nat) (w:World) :
 Calls Tryz.prog 24 #[vaV k n a s aa al ac ta tl tc na nl nc] w fun e w'=>e = .returned (.slice aa al ac) /\ w.grownBy w' none:=by
 unfold vaV
 go_enter Tryz.func24,Tryz.ntmps24
 go_wp2_with fail
 go_ret
 exact ⟨rfl,gBq _⟩
theorem or2_any (b:Nat) (x y:Int) (w:World) (h0:w.cell? ⟨b,0,none⟩ = some (.int .i64 x)) (h1:w.cell? ⟨b,1,none⟩ = some (.int .i64 y)) :
 Calls Tryz.prog 97 #[.slice (some ⟨b,0,none⟩) 2 2] w fun e w'=>e = .returned (.int .i64 (if x ≠ 0 then x else y)) /\ w.grownBy w' none:=by
 generalize hr:(if x ≠ 0 then x else y) = r
 have HR:=jh hr
 clear hr
 have HG0:=jh (gRf w none)
 have HC0:=jh h0
 have HC1:=jh h1
 clear h0 h1
 go_enter Tryz.func97,Tryz.ntmps97
 go_wp2_with fail
 go_loopw [8] (fun i wr=>∃ j:Nat,j <= 2 /\ i = .int .i64 j /\ wr = w /\ (0 < j -> x = 0) /\ (1 < j -> y = 0)) (fun i _=>2 - (intOf i).toNat)
 case atStart=>exact ⟨0,by omega,rfl,rfl,fun h=>by omega,fun h=>by omega⟩
 case round =>
  obtain ⟨j,hj,rfl,rfl,e1,e2⟩:=hrel
  have E1:=jh e1
  have E2:=jh e2
  have c0:=HC0.out
  have c1:=HC1.out
  clear e1 e2
  rcases (show j = 0 \/ j = 1 \/ j = 2 from by omega) with rfl | rfl | rfl
  ·by_cases hx:x = 0
   ·have HX:=jh hx
    have hx1:(x == 0) = true:=by simpa using hx
    have hx2:(x != 0) = false:=by simpa using hx
    clear hx
    go_wp2_with fail
    go_roundw
    case rel=>exact ⟨1,by omega,by go_num,trivial,fun _=>HX.out,fun h=>by omega⟩
    case measure=>simp [intOf]
   ·have HX:=jh hx
    have hx1:(x == 0) = false:=by simpa using hx
    have hx2:(x != 0) = true:=by simpa using hx
    go_wp2_with fail
    go_ret
    exact Lf.reti (by rw [← HR.out,if_pos HX.out]) HG0.out
  ·by_cases hx:y = 0
   ·have HX:=jh hx
    have hx1:(y == 0) = true:=by simpa using hx
    have hx2:(y != 0) = false:=by simpa using hx
    clear hx
    go_wp2_with fail
    go_roundw
    case rel=>exact ⟨2,by omega,by go_num,trivial,fun _=>E1.out (by omega),fun _=>HX.out⟩
    case measure=>simp [intOf]
   ·have HX:=jh hx
    have hx1:(y == 0) = false:=by simpa using hx
    have hx2:(y != 0) = true:=by simpa using hx
    go_wp2_with fail
    go_ret
    exact Lf.reti (by rw [← HR.out,if_neg (by simpa using E1.out (by omega))]) HG0.out
  ·clear c0 c1
   go_wp2_with fail
   go_ret
   exact Lf.reti (by rw [← HR.out,if_neg (by simpa using E1.out (by omega)),E2.out (by omega)]) HG0.out
theorem or2_new (w0:World) (T:TypeId) (x y:Int) (H:Nat) (hH:w0.heap.size = H) :
 Calls Tryz.prog 97 #[.slice (some ⟨H,0,none⟩) 2 2] (w0.alloc (.cells #[.int .i64 x,.int .i64 y] T)).drew fun e w'=>e = .returned (.int .i64 (if x ≠ 0 then x else y)) /\ w0.grownBy w' none:=by
 subst hH
 have hb:(w0.alloc (.cells #[.int .i64 x,.int .i64 y] T)).drew.heap[w0.heap.size]? = some (.cells #[.int .i64 x,.int .i64 y] T):=heap_alloc_new w0 (.cells #[.int .i64 x,.int .i64 y] T)
 exact (or2_any w0.heap.size x y _ (c0q hb) (c1q hb)).mono fun e w' h=>⟨h.1,gTq (gDr (gBq _)) h.2⟩
theorem ord1_any {w:World} {x y:Va} {u v:Value} (hx:LiesV (fun _=>True) w x u) (hy:LiesV (fun _=>True) w y v) (W:World) :
 Calls Tryz.prog 96 #[u,v] W fun e w'=>e = .returned (.int .i64 (ordC x y)) /\ W.grownBy w' none:=by
 obtain ⟨aa,ac,ta,tc,na,nc,_,_,_,rfl,_,_,_,_⟩:=hx.inv
 obtain ⟨aa2,ac2,ta2,tc2,na2,nc2,_,_,_,rfl,_,_,_,_⟩:=hy.inv
 clear hx hy
 have HO:=jh or2_any
 have hr:ordC x y = if cmpI x.n y.n ≠ 0 then cmpI x.n y.n else cmpS x.s y.s:=rfl
 rw [hr]
 have H1:=jh (fun w=>cmpI_any x.n y.n w)
 have H2:=jh (fun w=>cmpS_any x.s y.s w)
 clear hr
 generalize cmpI x.n y.n = c1 at *
 generalize cmpS x.s y.s = c2 at *
 unfold vaV
 generalize hr:(if c1 ≠ 0 then c1 else c2) = r
 have HR:=jh hr
 clear hr HO
 have HO:Hid (∀ (w0:World) (T:TypeId) (H:Nat),w0.heap.size = H -> Calls Tryz.prog 97 #[.slice (some ⟨H,0,none⟩) 2 2] (w0.alloc (.cells #[.int .i64 c1,.int .i64 c2] T)).drew fun e w'=>e = .returned (.int .i64 r) /\ w0.grownBy w' none):=fun w0 T H hH=>by
  rw [← HR.out];exact or2_new w0 T c1 c2 H hH
 clear HR
 go_enter Tryz.func96,Tryz.ntmps96
 go_wp2_with fail
 have hbx:((W.alloc (.cells #[.int .i64 x.k,.int .i64 x.n,.int .i64 x.a,.string x.s,.slice aa x.args.length ac,.slice ta x.types.length tc,.slice na x.code.length nc] 28)).alloc (.cells #[.int .i64 y.k,.int .i64 y.n,.int .i64 y.a,.string y.s,.slice aa2 y.args.length ac2,.slice ta2 y.types.length tc2,.slice na2 y.code.length nc2] 28)).heap[W.heap.size]? = some (.cells #[.int .i64 x.k,.int .i64 x.n,.int .i64 x.a,.string x.s,.slice aa x.args.length ac,.slice ta x.types.length tc,.slice na x.code.length nc] 28 (0,0)):=rNw _ _ _
 have hby:((W.alloc (.cells #[.int .i64 x.k,.int .i64 x.n,.int .i64 x.a,.string x.s,.slice aa x.args.length ac,.slice ta x.types.length tc,.slice na x.code.length nc] 28)).alloc (.cells #[.int .i64 y.k,.int .i64 y.n,.int .i64 y.a,.string y.s,.slice aa2 y.args.length ac2,.slice ta2 y.types.length tc2,.slice na2 y.code.length nc2] 28)).heap[W.heap.size + 1]? = some (.cells #[.int .i64 y.k,.int .i64 y.n,.int .i64 y.a,.string y.s,.slice aa2 y.args.length ac2,.slice ta2 y.types.length tc2,.slice na2 y.code.length nc2] 28 (0,0)):=by
  have:=heap_alloc_new (W.alloc (.cells #[.int .i64 x.k,.int .i64 x.n,.int .i64 x.a,.string x.s,.slice aa x.args.length ac,.slice ta x.types.length tc,.slice na x.code.length nc] 28)) (.cells #[.int .i64 y.k,.int .i64 y.n,.int .i64 y.a,.string y.s,.slice aa2 y.args.length ac2,.slice ta2 y.types.length tc2,.slice na2 y.code.length nc2] 28)
  rwa [show (W.alloc (.cells #[.int .i64 x.k,.int .i64 x.n,.int .i64 x.a,.string x.s,.slice aa x.args.length ac,.slice ta x.types.length tc,.slice na x.code.length nc] 28)).heap.size = W.heap.size + 1 from by simp] at this
 have hgW:W.grownBy ((W.alloc (.cells #[.int .i64 x.k,.int .i64 x.n,.int .i64 x.a,.string x.s,.slice aa x.args.length ac,.slice ta x.types.length tc,.slice na x.code.length nc] 28)).alloc (.cells #[.int .i64 y.k,.int .i64 y.n,.int .i64 y.a,.string y.s,.slice aa2 y.args.length ac2,.slice ta2 y.types.length tc2,.slice na2 y.code.length nc2] 28)) none:=gTq (gBq _) (gBq _)
 generalize (W.alloc (.cells #[.int .i64 x.k,.int .i64 x.n,.int .i64 x.a,.string x.s,.slice aa x.args.length ac,.slice ta x.types.length tc,.slice na x.code.length nc] 28)).alloc (.cells #[.int .i64 y.k,.int .i64 y.n,.int .i64 y.a,.string y.s,.slice aa2 y.args.length ac2,.slice ta2 y.types.length tc2,.slice na2 y.code.length nc2] 28) = W2 at *
 have keepx:∀ W3:World,W2.grownBy W3 none -> W3.heap[W.heap.size]? = _:=fun W3 h=>(h.block _ (Array.getElem?_eq_some_iff.1 hbx).1 (by simp)).trans hbx
 have keepy:∀ W3:World,W2.grownBy W3 none -> W3.heap[W.heap.size + 1]? = _:=fun W3 h=>(h.block _ (Array.getElem?_eq_some_iff.1 hby).1 (by simp)).trans hby
 have c1x:∀ W3:World,W2.grownBy W3 none -> W3.cell? ⟨W.heap.size,1,none⟩ = some (.int .i64 x.n):=fun W3 h=>(box7 (keepx W3 h)).2.1
 have c3x:∀ W3:World,W2.grownBy W3 none -> W3.cell? ⟨W.heap.size,3,none⟩ = some (.string x.s):=fun W3 h=>(box7 (keepx W3 h)).2.2.2.1
 have c1y:∀ W3:World,W2.grownBy W3 none -> W3.cell? ⟨W.heap.size + 1,1,none⟩ = some (.int .i64 y.n):=fun W3 h=>(box7 (keepy W3 h)).2.1
 have c3y:∀ W3:World,W2.grownBy W3 none -> W3.cell? ⟨W.heap.size + 1,3,none⟩ = some (.string y.s):=fun W3 h=>(box7 (keepy W3 h)).2.2.2.1
 have HGW:=jh hgW
 clear keepx keepy hbx hby hgW
 go_region_held3 (fun w'=>W2.grownBy w' none) (first | assumption | exact gDr (gRf _ _) | exact gTq (by assumption) (gBq _)) (first
  | (go_at_call 33;refine (H1.out _).mono ?_;rintro e w' ⟨rfl,rfl⟩)
  | (go_at_call 98;refine (H2.out _).mono ?_;rintro e w' ⟨rfl,rfl⟩)
  | (go_at_call 97;refine (HO.out _ _ _ (by simp)).mono ?_;rintro e w' ⟨rfl,hg⟩))
 all_goals
  go_wp2_with fail
  go_ret
  exact ⟨rfl,gTq HGW.out (by assumption)⟩
end Go.Proofs.YtkglnoimbekhhaaGreat
