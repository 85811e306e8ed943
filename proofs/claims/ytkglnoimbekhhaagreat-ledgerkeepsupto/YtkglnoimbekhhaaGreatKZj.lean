/- For every ledger and three numbers whose reading holds at most 1048576 values and letters, LedgerKeeps returns true and leaves its arguments as they were. Condition: that bound on the reading. -/
import Derived.Test.YtkglnoimbekhhaaGreatKZa
import Derived.Deep.Slices
import Derived.Lib.SmallJoins
import Derived.Test.YtkglnoimbekhhaaGreatKZy
import Derived.OpenShut
import Derived.Test.YtkglnoimbekhhaaGreatRows
import Derived.Test.YtkglnoimbekhhaaGreatKLedT
import Derived.JoinedCond
namespace Go.Proofs.YtkglnoimbekhhaaGreat
set_option maxRecDepth 100000
set_option maxHeartbeats 4000000
open Go.ChangeShapes Go.WideShapes Go.ChangeAt Go.RowKit
set_option linter.unusedVariables false
theorem cells_ty:Tryz.prog.cellsOf 24 = 2:=by kernel_rfl
theorem cells_int:Tryz.prog.cellsOf 3 = 1:=by kernel_rfl
theorem cells_tys:Tryz.prog.cellsOf 22 = 1:=by kernel_rfl
theorem i64_ofT {n:Int} (h:(Lit.int .i64 n).wf = true):I64 n:=by
 simpa [Lit.wf,IntKind.min,IntKind.max,IntKind.signed,IntKind.bits,I64] using h
theorem bulk_snoc {H:Type} : ∀ (l:List (DataW H)) (x:DataW H),Rows.uptoBulkAll (l ++ [x]) = Rows.uptoBulkAll l + Rows.uptoBulk x:=by
 intro l x
 induction l with
 | nil=>simp [Rows.uptoBulkAll]
 | cons y l ihl=>simp [Rows.uptoBulkAll,ihl];omega
theorem tysizes_range {H:Type} (T:Nat -> Ty) (D:Nat -> DataW H):∀ (n:Nat),(∀ i,i < n -> (T i).size <= Rows.uptoBulk (D i)) -> tysizes ((List.range n).map T) <= Rows.uptoBulkAll ((List.range n).map D)
 | 0,_=>by simp [tysizes,Rows.uptoBulkAll]
 | n + 1,h=>by
  have ih:=tysizes_range T D n (fun i hi=>h i (by omega))
  have hn:=h n (by omega)
  rw [List.range_succ,List.map_append,List.map_append,tysizes_append,List.map_singleton,List.map_singleton,bulk_snoc]
  simp only [tysizes]
  omega
theorem bulk_elemT {H:Type} (D:Nat -> DataW H) (n i:Nat) (h:i < n):Rows.uptoBulk (D i) <= Rows.uptoBulkAll ((List.range n).map D):=by
 induction n with
 | zero=>omega
 | succ n ih =>
  rw [List.range_succ,List.map_append,List.map_singleton,bulk_snoc]
  by_cases hi:i = n
  ·subst hi;omega
  ·have:=ih (by omega);omega
theorem liesT_leaf {ok:Nat -> Prop} {w:World} {t:Int} {c:Nat} (it:I64 t):LiesT ok w (.nd t []) (tyV t none 0 c):=LiesT.of (V:=fun _=>.int .i64 0) it (RowT.nil _ _ _ _) (Nat.zero_le _)
theorem open_type {H:Type} {enc:TypeId × Value -> H} {W:World} (N:Nat):∀ (fuel:Nat) (cs:List Value) (d:DataW H) (ps:List MemPlace),Rows.uptoBulk d <= N -> DataW.trod enc Tryz.prog W 0 (fun _=>true) true fuel 24 cs = some (d,ps) ->
 ∃ k a l c t,cs = [.int .i64 k,.slice a l c] /\ LiesT (fun _=>True) W t (tyV k a l c) /\ t.size <= Rows.uptoBulk d:=by
 haveI:Inhabited Ty:=⟨.nd 0 []⟩
 induction N with
 | zero =>
  intro fuel cs d ps hN h
  obtain ⟨xs,n,_,hx,_⟩:=DataW.trod_struct Tryz.underlying24 h
  simp only [Prod.mk.injEq] at hx
  rw [hx.1] at hN
  simp [Rows.uptoBulk] at hN
 | succ N ih =>
  intro fuel cs d ps hN h
  obtain ⟨xs,f,_,hx,hlen,hxl,hf⟩:=DataW.trod_struct Tryz.underlying24 h
  rw [cells_ty] at hlen
  match xs,hxl,cs,hlen with
  | [y0,y1],_,[v0,v1],_ =>
   have g0:=hf 0 _ rfl
   have g1:=hf 1 _ rfl
   simp [cells_int,cells_tys] at g0 g1
   obtain ⟨k,e0,x0,i0⟩:=DataW.trod_int Tryz.underlying3 g0
   simp only [List.cons.injEq,and_true] at e0
   subst e0;subst x0
   simp only [Prod.mk.injEq] at hx
   obtain ⟨rfl,_⟩:=hx
   rcases Go.Deep.open_slice Tryz.underlying22 g1 with ⟨e4,x4⟩ | ⟨a,len,cap,m,nf,D,Pl,e4,_,hl,hm,hmm,x4,hel⟩
   ·simp only [List.cons.injEq,and_true] at e4
    subst e4
    refine ⟨k,none,0,0,.nd k [],rfl,liesT_leaf (i64_ofT i0),?_⟩
    simp [Ty.size,tysizes,Rows.uptoBulk]
   ·simp only [List.cons.injEq,and_true] at e4
    subst e4;subst x4
    simp only [if_true] at hmm
    subst hmm
    rw [cells_ty] at hel
    simp only [List.map_cons,List.map_nil,Rows.uptoBulk,Rows.uptoBulkAll] at hN ⊢
    have hbk:∀ i,i < len -> Rows.uptoBulk (D i) <= N:=fun i hi=>by have:=bulk_elemT D len i hi;omega
    obtain ⟨q,hq⟩:=Go.Deep.choose_lt (α:=Ty × Value) (n:=len) (p:=fun i x=>LiesT (fun _=>True) W x.1 x.2 /\ x.1.size <= Rows.uptoBulk (D i) /\
     ∃ k a' l c,x.2 = tyV k a' l c /\ W.cells? 0 (a.add (i * 2)) 2 = some [.int .i64 k,.slice a' l c]) (fun i hi=>by
     obtain ⟨cs',h1,h2⟩:=hel i (by omega)
     obtain ⟨k,a',l,c,t,rfl,hL,hs⟩:=ih nf cs' (D i) (Pl i) (hbk i hi) h2
     exact ⟨(t,tyV k a' l c),hL,hs,k,a',l,c,rfl,h1⟩)
    have hargs:((List.range len).map fun i=>(q i).1).length = len:=by simp
    have hL:=LiesT.mk (ok:=fun _=>True) (w:=W) (t:=k) (args:=(List.range len).map fun i=>(q i).1) (a:=some a) (c:=m) (fun i=>(q i).2) (by rw [hargs];omega) (by rw [hargs];omega) (i64_ofT i0)
     (fun i hi=>by
      rw [hargs] at hi
      obtain ⟨_,_,k',a',l',c',hv,hcs⟩:=hq i hi
      obtain ⟨_,_,hcell⟩:=World.cells?_some hcs
      obtain ⟨b,o,sp⟩:=a
      have h0:sp = none:=by
       obtain ⟨_,_,k0,a0,l0,c0,_,hcs0⟩:=hq 0 (by omega)
       obtain ⟨_,_,hcell0⟩:=World.cells?_some hcs0
       have:=hcell0 0 (by omega)
       simp [Addr.add] at this
       exact World.cell?_spot this
      subst h0
      have hadd:∀ x,(⟨b,o,none⟩:Addr).add x = ⟨b,o + x,none⟩:=fun x=>by unfold Addr.add;split <;> simp_all
      rw [hadd] at hcell
      refine ⟨b,o,rfl,trivial,k',a',l',c',hv,?_,?_⟩
      ·have:=hcell 0 (by omega);simpa [Addr.add] using this
      ·have:=hcell 1 (by omega);simpa [Addr.add] using this)
     (fun i hi=>by
      rw [hargs] at hi
      simpa using (hq i hi).1)
    rw [hargs] at hL
    refine ⟨k,some a,len,m,_,rfl,hL,?_⟩
    have hsz:=tysizes_range (fun i=>(q i).1) D len (fun i hi=>(hq i hi).2.1)
    rw [Ty.size]
    omega
theorem cells24:Tryz.prog.cellsOf 48 = 5:=by kernel_rfl
theorem cells3:Tryz.prog.cellsOf 3 = 1:=by kernel_rfl
theorem cells9:Tryz.prog.cellsOf 9 = 1:=by kernel_rfl
theorem cells22:Tryz.prog.cellsOf 25 = 1:=by kernel_rfl
theorem i64_of {n:Int} (h:(Lit.int .i64 n).wf = true):I64 n:=by
 simpa [Lit.wf,IntKind.min,IntKind.max,IntKind.signed,IntKind.bits,I64] using h
theorem sizes_range {H:Type} (T:Nat -> Tr) (D:Nat -> DataW H):∀ (n:Nat),(∀ i,i < n -> (T i).size <= Rows.uptoBulk (D i)) -> sizes ((List.range n).map T) <= Rows.uptoBulkAll ((List.range n).map D)
 | 0,_=>by simp [sizes,Rows.uptoBulkAll]
 | n + 1,h=>by
  have ih:=sizes_range T D n (fun i hi=>h i (by omega))
  have hn:=h n (by omega)
  have e:∀ (l:List (DataW H)) (x:DataW H),Rows.uptoBulkAll (l ++ [x]) = Rows.uptoBulkAll l + Rows.uptoBulk x:=by
   intro l x
   induction l with
   | nil=>simp [Rows.uptoBulkAll]
   | cons y l ihl=>simp [Rows.uptoBulkAll,ihl];omega
  rw [List.range_succ,List.map_append,List.map_append,sizes_append,List.map_singleton,List.map_singleton,e]
  simp only [sizes]
  omega
theorem bulk_elem {H:Type} (D:Nat -> DataW H) (n i:Nat) (h:i < n):Rows.uptoBulk (D i) <= Rows.uptoBulkAll ((List.range n).map D):=by
 induction n with
 | zero=>omega
 | succ n ih =>
  have e:∀ (l:List (DataW H)) (x:DataW H),Rows.uptoBulkAll (l ++ [x]) = Rows.uptoBulkAll l + Rows.uptoBulk x:=by
   intro l x
   induction l with
   | nil=>simp [Rows.uptoBulkAll]
   | cons y l ihl=>simp [Rows.uptoBulkAll,ihl];omega
  rw [List.range_succ,List.map_append,List.map_singleton,e]
  by_cases hi:i = n
  ·subst hi;omega
  ·have:=ih (by omega);omega
theorem lies_leafO {ok:Nat -> Prop} {w:World} {k n p:Int} {s:ByteArray} (hs:s.size <= maxLen) (hk:I64 k) (hn:I64 n) (hp:I64 p):Lies ok w (.nd k n p s []) (nodeV k n p s none 0 0) :=
 Lies.mk (hk:=Nat.zero_le _) (args:=[]) (fun _=>.int .i64 0) (by simp) hs hk hn hp (fun i hi=>by simp at hi) (fun i hi=>by simp at hi)
theorem open_node {H:Type} {enc:TypeId × Value -> H} {W:World} (N:Nat):∀ (fuel:Nat) (cs:List Value) (d:DataW H) (ps:List MemPlace),Rows.uptoBulk d <= N -> DataW.trod enc Tryz.prog W 0 (fun _=>true) true fuel 48 cs = some (d,ps) ->
 ∃ k n p s a l c t,cs = [.int .i64 k,.int .i64 n,.int .i64 p,.string s,.slice a l c] /\ Lies (fun _=>True) W t (nodeV k n p s a l c) /\ t.size <= Rows.uptoBulk d:=by
 haveI:Inhabited Tr:=⟨.nd 0 0 0 ⟨#[]⟩ []⟩
 induction N with
 | zero =>
  intro fuel cs d ps hN h
  obtain ⟨xs,n,_,hx,_⟩:=DataW.trod_struct Tryz.underlying48 h
  simp only [Prod.mk.injEq] at hx
  rw [hx.1] at hN
  simp [Rows.uptoBulk] at hN
 | succ N ih =>
  intro fuel cs d ps hN h
  obtain ⟨xs,f,_,hx,hlen,hxl,hf⟩:=DataW.trod_struct Tryz.underlying48 h
  rw [cells24] at hlen
  match xs,hxl,cs,hlen with
  | [y0,y1,y2,y3,y4],_,[v0,v1,v2,v3,v4],_ =>
   have g0:=hf 0 _ rfl
   have g1:=hf 1 _ rfl
   have g2:=hf 2 _ rfl
   have g3:=hf 3 _ rfl
   have g4:=hf 4 _ rfl
   simp [cells3,cells9,cells22] at g0 g1 g2 g3 g4
   obtain ⟨k,e0,x0,i0⟩:=DataW.trod_int Tryz.underlying3 g0
   obtain ⟨n,e1,x1,i1⟩:=DataW.trod_int Tryz.underlying3 g1
   obtain ⟨p,e2,x2,i2⟩:=DataW.trod_int Tryz.underlying3 g2
   obtain ⟨s,e3,x3,i3⟩:=DataW.trod_string Tryz.underlying9 g3
   simp only [List.cons.injEq,and_true] at e0 e1 e2 e3
   subst e0;subst e1;subst e2;subst e3;subst x0;subst x1;subst x2;subst x3
   simp only [Prod.mk.injEq] at hx
   obtain ⟨rfl,_⟩:=hx
   rcases Go.Deep.open_slice Tryz.underlying25 g4 with ⟨e4,x4⟩ | ⟨a,len,cap,m,nf,D,Pl,e4,_,hl,hm,hmm,x4,hel⟩
   ·simp only [List.cons.injEq,and_true] at e4
    subst e4
    refine ⟨k,n,p,s,none,0,0,.nd k n p s [],rfl,lies_leafO i3 (i64_of i0) (i64_of i1) (i64_of i2),?_⟩
    simp [Tr.size,sizes,Rows.uptoBulk]
   ·simp only [List.cons.injEq,and_true] at e4
    subst e4;subst x4
    simp only [if_true] at hmm
    subst hmm
    rw [cells24] at hel
    simp only [List.map_cons,List.map_nil,Rows.uptoBulk,Rows.uptoBulkAll] at hN ⊢
    have hbk:∀ i,i < len -> Rows.uptoBulk (D i) <= N:=fun i hi=>by have:=bulk_elem D len i hi;omega
    obtain ⟨q,hq⟩:=Go.Deep.choose_lt (α:=Tr × Value) (n:=len) (p:=fun i x=>Lies (fun _=>True) W x.1 x.2 /\ x.1.size <= Rows.uptoBulk (D i) /\
     ∃ k n p s a' l c,x.2 = nodeV k n p s a' l c /\ W.cells? 0 (a.add (i * 5)) 5 = some [.int .i64 k,.int .i64 n,.int .i64 p,.string s,.slice a' l c]) (fun i hi=>by
     obtain ⟨cs',h1,h2⟩:=hel i (by omega)
     obtain ⟨k,n,p,s,a',l,c,t,rfl,hL,hs⟩:=ih nf cs' (D i) (Pl i) (hbk i hi) h2
     exact ⟨(t,nodeV k n p s a' l c),hL,hs,k,n,p,s,a',l,c,rfl,h1⟩)
    have hargs:((List.range len).map fun i=>(q i).1).length = len:=by simp
    have hL:=Lies.mk (hk:=by rw [hargs];omega) (ok:=fun _=>True) (w:=W) (k:=k) (n:=n) (p:=p) (s:=s) (args:=(List.range len).map fun i=>(q i).1) (a:=some a) (c:=m) (fun i=>(q i).2) (by rw [hargs];omega) i3 (i64_of i0) (i64_of i1) (i64_of i2)
     (fun i hi=>by
      rw [hargs] at hi
      obtain ⟨_,_,k',n',p',s',a',l',c',hv,hcs⟩:=hq i hi
      obtain ⟨_,_,hcell⟩:=World.cells?_some hcs
      obtain ⟨b,o,sp⟩:=a
      have h0:sp = none:=by
       obtain ⟨_,_,k0,n0,p0,s0,a0,l0,c0,_,hcs0⟩:=hq 0 (by omega)
       obtain ⟨_,_,hcell0⟩:=World.cells?_some hcs0
       have:=hcell0 0 (by omega)
       simp [Addr.add] at this
       exact World.cell?_spot this
      subst h0
      have hadd:∀ x,(⟨b,o,none⟩:Addr).add x = ⟨b,o + x,none⟩:=fun x=>by unfold Addr.add;split <;> simp_all
      rw [hadd] at hcell
      refine ⟨b,o,rfl,trivial,k',n',p',s',a',l',c',hv,?_,?_,?_,?_,?_⟩
      ·have:=hcell 0 (by omega);simpa [Addr.add] using this
      ·have:=hcell 1 (by omega);simpa [Addr.add] using this
      ·have:=hcell 2 (by omega);simpa [Addr.add] using this
      ·have:=hcell 3 (by omega);simpa [Addr.add] using this
      ·have:=hcell 4 (by omega);simpa [Addr.add] using this)
     (fun i hi=>by
      rw [hargs] at hi
      simpa using (hq i hi).1)
    rw [hargs] at hL
    refine ⟨k,n,p,s,some a,len,m,_,rfl,hL,?_⟩
    have hsz:=sizes_range (fun i=>(q i).1) D len (fun i hi=>(hq i hi).2.1)
    rw [Tr.size]
    omega
theorem cells_va:Tryz.prog.cellsOf 28 = 7:=by kernel_rfl
theorem cells_vas:Tryz.prog.cellsOf 26 = 1:=by kernel_rfl
theorem open_rowT {H:Type} {enc:TypeId × Value -> H} {W:World} {fuel:Nat} {v:Value} {d:DataW H} {ps:List MemPlace} (h:DataW.trod enc Tryz.prog W 0 (fun _=>true) true fuel 22 [v] = some (d,ps)) :
 ∃ a l c ts V,v = .slice a l c /\ (ts.length = l /\ l <= c) /\ RowT (fun _=>True) W ts a V /\ tysizes ts <= Rows.uptoBulk d:=by
 haveI:Inhabited Ty:=⟨.nd 0 []⟩
 rcases Go.Deep.open_slice Tryz.underlying22 h with ⟨e4,x4⟩ | ⟨a,len,cap,m,nf,D,Pl,e4,_,hl,hm,hmm,x4,hel⟩
 ·simp only [List.cons.injEq,and_true] at e4
  subst e4
  exact ⟨none,0,0,[],fun _=>.int .i64 0,rfl,⟨rfl,Nat.le_refl _⟩,RowT.nil _ _ _ _,by simp [tysizes]⟩
 ·simp only [List.cons.injEq,and_true] at e4
  simp only [Prod.mk.injEq] at x4
  subst e4
  obtain ⟨rfl,_⟩:=x4
  simp only [if_true] at hmm
  subst hmm
  rw [cells_ty] at hel
  obtain ⟨q,hq⟩:=Go.Deep.choose_lt (α:=Ty × Value) (n:=len) (p:=fun i x=>LiesT (fun _=>True) W x.1 x.2 /\ x.1.size <= Rows.uptoBulk (D i) /\
   ∃ k a' l c,x.2 = tyV k a' l c /\ W.cells? 0 (a.add (i * 2)) 2 = some [.int .i64 k,.slice a' l c]) (fun i hi=>by
   obtain ⟨cs',h1,h2⟩:=hel i (by omega)
   obtain ⟨k,a',l,c,t,rfl,hL,hs⟩:=open_type _ nf cs' (D i) (Pl i) (Nat.le_refl _) h2
   exact ⟨(t,tyV k a' l c),hL,hs,k,a',l,c,rfl,h1⟩)
  have hargs:((List.range len).map fun i=>(q i).1).length = len:=by simp
  refine ⟨some a,len,m,(List.range len).map fun i=>(q i).1,fun i=>(q i).2,rfl,⟨hargs,by omega⟩,⟨by rw [hargs];omega,fun i hi=>?_,fun i hi=>?_⟩,?_⟩
  ·rw [hargs] at hi
   obtain ⟨_,_,k,a',l,c,hv,hcs⟩:=hq i hi
   obtain ⟨_,_,hcell⟩:=World.cells?_some hcs
   obtain ⟨bb,oo,sp⟩:=a
   have h0:sp = none:=by
    obtain ⟨_,_,h00⟩:=hq 0 (by omega)
    obtain ⟨_,_,_,_,_,hcs0⟩:=h00
    obtain ⟨_,_,hcell0⟩:=World.cells?_some hcs0
    have:=hcell0 0 (by omega)
    simp [Addr.add] at this
    exact World.cell?_spot this
   subst h0
   have hadd:∀ x,(⟨bb,oo,none⟩:Addr).add x = ⟨bb,oo + x,none⟩:=fun x=>by unfold Addr.add;split <;> simp_all
   rw [hadd] at hcell
   refine ⟨bb,oo,rfl,trivial,k,a',l,c,hv,?_,?_⟩
   ·have:=hcell 0 (by omega);simpa [Addr.add] using this
   ·have:=hcell 1 (by omega);simpa [Addr.add] using this
  ·rw [hargs] at hi
   simpa using (hq i hi).1
  ·have hsz:=tysizes_range (fun i=>(q i).1) D len (fun i hi=>(hq i hi).2.1)
   simp only [Rows.uptoBulk]
   omega
theorem open_rowN {H:Type} {enc:TypeId × Value -> H} {W:World} {fuel:Nat} {v:Value} {d:DataW H} {ps:List MemPlace} (h:DataW.trod enc Tryz.prog W 0 (fun _=>true) true fuel 25 [v] = some (d,ps)) :
 ∃ a l c ts V,v = .slice a l c /\ (ts.length = l /\ l <= c) /\ RowN (fun _=>True) W ts a V /\ sizes ts <= Rows.uptoBulk d:=by
 haveI:Inhabited Tr:=⟨.nd 0 0 0 ⟨#[]⟩ []⟩
 rcases Go.Deep.open_slice Tryz.underlying25 h with ⟨e4,x4⟩ | ⟨a,len,cap,m,nf,D,Pl,e4,_,hl,hm,hmm,x4,hel⟩
 ·simp only [List.cons.injEq,and_true] at e4
  subst e4
  exact ⟨none,0,0,[],fun _=>.int .i64 0,rfl,⟨rfl,Nat.le_refl _⟩,RowN.nil _ _ _ _,by simp [sizes]⟩
 ·simp only [List.cons.injEq,and_true] at e4
  simp only [Prod.mk.injEq] at x4
  subst e4
  obtain ⟨rfl,_⟩:=x4
  simp only [if_true] at hmm
  subst hmm
  rw [cells24] at hel
  obtain ⟨q,hq⟩:=Go.Deep.choose_lt (α:=Tr × Value) (n:=len) (p:=fun i x=>Lies (fun _=>True) W x.1 x.2 /\ x.1.size <= Rows.uptoBulk (D i) /\
   ∃ k n p s a' l c,x.2 = nodeV k n p s a' l c /\ W.cells? 0 (a.add (i * 5)) 5 = some [.int .i64 k,.int .i64 n,.int .i64 p,.string s,.slice a' l c]) (fun i hi=>by
   obtain ⟨cs',h1,h2⟩:=hel i (by omega)
   obtain ⟨k,n,p,s,a',l,c,t,rfl,hL,hs⟩:=open_node _ nf cs' (D i) (Pl i) (Nat.le_refl _) h2
   exact ⟨(t,nodeV k n p s a' l c),hL,hs,k,n,p,s,a',l,c,rfl,h1⟩)
  have hargs:((List.range len).map fun i=>(q i).1).length = len:=by simp
  refine ⟨some a,len,m,(List.range len).map fun i=>(q i).1,fun i=>(q i).2,rfl,⟨hargs,by omega⟩,⟨by rw [hargs];omega,fun i hi=>?_,fun i hi=>?_⟩,?_⟩
  ·rw [hargs] at hi
   obtain ⟨_,_,k,n,p,s,a',l,c,hv,hcs⟩:=hq i hi
   obtain ⟨_,_,hcell⟩:=World.cells?_some hcs
   obtain ⟨bb,oo,sp⟩:=a
   have h0:sp = none:=by
    obtain ⟨_,_,h00⟩:=hq 0 (by omega)
    obtain ⟨_,_,_,_,_,_,_,_,hcs0⟩:=h00
    obtain ⟨_,_,hcell0⟩:=World.cells?_some hcs0
    have:=hcell0 0 (by omega)
    simp [Addr.add] at this
    exact World.cell?_spot this
   subst h0
   have hadd:∀ x,(⟨bb,oo,none⟩:Addr).add x = ⟨bb,oo + x,none⟩:=fun x=>by unfold Addr.add;split <;> simp_all
   rw [hadd] at hcell
   refine ⟨bb,oo,rfl,trivial,k,n,p,s,a',l,c,hv,?_,?_,?_,?_,?_⟩
   ·have:=hcell 0 (by omega);simpa [Addr.add] using this
   ·have:=hcell 1 (by omega);simpa [Addr.add] using this
   ·have:=hcell 2 (by omega);simpa [Addr.add] using this
   ·have:=hcell 3 (by omega);simpa [Addr.add] using this
   ·have:=hcell 4 (by omega);simpa [Addr.add] using this
  ·rw [hargs] at hi
   simpa using (hq i hi).1
  ·have hsz:=sizes_range (fun i=>(q i).1) D len (fun i hi=>(hq i hi).2.1)
   simp only [Rows.uptoBulk]
   omega
theorem vsizes_range {H:Type} (T:Nat -> Va) (D:Nat -> DataW H):∀ (n:Nat),(∀ i,i < n -> (T i).size <= Rows.uptoBulk (D i)) -> vsizes ((List.range n).map T) <= Rows.uptoBulkAll ((List.range n).map D)
 | 0,_=>by simp [vsizes,Rows.uptoBulkAll]
 | n + 1,h=>by
  have ih:=vsizes_range T D n (fun i hi=>h i (by omega))
  have hn:=h n (by omega)
  rw [List.range_succ,List.map_append,List.map_append,vsizes_append,List.map_singleton,List.map_singleton,bulk_snoc]
  simp only [vsizes]
  omega
theorem open_value {H:Type} {enc:TypeId × Value -> H} {W:World} (N:Nat):∀ (fuel:Nat) (cs:List Value) (d:DataW H) (ps:List MemPlace),Rows.uptoBulk d <= N -> DataW.trod enc Tryz.prog W 0 (fun _=>true) true fuel 28 cs = some (d,ps) ->
 ∃ k n a s aa al ac ta tl tc na nl nc t,cs = [.int .i64 k,.int .i64 n,.int .i64 a,.string s,.slice aa al ac,.slice ta tl tc,.slice na nl nc] /\ LiesV (fun _=>True) W t (vaV k n a s aa al ac ta tl tc na nl nc) /\ t.size <= Rows.uptoBulk d:=by
 haveI:Inhabited Va:=⟨.mk 0 0 0 ⟨#[]⟩ [] [] []⟩
 induction N with
 | zero =>
  intro fuel cs d ps hN h
  obtain ⟨xs,n,_,hx,_⟩:=DataW.trod_struct Tryz.underlying28 h
  simp only [Prod.mk.injEq] at hx
  rw [hx.1] at hN
  simp [Rows.uptoBulk] at hN
 | succ N ih =>
  intro fuel cs d ps hN h
  obtain ⟨xs,f,_,hx,hlen,hxl,hf⟩:=DataW.trod_struct Tryz.underlying28 h
  rw [cells_va] at hlen
  match xs,hxl,cs,hlen with
  | [y0,y1,y2,y3,y4,y5,y6],_,[v0,v1,v2,v3,v4,v5,v6],_ =>
   have g0:=hf 0 _ rfl
   have g1:=hf 1 _ rfl
   have g2:=hf 2 _ rfl
   have g3:=hf 3 _ rfl
   have g4:=hf 4 _ rfl
   have g5:=hf 5 _ rfl
   have g6:=hf 6 _ rfl
   simp [cells3,cells9,cells_vas,cells_tys,cells22] at g0 g1 g2 g3 g4 g5 g6
   obtain ⟨k,e0,x0,i0⟩:=DataW.trod_int Tryz.underlying3 g0
   obtain ⟨n,e1,x1,i1⟩:=DataW.trod_int Tryz.underlying3 g1
   obtain ⟨a,e2,x2,i2⟩:=DataW.trod_int Tryz.underlying3 g2
   obtain ⟨s,e3,x3,i3⟩:=DataW.trod_string Tryz.underlying9 g3
   simp only [List.cons.injEq,and_true] at e0 e1 e2 e3
   subst e0;subst e1;subst e2;subst e3;subst x0;subst x1;subst x2;subst x3
   obtain ⟨ta,tl,tc,types,VT,rfl,⟨htl,htk⟩,hRT,hsT⟩:=open_rowT g5
   obtain ⟨na,nl,nc,code,VN,rfl,⟨hnl,hnk⟩,hRN,hsN⟩:=open_rowN g6
   subst htl;subst hnl
   simp only [Prod.mk.injEq] at hx
   obtain ⟨rfl,_⟩:=hx
   rcases Go.Deep.open_slice Tryz.underlying26 g4 with ⟨e4,x4⟩ | ⟨aa,len,cap,m,nf,D,Pl,e4,_,hl,hm,hmm,x4,hel⟩
   ·simp only [List.cons.injEq,and_true] at e4
    subst e4
    refine ⟨k,n,a,s,none,0,0,ta,types.length,tc,na,code.length,nc,.mk k n a s [] types code,rfl,LiesV.of (args:=[]) (V:=fun _=>.int .i64 0) (Nat.zero_le _) i3 (i64_of i0) (i64_of i1) (i64_of i2) (RowVa.nil _ _ _ _) hRT hRN ⟨by assumption,by assumption⟩,?_⟩
    simp [Va.size,vsizes,Rows.uptoBulk,Rows.uptoBulkAll] at hsT hsN ⊢
    omega
   ·simp only [List.cons.injEq,and_true] at e4
    subst e4;subst x4
    simp only [if_true] at hmm
    subst hmm
    rw [cells_va] at hel
    simp only [List.map_cons,List.map_nil,Rows.uptoBulk,Rows.uptoBulkAll] at hN ⊢
    have hbk:∀ i,i < len -> Rows.uptoBulk (D i) <= N:=fun i hi=>by have:=bulk_elem D len i hi;omega
    obtain ⟨q,hq⟩:=Go.Deep.choose_lt (α:=Va × Value) (n:=len) (p:=fun i x=>LiesV (fun _=>True) W x.1 x.2 /\ x.1.size <= Rows.uptoBulk (D i) /\
     ∃ k n a s ya al ac ta tl tc na nl nc,x.2 = vaV k n a s ya al ac ta tl tc na nl nc /\ W.cells? 0 (aa.add (i * 7)) 7 = some [.int .i64 k,.int .i64 n,.int .i64 a,.string s,.slice ya al ac,.slice ta tl tc,.slice na nl nc]) (fun i hi=>by
     obtain ⟨cs',h1,h2⟩:=hel i (by omega)
     obtain ⟨k,n,a,s,ya,al,ac,ta,tl,tc,na,nl,nc,t,rfl,hL,hs⟩:=ih nf cs' (D i) (Pl i) (hbk i hi) h2
     exact ⟨(t,vaV k n a s ya al ac ta tl tc na nl nc),hL,hs,k,n,a,s,ya,al,ac,ta,tl,tc,na,nl,nc,rfl,h1⟩)
    have hargs:((List.range len).map fun i=>(q i).1).length = len:=by simp
    have hV:RowVa (fun _=>True) W ((List.range len).map fun i=>(q i).1) (some aa) (fun i=>(q i).2):=by
     refine ⟨by rw [hargs];omega,fun i hi=>?_,fun i hi=>?_⟩
     ·rw [hargs] at hi
      obtain ⟨_,_,k',n',a',s',aa',al',ac',ta',tl',tc',na',nl',nc',hv,hcs⟩:=hq i hi
      obtain ⟨_,_,hcell⟩:=World.cells?_some hcs
      obtain ⟨bb,oo,sp⟩:=aa
      have h0:sp = none:=by
       obtain ⟨_,_,h00⟩:=hq 0 (by omega)
       obtain ⟨_,_,_,_,_,_,_,_,_,_,_,_,_,_,hcs0⟩:=h00
       obtain ⟨_,_,hcell0⟩:=World.cells?_some hcs0
       have:=hcell0 0 (by omega)
       simp [Addr.add] at this
       exact World.cell?_spot this
      subst h0
      have hadd:∀ x,(⟨bb,oo,none⟩:Addr).add x = ⟨bb,oo + x,none⟩:=fun x=>by unfold Addr.add;split <;> simp_all
      rw [hadd] at hcell
      refine ⟨bb,oo,rfl,trivial,k',n',a',s',aa',al',ac',ta',tl',tc',na',nl',nc',hv,?_,?_,?_,?_,?_,?_,?_⟩
      ·have:=hcell 0 (by omega);simpa [Addr.add] using this
      ·have:=hcell 1 (by omega);simpa [Addr.add] using this
      ·have:=hcell 2 (by omega);simpa [Addr.add] using this
      ·have:=hcell 3 (by omega);simpa [Addr.add] using this
      ·have:=hcell 4 (by omega);simpa [Addr.add] using this
      ·have:=hcell 5 (by omega);simpa [Addr.add] using this
      ·have:=hcell 6 (by omega);simpa [Addr.add] using this
     ·rw [hargs] at hi
      simpa using (hq i hi).1
    have hL:=LiesV.of (k:=k) (n:=n) (a:=a) (s:=s) (ac:=m) (tc:=tc) (nc:=nc) (by rw [hargs];omega) i3 (i64_of i0) (i64_of i1) (i64_of i2) hV hRT hRN ⟨by assumption,by assumption⟩
    rw [hargs] at hL
    refine ⟨k,n,a,s,some aa,len,m,ta,types.length,tc,na,code.length,nc,_,rfl,hL,?_⟩
    have hsz:=vsizes_range (fun i=>(q i).1) D len (fun i hi=>(hq i hi).2.1)
    rw [Va.size]
    omega
set_option linter.unusedSimpArgs false
theorem cells_acc:Tryz.prog.cellsOf 30 = 15:=by kernel_rfl
theorem cells_accs:Tryz.prog.cellsOf 31 = 180:=by kernel_rfl
theorem cells_led:Tryz.prog.cellsOf 33 = 181:=by kernel_rfl
theorem open_acc {H:Type} {enc:TypeId × Value -> H} {W:World} {fuel:Nat} {cs:List Value} {d:DataW H} {ps:List MemPlace} (h:DataW.trod enc Tryz.prog W 0 (fun _=>true) true fuel 30 cs = some (d,ps)) (hd:Rows.uptoBulk d <= 2000000) :
 ∃ A,AccV W A cs.toArray /\ Small A:=by
 obtain ⟨xs,f,_,hx,hlen,hxl,hf⟩:=DataW.trod_struct Tryz.underlying30 h
 rw [cells_acc] at hlen
 match xs,hxl,cs,hlen with
 | [(d0,p0),(d1,p1),(d2,p2),(d3,p3),(d4,p4),(d5,p5),(d6,p6)],_,[v0,v1,v2,v3,v4,v5,v6,v7,v8,v9,v10,v11,v12,v13,v14],_ =>
  have g0:=hf 0 _ rfl
  have g1:=hf 1 _ rfl
  have g2:=hf 2 _ rfl
  have g3:=hf 3 _ rfl
  have g4:=hf 4 _ rfl
  have g5:=hf 5 _ rfl
  have g6:=hf 6 _ rfl
  simp [cells_int,cells_ty,cells22,cells_va] at g0 g1 g2 g3 g4 g5 g6
  obtain ⟨is,e0,x0,i0⟩:=DataW.trod_int Tryz.underlying3 g0
  obtain ⟨bal,e1,x1,i1⟩:=DataW.trod_int Tryz.underlying3 g1
  obtain ⟨cnt,e2,x2,i2⟩:=DataW.trod_int Tryz.underlying3 g2
  obtain ⟨pt,pa,pl,pc,P,e3,hP,sP⟩:=open_type _ _ _ _ _ (Nat.le_refl _) g3
  obtain ⟨st,sa,sl,sc,S,e4,hS,sS⟩:=open_type _ _ _ _ _ (Nat.le_refl _) g4
  obtain ⟨na,nl,nc,code,VN,rfl,⟨hnl,hnc⟩,hRN,sN⟩:=open_rowN g5
  obtain ⟨k,n,a,s,aa,al,ac,ta,tl,tc,ma,ml,mc,V,e6,hV,sV⟩:=open_value _ _ _ _ _ (Nat.le_refl _) g6
  simp only [List.cons.injEq,and_true] at e0 e1 e2 e3 e4 e6
  obtain ⟨rfl,rfl⟩:=e3
  obtain ⟨rfl,rfl⟩:=e4
  obtain ⟨rfl,rfl,rfl,rfl,rfl,rfl,rfl⟩:=e6
  subst e0;subst e1;subst e2
  simp only [Prod.mk.injEq] at hx
  rw [hx.1] at hd
  simp only [List.map_cons,List.map_nil,Rows.uptoBulk,Rows.uptoBulkAll] at hd
  exact ⟨⟨is,bal,cnt,P,S,code,V⟩,⟨pt,pa,pl,pc,st,sa,sl,sc,na,nl,nc,k,n,a,s,aa,al,ac,ta,tl,tc,ma,ml,mc,VN,rfl,⟨i64_of i0,i64_of i1,i64_of i2⟩,hP,hS,⟨hnl.symm,hnc⟩,hRN,hV⟩,(show P.size <= 2000000 by omega),(show S.size <= 2000000 by omega),(show sizes code <= 2000000 by omega),(show V.size <= 2000000 by omega)⟩
theorem bulk_mem {H:Type} {x:DataW H} : ∀ {l:List (DataW H)},x ∈ l -> Rows.uptoBulk x <= Rows.uptoBulkAll l
 | y :: l,h=>by
  simp only [List.mem_cons] at h
  simp only [Rows.uptoBulkAll]
  rcases h with rfl | h
  ·omega
  ·have:=bulk_mem h;omega
theorem accAt_list (cs:Array Value) (i:Nat) (hi:i < 12):(((cs.toList.take 180).drop (i * 15)).take 15).toArray = accAt cs i:=by
 apply Array.ext'
 rw [accAt,Array.toList_extract,Array.toList_extract,List.extract_eq_take_drop,List.extract_eq_take_drop]
 simp only [Nat.add_sub_cancel_left,Nat.sub_zero,List.drop_zero]
theorem open_led {H:Type} {enc:TypeId × Value -> H} {W:World} {r:Reach} {b0:Nat} {v:Value} {d:DataW H} {p:List MemPlace} (hv:Value.okWide Tryz.prog W r b0 33 v) (h:DataW.Trod enc Tryz.prog W 0 (fun _=>true) true 33 v d p) (hd:Rows.uptoBulk d <= 2000000) :
 ∃ cs L fees,v = .agg cs /\ LedV W L fees cs /\ ∀ i,i < 12 -> Small (L i):=by
 haveI:Inhabited Acc:=⟨⟨0,0,0,.nd 0 [],.nd 0 [],[],.mk 0 0 0 ⟨#[]⟩ [] [] []⟩⟩
 obtain ⟨cs,rfl,hsz⟩:=okWide_struct Tryz.underlying33 hv
 rw [cells_led] at hsz
 obtain ⟨fuel,h⟩:=h
 obtain ⟨xs,f,_,hx,hlen,hxl,hf⟩:=DataW.trod_struct Tryz.underlying33 h
 match xs,hxl with
 | [(d0,p0),(d1,p1)],_ =>
  have g0:=hf 0 _ rfl
  have g1:=hf 1 _ rfl
  simp [cells_int,cells_accs,Value.cells] at g0 g1
  obtain ⟨fees,e1,x1,i1⟩:=DataW.trod_int Tryz.underlying3 g1
  obtain ⟨ys,m,_,hy,_,hyl,hg⟩:=DataW.trod_array Tryz.underlying31 g0
  simp only [Prod.mk.injEq] at hx hy
  rw [hx.1] at hd
  simp only [List.map_cons,List.map_nil,Rows.uptoBulk,Rows.uptoBulkAll,hy.1] at hd
  obtain ⟨L,hL⟩:=Go.Deep.choose_lt (α:=Acc) (n:=12) (p:=fun i A=>AccV W A (accAt cs i) /\ Small A) (fun i hi=>by
   have h1:=hg i hi
   rw [cells_acc,List.getElem?_eq_getElem (by omega)] at h1
   have hb:=bulk_mem (x:=(ys[i]'(by omega)).1) (l:=ys.map (·.1)) (List.mem_map_of_mem (List.getElem_mem _))
   obtain ⟨A,hA,hs⟩:=open_acc (d:=(ys[i]'(by omega)).1) (ps:=(ys[i]'(by omega)).2) h1 (by omega)
   rw [accAt_list cs i hi] at hA
   exact ⟨A,hA,hs⟩)
  refine ⟨cs,L,fees,rfl,⟨hsz,?_,i64_of i1,fun i hi=>(hL i hi).1⟩,fun i hi=>(hL i hi).2⟩
  have:=congrArg (·[0]?) e1
  simpa [List.getElem?_take,List.getElem?_drop] using this
end Go.Proofs.YtkglnoimbekhhaaGreat
namespace Go.Proofs.YtkglnoimbekhhaaGreat.ledgerKeeps
set_option maxRecDepth 100000
set_option maxHeartbeats 4000000
open Go.ChangeShapes Go.WideShapes Go.ChangeAt Go.RowKit
set_option linter.unusedVariables false
theorem own:ownKnob Tryz.prog.godebug = none:=by kernel_rfl
theorem laidOut:laidOutB Tryz.prog = true:=by kernel_rfl
theorem below_of {w w':World} (h:w.grownBy w' none):Below w.heap.size w w':=⟨h.os,h.tape,h.output,h.size,fun k hk=>h.block k hk (by simp)⟩
theorem contract (H:Type) (enc:TypeId × Value -> H) (W:World) (base:Nat) (args:Array Value) (ds gs:List (DataW H)) (before:List MemPlace)
 (hval:∀ (j:Nat) t v,Tryz.f3.params[j]? = some t -> args[j]? = some v -> Value.okWide Tryz.prog W .any base t v)
 (hW:DataW.Whole enc Tryz.prog Tryz.f3.params.toList Rows.ledgerKeepsSpec.vars false W args.toList ds gs before) (hk:Rows.uptoSmall H (ds ++ gs) = true) :
 Calls Tryz.prog 3 args W fun e W'=>∃ v,e = .returned v /\ Rows.ledgerKeepsSpec.post enc Tryz.prog Tryz.f3 false true false false W args v W':=by
 have hW':=hW
 obtain ⟨p,q,hA0,hV,rfl,hfz,hnd⟩:=hW
 have hA:DataW.TrodAll enc Tryz.prog W 0 (fun _=>true) true Tryz.f3.params.toList args.toList ds p:=hA0
 rw [Tryz.params3] at hA hval
 obtain ⟨v0,vs0,d0,ds0,p0,q0,hargs,rfl,rfl,h0,r0⟩:=trodAll_cons hA
 obtain ⟨v1,vs1,d1,ds1,p1,q1,hargs1,rfl,rfl,h1,r1⟩:=trodAll_cons r0
 obtain ⟨v2,vs2,d2,ds2,p2,q2,hargs2,rfl,rfl,h2,r2⟩:=trodAll_cons r1
 obtain ⟨v3,vs3,d3,ds3,p3,q3,hargs3,rfl,rfl,h3,r3⟩:=trodAll_cons r2
 obtain ⟨rfl,rfl,rfl⟩:=trodAll_nil r3
 obtain rfl:args = #[v0,v1,v2,v3]:=by cases args;simp_all
 obtain ⟨rfl,rfl⟩:=trodVars_none hV
 have hb:=of_decide_eq_true hk
 simp only [List.append_nil,Rows.uptoBulkAll] at hb
 obtain ⟨cs,L,fees,rfl,hL,hS⟩:=open_led (hval 0 33 v0 rfl rfl) h0 (by omega)
 obtain ⟨fr,rfl⟩:=okWide_int Tryz.underlying3 (hval 1 3 v1 rfl rfl)
 obtain ⟨dn,rfl⟩:=okWide_int Tryz.underlying3 (hval 2 3 v2 rfl rfl)
 obtain ⟨n,rfl⟩:=okWide_int Tryz.underlying3 (hval 3 3 v3 rfl rfl)
 have hn:I64 n:=by
  obtain ⟨fuel,hf⟩:=h3
  obtain ⟨m,e,_,hw⟩:=DataW.trod_int Tryz.underlying3 hf
  simp [Value.cells] at e
  subst e
  exact i64_of hw
 clear hA0
 simp only [List.append_nil] at hW'
 have hlt0:∀ x ∈ p0,x.block < W.heap.size:=fun x hx=>hW'.lt x (by simp [hx])
 have hlt1:∀ x ∈ p1,x.block < W.heap.size:=fun x hx=>hW'.lt x (by simp [hx])
 have hlt2:∀ x ∈ p2,x.block < W.heap.size:=fun x hx=>hW'.lt x (by simp [hx])
 have hlt3:∀ x ∈ p3,x.block < W.heap.size:=fun x hx=>hW'.lt x (by simp [hx])
 refine (keeps_any hL hS fr dn n hn).mono fun e W' ⟨he,hg⟩=>?_
 subst he
 have hB:=below_of hg
 exact ⟨_,rfl,_,_,_,[],p0 ++ (p1 ++ (p2 ++ (p3 ++ []))),[],hW',trodAll_cons_mk (shut_bool Tryz.underlying4 _) trodAll_mk0,trodAll_cons_mk (Below.trod laidOut (by kernel_rfl) (of_decide_eq_true (by kernel_rfl)) h0 hB hlt0) (trodAll_cons_mk (Below.trod laidOut (by kernel_rfl) (of_decide_eq_true (by kernel_rfl)) h1 hB hlt1) (trodAll_cons_mk (Below.trod laidOut (by kernel_rfl) (of_decide_eq_true (by kernel_rfl)) h2 hB hlt2) (trodAll_cons_mk (Below.trod laidOut (by kernel_rfl) (of_decide_eq_true (by kernel_rfl)) h3 hB hlt3) trodAll_mk0))),rfl,hB.frame _,fun h=>by cases h⟩
def zA {H:Type} : DataW H:=.agg [.lit (.int .i64 0),.lit (.int .i64 0),.lit (.int .i64 0),.agg [.lit (.int .i64 0),.nil],.agg [.lit (.int .i64 0),.nil],.nil,.agg [.lit (.int .i64 0),.lit (.int .i64 0),.lit (.int .i64 0),.lit (.string []),.nil,.nil,.nil]]
theorem lifted (os:Os) (started:os.Started) (H:Type) (enc:TypeId × Value -> H) (F:Stop.Interp) :
 ReturnsInHanded {} Tryz.checked os 3 .any ((Rows.OpenSpec.upto Rows.ledgerKeepsSpec).pre6 enc Tryz.prog Tryz.f3 Rows.ledgerKeepsUptoRow.domain false) (((Rows.OpenSpec.upto Rows.ledgerKeepsSpec).at F).post enc Tryz.prog Tryz.f3 false true false false):=by
 refine returnsInHanded_of_cond (C:=Tryz.checked) (s:=Rows.OpenSpec.upto Rows.ledgerKeepsSpec) (k:=Rows.uptoSmall) rfl own started (by kernel_rfl) Tryz.func3
  (OpenSpec.witness (enc:=enc) (C:=Tryz.checked) (s:=Rows.OpenSpec.upto Rows.ledgerKeepsSpec) (k:=Rows.uptoSmall) rfl false ⟨#[],#[.agg Tryz.zeroCells33,.int .i64 0,.int .i64 0,.int .i64 0],[]⟩ 8 (by kernel_rfl) (by kernel_rfl) (by kernel_rfl)
   (x:=([.agg [.agg [zA,zA,zA,zA,zA,zA,zA,zA,zA,zA,zA,zA],.lit (.int .i64 0)],.lit (.int .i64 0),.lit (.int .i64 0),.lit (.int .i64 0)],[],[])) (by kernel_rfl) rfl (by kernel_rfl)) ?_
 intro W base args ds gs before hval hW _ hk _
 exact contract H enc W base args ds gs before hval hW hk
theorem over:Rows.ledgerKeepsUptoRow.holds Tryz.pinned (Rows.OpenSpec.upto Rows.ledgerKeepsSpec) :=
 OpenClaim.holds_of_cond 3 Tryz.f3 rfl rfl rfl rfl rfl rfl rfl ⟨rfl,rfl,rfl,rfl,rfl⟩ rfl rfl rfl rfl rfl (by kernel_rfl) Tryz.func3 (by kernel_rfl)
  (of_decide_eq_true (by kernel_rfl)) (by unfold Func.isWrapper;first | (rw [if_pos (by decide +kernel)];kernel_rfl) | (rw [if_neg (by decide +kernel)];exact ⟨rfl,rfl⟩))
  (fun os started H enc _ F=>lifted os started H enc F)
end Go.Proofs.YtkglnoimbekhhaaGreat.ledgerKeeps
namespace Go.Proofs.YtkglnoimbekhhaaGreat
set_option maxRecDepth 100000
set_option maxHeartbeats 4000000
theorem ledgerKeeps_holds:Rows.LedgerKeepsUptoSaid:=ledgerKeeps.over
#print axioms ledgerKeeps_holds
end Go.Proofs.YtkglnoimbekhhaaGreat
