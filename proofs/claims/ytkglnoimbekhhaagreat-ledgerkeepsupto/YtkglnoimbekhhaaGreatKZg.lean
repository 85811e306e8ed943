import Derived.Test.YtkglnoimbekhhaaGreatKZd
import Derived.Test.YtkglnoimbekhhaaGreatKZb
namespace Go.Proofs.YtkglnoimbekhhaaGreat
set_option maxRecDepth 100000
set_option maxHeartbeats 4000000
open Go.ChangeShapes Go.WideShapes Go.ChangeAt Go.RowKit
set_option linter.unusedVariables false
theorem info_ns:(Tryz.prog.info? 25).map (fun i=>(i.zero,i.size,i.bytes)) = some (some (.slice none 0 0),1,24):=by kernel_rfl
def OwnsR (B:Nat) (w:World) (v:Value) (vs:List Value):Prop:=w.ownsRow B 25 1 v vs.length vs
structure InsMem (WB w:World) (ib:Nat) (types:List Ty) (rows:List (List Tr)) (tv rv:Value) (vs rvs:List Value):Prop where
 grow:WB.grownBy w (some ib)
 lt:ib < WB.heap.size
 ownT:OTq WB.heap.size w tv vs
 lenT:vs.length = types.length
 liesT:∀ (k:Nat) (t:Ty) (u:Value),types[k]? = some t -> vs[k]? = some u -> LiesT (fun b=>WB.heap.size <= b /\ some b ≠ tv.ownBlock /\ some b ≠ rv.ownBlock) w t u
 ownR:OwnsR WB.heap.size w rv rvs
 lenR:rvs.length = rows.length
 liesR:∀ (k:Nat) (l:List Tr) (u:Value),rows[k]? = some l -> rvs[k]? = some u -> ∃ na nc VN,u = .slice na l.length nc /\ RowN (· + 1 < ib) WB l na VN
theorem own_apartR {w:World} {B C:Nat} {e e':TypeId} {size size' n n':Nat} {v v':Value} {xs xs':List Value} (h:w.ownsRow B e size v n xs) (h':w.ownsRow C e' size' v' n' xs') (hU:e ≠ e'):v.ownBlock = none \/ v.ownBlock ≠ v'.ownBlock:=by
 rcases h.2 with ⟨rfl,_⟩ | ⟨g,cap,cur,rfl,_,hg,_⟩
 ·exact .inl rfl
 ·exact .inr (own_ne_type h' hg (Ne.symm hU))
theorem InsMem.step {WB w w':World} {ib:Nat} {types:List Ty} {rows:List (List Tr)} {tv rv:Value} {vs rvs:List Value} (h:InsMem WB w ib types rows tv rv vs rvs) (hg:w.grownBy w' (some ib)):InsMem WB w' ib types rows tv rv vs rvs:=by
 have hlt:=h.lt
 refine ⟨gTr h.grow hg,h.lt,World.ownsRow.kept h.ownT hg ?_,h.lenT,fun k t u ht hu=>(h.liesT k t u ht hu).same ?_,World.ownsRow.kept h.ownR hg ?_,h.lenR,h.liesR⟩
 ·refine .inr fun e=>?_
  have:=(World.ownsRow.lt h.ownT ib e).1
  omega
 ·intro b o hb hl
  exact World.cell?_of_block (hg.block b hl (by have:=hb.1;simp;omega))
 ·refine .inr fun e=>?_
  have:=(World.ownsRow.lt h.ownR ib e).1
  omega
theorem InsMem.call {WB w w':World} {ib:Nat} {types:List Ty} {rows:List (List Tr)} {tv rv:Value} {vs rvs:List Value} (h:InsMem WB w ib types rows tv rv vs rvs) (hg:w.grownBy w' none):InsMem WB w' ib types rows tv rv vs rvs:=h.step (gAq hg)
theorem InsMem.pushT {WB w w':World} {ib:Nat} {types:List Ty} {rows:List (List Tr)} {tv rv tv':Value} {vs rvs:List Value} {t:Ty} {u:Value} {S:Nat} (h:InsMem WB w ib types rows tv rv vs rvs) (hS:WB.heap.size <= S) (h1:∀ k,tv.ownBlock = some k -> k < S) (h2:∀ k,rv.ownBlock = some k -> k < S) (hL:LiesT (S <= ·) w t u) (hg:Gr w tv w' tv') (ho:OTq WB.heap.size w' tv' (vs ++ [u])) :
 InsMem WB w' ib (types ++ [t]) rows tv' rv (vs ++ [u]) rvs:=by
 have hlt:=h.lt
 have hap:=own_apartR h.ownR h.ownT (by decide)
 have key:∀ t u,LiesT (fun b=>WB.heap.size <= b /\ some b ≠ tv.ownBlock /\ some b ≠ rv.ownBlock) w t u -> LiesT (fun b=>WB.heap.size <= b /\ some b ≠ tv'.ownBlock /\ some b ≠ rv.ownBlock) w' t u:=by
  intro t u hl
  have h1:=hl.okMono (ok':=fun b=>WB.heap.size <= b /\ some b ≠ tv.ownBlock /\ some b ≠ tv'.ownBlock /\ some b ≠ rv.ownBlock) (fun b hb hk=>⟨hk.1,hk.2.1,by
   rcases hg.2 with e | ⟨g,e,hge⟩
   ·rw [e];exact hk.2.1
   ·rw [e];simp;omega,hk.2.2⟩)
  refine (h1.same (w':=w') ?_).okMono (fun b _ hb=>⟨hb.1,hb.2.2.1,hb.2.2.2⟩)
  intro b o hb hlt
  exact World.cell?_of_block (hg.block hlt hb.2.1)
 refine ⟨?_,h.lt,ho,by simp [h.lenT],fun k t' u' ht hu=>key t' u' ?_,World.ownsRow.kept h.ownR hg.1 hap,h.lenR,h.liesR⟩
 ·refine ⟨hg.1.os.trans h.grow.os,hg.1.tape.trans h.grow.tape,hg.1.output.trans h.grow.output,Nat.le_trans h.grow.size hg.1.size,fun i hi hr=>(hg.1.block i (Nat.lt_of_lt_of_le hi h.grow.size) (fun e=>by have:=(World.ownsRow.lt h.ownT i e.symm).1;omega)).trans (h.grow.block i hi hr)⟩
 ·by_cases hk:k < types.length
  ·rw [List.getElem?_append_left hk] at ht
   rw [List.getElem?_append_left (by rw [h.lenT];exact hk)] at hu
   exact h.liesT k t' u' ht hu
  ·rw [List.getElem?_append_right (by omega)] at ht
   rw [List.getElem?_append_right (by rw [h.lenT];omega),h.lenT] at hu
   cases hq:k - types.length with
   | zero =>
    rw [hq] at ht hu
    simp at ht hu
    subst ht;subst hu
    exact hL.okMono (fun b _ hb=>by
     have hb':S <= b:=hb
     refine ⟨by omega,fun e=>?_,fun e=>?_⟩
     ·have:=h1 b e.symm;omega
     ·have:=h2 b e.symm;omega)
   | succ q=>rw [hq] at ht;simp at ht
theorem InsMem.pushR {WB w w':World} {ib:Nat} {types:List Ty} {rows:List (List Tr)} {tv rv rv':Value} {vs rvs:List Value} {l:List Tr} {na:Option Addr} {nc:Nat} {VN:Nat -> Value} (h:InsMem WB w ib types rows tv rv vs rvs) (hL:RowN (· + 1 < ib) WB l na VN) (hg:Gr w rv w' rv') (ho:OwnsR WB.heap.size w' rv' (rvs ++ [.slice na l.length nc])) :
 InsMem WB w' ib types (rows ++ [l]) tv rv' vs (rvs ++ [.slice na l.length nc]):=by
 have hlt:=h.lt
 have hap:=own_apartR h.ownT h.ownR (by decide)
 have key:∀ t u,LiesT (fun b=>WB.heap.size <= b /\ some b ≠ tv.ownBlock /\ some b ≠ rv.ownBlock) w t u -> LiesT (fun b=>WB.heap.size <= b /\ some b ≠ tv.ownBlock /\ some b ≠ rv'.ownBlock) w' t u:=by
  intro t u hl
  have h1:=hl.okMono (ok':=fun b=>WB.heap.size <= b /\ some b ≠ rv.ownBlock /\ some b ≠ tv.ownBlock /\ some b ≠ rv'.ownBlock) (fun b hb hk=>⟨hk.1,hk.2.2,hk.2.1,by
   rcases hg.2 with e | ⟨g,e,hge⟩
   ·rw [e];exact hk.2.2
   ·rw [e];simp;omega⟩)
  refine (h1.same (w':=w') ?_).okMono (fun b _ hb=>⟨hb.1,hb.2.2.1,hb.2.2.2⟩)
  intro b o hb hlt
  exact World.cell?_of_block (hg.block hlt hb.2.1)
 refine ⟨?_,h.lt,World.ownsRow.kept h.ownT hg.1 hap,h.lenT,fun k t' u' ht hu=>key t' u' (h.liesT k t' u' ht hu),ho,by simp [h.lenR],fun k l' u' ht hu=>?_⟩
 ·refine ⟨hg.1.os.trans h.grow.os,hg.1.tape.trans h.grow.tape,hg.1.output.trans h.grow.output,Nat.le_trans h.grow.size hg.1.size,fun i hi hr=>(hg.1.block i (Nat.lt_of_lt_of_le hi h.grow.size) (fun e=>by have:=(World.ownsRow.lt h.ownR i e.symm).1;omega)).trans (h.grow.block i hi hr)⟩
 ·by_cases hk:k < rows.length
  ·rw [List.getElem?_append_left hk] at ht
   rw [List.getElem?_append_left (by rw [h.lenR];exact hk)] at hu
   exact h.liesR k l' u' ht hu
  ·rw [List.getElem?_append_right (by omega)] at ht
   rw [List.getElem?_append_right (by rw [h.lenR];omega),h.lenR] at hu
   cases hq:k - rows.length with
   | zero =>
    rw [hq] at ht hu
    simp at ht hu
    subst ht;subst hu
    exact ⟨na,nc,VN,rfl,hL⟩
   | succ q=>rw [hq] at ht;simp at ht
def InsIs (WB w:World) (ib:Nat) (i:Ins):Prop :=
 ∃ (tv rv:Value) (vs rvs:List Value) (da:Option Addr) (dc:Nat),w.heap[ib]? = some (.cells #[.int .i64 i.p,.int .i64 i.n,tv,rv,.int .i64 i.data.k0,.int .i64 i.data.n0,.int .i64 i.data.p0,.string i.data.s0,.slice da i.data.args0.length dc] 115 (0,0)) /\
  InsMem WB w ib i.types i.rows tv rv vs rvs /\ Lies (· + 1 < ib) WB i.data (nodeV i.data.k0 i.data.n0 i.data.p0 i.data.s0 da i.data.args0.length dc)
theorem InsIs.call {WB w w':World} {ib:Nat} {i:Ins} (h:InsIs WB w ib i) (hg:w.grownBy w' none):InsIs WB w' ib i:=by
 obtain ⟨tv,rv,vs,rvs,da,dc,h1,h2,h3⟩:=h
 exact ⟨tv,rv,vs,rvs,da,dc,kBq h1 hg,h2.call hg,h3⟩
theorem owns_form {w:World} {B:Nat} {e:TypeId} {size n:Nat} {v:Value} {xs:List Value} (h:w.ownsRow B e size v n xs):∃ a c,v = .slice a n c /\ n <= c:=by
 rcases h.2 with ⟨rfl,rfl⟩ | ⟨g,cap,cur,rfl,_,_,h1,_⟩
 ·exact ⟨none,0,rfl,Nat.le_refl _⟩
 ·exact ⟨_,cap,rfl,h1⟩
def RowR (w:World) (rows:List (List Tr)) (a:Option Addr):Prop :=
 ∀ (k:Nat) (l:List Tr),rows[k]? = some l -> ∃ b o na nc VN,a = some ⟨b,o,none⟩ /\ w.cell? ⟨b,o + k,none⟩ = some (.slice na l.length nc) /\ RowN (fun _=>True) w l na VN
theorem RowR.grow {w w':World} {rows:List (List Tr)} {a:Option Addr} (h:RowR w rows a) (hg:w.grownBy w' none):RowR w' rows a:=fun k l hk=>by
 obtain ⟨b,o,na,nc,VN,e,h1,h2⟩:=h k l hk
 exact ⟨b,o,na,nc,VN,e,kNq hg h1,h2.same (sAl hg)⟩
theorem InsIs.done {WB w w':World} {ib rb:Nat} {i:Ins} (h:InsIs WB w ib i) (hg:w.grownBy w' (some rb)) (hrb:rb + 1 = ib):∃ (ta:Option Addr) (tc:Nat) (ra:Option Addr) (rc:Nat) (da:Option Addr) (dc:Nat),
 w.heap[ib]? = some (.cells #[.int .i64 i.p,.int .i64 i.n,.slice ta i.types.length tc,.slice ra i.rows.length rc,.int .i64 i.data.k0,.int .i64 i.data.n0,.int .i64 i.data.p0,.string i.data.s0,.slice da i.data.args0.length dc] 115 (0,0)) /\
 RowC w' i.types (.slice ta i.types.length tc) /\ RowR w' i.rows ra /\ i.rows.length <= rc /\ Lies (fun _=>True) w' i.data (nodeV i.data.k0 i.data.n0 i.data.p0 i.data.s0 da i.data.args0.length dc):=by
 obtain ⟨tv,rv,vs,rvs,da,dc,h1,h2,h3⟩:=h
 obtain ⟨ta,tc,rfl,_⟩:=owns_form h2.ownT
 obtain ⟨ra,rc,rfl,hrc⟩:=owns_form h2.ownR
 have hlt:=h2.lt
 have hsz:=h2.grow.size
 have hsame:Same (· + 1 < ib) WB w':=fun b o hb hl=>by
  have hb':b + 1 < ib:=hb
  exact (World.cell?_of_block (hg.block b (by show b < _;omega) (by simp;omega))).trans (World.cell?_of_block (h2.grow.block b hl (by simp;omega)))
 have hk0:ListOkT WB.heap.size w (.slice ta vs.length tc) i.types vs:=⟨h2.ownT,h2.lenT,fun k t u ht hu=>(h2.liesT k t u ht hu).okMono (fun b _ hb=>⟨hb.1,hb.2.1⟩)⟩
 have hk:=hk0.keep hg (by omega)
 have hR:OwnsR WB.heap.size w' (.slice ra rvs.length rc) rvs:=World.ownsRow.kept h2.ownR hg (.inr fun e=>by have:=(World.ownsRow.lt h2.ownR rb e).1;omega)
 obtain ⟨a,c,V,e,k1,k2⟩:=hk.done
 simp only [Value.slice.injEq] at e
 obtain ⟨rfl,_,rfl⟩:=e
 have hm:i.types.length <= maxLen /\ i.types.length <= tc:=by
  have hl:=h2.lenT
  rcases h2.ownT.2 with ⟨e2,h0⟩ | ⟨g,cap,cur,e2,_,_,h4,h5,_⟩
  ·rw [hl] at h0;rw [h0];exact ⟨Nat.zero_le _,Nat.zero_le _⟩
  ·simp only [Value.slice.injEq] at e2
   obtain ⟨_,_,rfl⟩:=e2
   exact ⟨by omega,by omega⟩
 rw [h2.lenT,h2.lenR] at h1
 refine ⟨ta,tc,ra,rc,da,dc,h1,⟨ta,tc,V,rfl,hm.2,hm.1,fun i hi=>(k1 i hi).okMono (fun _ _ _=>trivial),fun i hi=>(k2 i hi).okMono (fun _ _ _=>trivial)⟩,fun k l hkl=>?_,by rw [← h2.lenR];exact hrc,(h3.same hsame).okMono (fun _ _ _=>trivial)⟩
 have hkl2:k < rvs.length:=by rw [h2.lenR];exact (List.getElem?_eq_some_iff.1 hkl).1
 obtain ⟨na,nc,VN,hu,hN⟩:=h2.liesR k l rvs[k] hkl (List.getElem?_eq_getElem hkl2)
 rcases hR.2 with ⟨e2,h0⟩ | ⟨g,cap,cur,e2,_,hg,h4,_,h5,h6⟩
 ·omega
 ·simp only [Value.slice.injEq] at e2
  obtain ⟨rfl,_,rfl⟩:=e2
  refine ⟨g,0,na,nc,VN,rfl,?_,(hN.same hsame).okMono (fun _ _ _=>trivial)⟩
  have h7:(cur.toList.take (rvs.length * 1))[k]? = rvs[k]?:=by rw [h6]
  rw [List.getElem?_take,if_pos (by omega),List.getElem?_eq_getElem hkl2,hu] at h7
  have h8:cur[k]? = some (.slice na l.length nc):=by simpa using h7
  simp [World.cell?,hg,h8]
set_option linter.unusedSimpArgs false
theorem free9 {w:World} {g:Nat} {T:TypeId} {x0 x1 x2 x3 x4 x5 x6 x7 x8:Value} (h:w.heap[g]? = some (.cells #[x0,x1,x2,x3,x4,x5,x6,x7,x8] T (0,0))):∀ o,w.frozen? ⟨g,o,none⟩ = false:=by intro o;simp [World.frozen?,h]
theorem set9_1 {w:World} {g:Nat} {T:TypeId} {x0 x1 x2 x3 x4 x5 x6 x7 x8:Value} (h:w.heap[g]? = some (.cells #[x0,x1,x2,x3,x4,x5,x6,x7,x8] T (0,0))) (y:Value):(w.setCell ⟨g,1,none⟩ y).heap[g]? = some (.cells #[x0,y,x2,x3,x4,x5,x6,x7,x8] T (0,0)):=by
 simp [World.setCell,Array.getElem?_modify,h]
theorem set9_2 {w:World} {g:Nat} {T:TypeId} {x0 x1 x2 x3 x4 x5 x6 x7 x8:Value} (h:w.heap[g]? = some (.cells #[x0,x1,x2,x3,x4,x5,x6,x7,x8] T (0,0))) (y:Value):(w.setCell ⟨g,2,none⟩ y).heap[g]? = some (.cells #[x0,x1,y,x3,x4,x5,x6,x7,x8] T (0,0)):=by
 simp [World.setCell,Array.getElem?_modify,h]
theorem set9_3 {w:World} {g:Nat} {T:TypeId} {x0 x1 x2 x3 x4 x5 x6 x7 x8:Value} (h:w.heap[g]? = some (.cells #[x0,x1,x2,x3,x4,x5,x6,x7,x8] T (0,0))) (y:Value):(w.setCell ⟨g,3,none⟩ y).heap[g]? = some (.cells #[x0,x1,x2,y,x4,x5,x6,x7,x8] T (0,0)):=by
 simp [World.setCell,Array.getElem?_modify,h]
theorem set9_d {w:World} {g:Nat} {T:TypeId} {x0 x1 x2 x3 x4 x5 x6 x7 x8:Value} (h:w.heap[g]? = some (.cells #[x0,x1,x2,x3,x4,x5,x6,x7,x8] T (0,0))) (y0 y1 y2 y3 y4:Value):(((((w.setCell ⟨g,4,none⟩ y0).setCell ⟨g,5,none⟩ y1).setCell ⟨g,6,none⟩ y2).setCell ⟨g,7,none⟩ y3).setCell ⟨g,8,none⟩ y4).heap[g]? = some (.cells #[x0,x1,x2,x3,y0,y1,y2,y3,y4] T (0,0)):=by
 simp [World.setCell,Array.getElem?_modify,h]
def TakePost (WB:World) (ib:Nat) (i:Ins) (f:UInt8) (t:Tr) (e:Ending) (w':World):Prop :=
 ∃ ok,e = .returned (.bool ok) /\ WB.grownBy w' (some ib) /\ ((ok = false /\ takeF i f t = none) \/ (ok = true /\ ∃ j,takeF i f t = some j /\ InsIs WB w' ib j))
theorem take_no {WB w':World} {ib:Nat} {i:Ins} {f:UInt8} {t:Tr} (h:takeF i f t = none) (hg:WB.grownBy w' (some ib)):TakePost WB ib i f t (.returned (.bool false)) w':=⟨false,rfl,hg,.inl ⟨rfl,h⟩⟩
theorem take_yes {WB w':World} {ib:Nat} {i j:Ins} {f:UInt8} {t:Tr} (h:takeF i f t = some j) (hg:WB.grownBy w' (some ib)) (hj:InsIs WB w' ib j):TakePost WB ib i f t (.returned (.bool true)) w':=⟨true,rfl,hg,.inr ⟨rfl,j,h,hj⟩⟩
theorem takeI_n {WB W:World} {ib:Nat} {i:Ins} {t:Tr} {nv:Value} (hI:InsIs WB W ib i) (hL:Lies (· + 1 < ib) WB t nv) :
 Calls Tryz.prog 106 #[.pointer (some ⟨ib,0,none⟩),.int .u8 110,nv] W (TakePost WB ib i 110 t):=by
 obtain ⟨tv,rv,vs,rvs,da,dc,hb,hM,hD⟩:=hI
 obtain ⟨na,nc,VN,e1,⟨ik,iN,ip,hss⟩,hRN⟩:=hL.invN
 rw [e1]
 unfold nodeV
 have hgN:=gBq (w:=W) (.cells #[.int .i64 t.k0,.int .i64 t.n0,.int .i64 t.p0,.string t.s0,.slice na t.args0.length nc] 48)
 have hbN:=heap_alloc_new W (.cells #[.int .i64 t.k0,.int .i64 t.n0,.int .i64 t.p0,.string t.s0,.slice na t.args0.length nc] 48)
 have hb2:=kBq hb hgN
 have hM2:=hM.call hgN
 have hne:W.heap.size ≠ ib:=by have:=(Array.getElem?_eq_some_iff.1 hb).1;omega
 have hw:=set9_1 hb2 (.int .i64 t.n0)
 have hgw:=gSq (gRf (W.alloc (.cells #[.int .i64 t.k0,.int .i64 t.n0,.int .i64 t.p0,.string t.s0,.slice na t.args0.length nc] 48)) (some ib)) 1 none (.int .i64 t.n0)
 have hM3:=hM2.step hgw
 have hbN3:=(hgw.block W.heap.size (Array.getElem?_eq_some_iff.1 hbN).1 (by simpa using hne)).trans hbN
 have hgB:=hM3.grow
 have HJ:Hid (InsIs WB _ ib { i with n:=t.n0 }):=⟨tv,rv,vs,rvs,da,dc,hw,hM3,hD⟩
 have HGB:=jh hgB
 obtain ⟨m0,m1,m2,m3,m4⟩:=box5 hbN
 obtain ⟨k0',k1',k2',k3',k4'⟩:=box5 hbN3
 have fr:=free9 hb2
 obtain ⟨c0,c1,c2,c3,_⟩:=box9 hb2
 have hT:takeF i 110 t = if t.k0 = 0 /\ 0 <= t.n0 /\ t.n0 <= 40 then some { i with n:=t.n0 } else none:=by simp [takeF]
 have HT:=jh hT
 clear hT hgB hbN3 hM3 hgw hw hM2 hb2 hgN hbN hM hD hb hL hRN e1
 generalize t.k0 = kk at *
 generalize t.n0 = nn at *
 by_cases h1:kk = 0
 ·subst h1
  by_cases h2:0 <= nn
  ·by_cases h3:nn <= 40
   ·go_enter Tryz.func106,Tryz.ntmps106
    go_wp2_with fail
    go_ret
    exact take_yes (show takeF i 110 t = some { i with n:=nn } by rw [HT.out];simp [h2,h3]) HGB.out HJ.out
   ·go_enter Tryz.func106,Tryz.ntmps106
    go_wp2_with fail
    go_ret
    exact take_no (by rw [HT.out,if_neg (by omega)]) HGB.out
  ·go_enter Tryz.func106,Tryz.ntmps106
   go_wp2_with fail
   go_ret
   exact take_no (by rw [HT.out,if_neg (by omega)]) HGB.out
 ·have h1':(kk == 0) = false:=by simpa using h1
  go_enter Tryz.func106,Tryz.ntmps106
  go_wp2_with fail
  go_ret
  exact take_no (by rw [HT.out,if_neg (by omega)]) HGB.out
theorem own_at2 {w:World} {B n g cap:Nat} {e:TypeId} {xs:List Value} {a0 a1:Value} (h:w.ownsRow B e 2 (.slice (some ⟨g,0,none⟩) (n + 1) cap) (n + 1) (xs ++ [a0,a1])) :
 w.cell? ⟨g,n * 2,none⟩ = some a0 /\ w.cell? ⟨g,n * 2 + 1,none⟩ = some a1 /\ (∀ o,w.frozen? ⟨g,o,none⟩ = false) /\ B <= g:=by
 have hl:=h.1
 simp at hl
 rcases h.2 with ⟨hx,_⟩ | ⟨g',cap',cur,hx,h1,h2,h3,h4,h5,h6⟩
 ·simp at hx
 ·simp only [Value.slice.injEq,Option.some.injEq,Addr.mk.injEq,and_true,true_and] at hx
  obtain ⟨rfl,rfl⟩:=hx
  have e0:(cur.toList.take ((n + 1) * 2))[n * 2]? = some a0:=by rw [h6,List.getElem?_append_right (by omega)];simp [show n * 2 - xs.length = 0 by omega]
  have e1:(cur.toList.take ((n + 1) * 2))[n * 2 + 1]? = some a1:=by rw [h6,List.getElem?_append_right (by omega)];simp [show n * 2 + 1 - xs.length = 1 by omega]
  rw [List.getElem?_take,if_pos (by omega)] at e0 e1
  have f0:cur[n * 2]? = some a0:=by simpa using e0
  have f1:cur[n * 2 + 1]? = some a1:=by simpa using e1
  exact ⟨by simp [World.cell?,h2,f0],by simp [World.cell?,h2,f1],fun o=>by simp [World.frozen?,h2],h1⟩
theorem own_last {w:World} {B n g cap:Nat} {e:TypeId} {xs:List Value} {a0 a1:Value} (y0 y1:Value) (h:w.ownsRow B e 2 (.slice (some ⟨g,0,none⟩) (n + 1) cap) (n + 1) (xs ++ [a0,a1])) :
 ((w.setCell ⟨g,n * 2,none⟩ y0).setCell ⟨g,n * 2 + 1,none⟩ y1).ownsRow B e 2 (.slice (some ⟨g,0,none⟩) (n + 1) cap) (n + 1) (xs ++ [y0,y1]):=by
 have hl:=h.1
 simp at hl
 refine ⟨by simp;omega,?_⟩
 rcases h.2 with ⟨hx,_⟩ | ⟨g',cap',cur,hx,h1,h2,h3,h4,h5,h6⟩
 ·simp at hx
 ·simp only [Value.slice.injEq,Option.some.injEq,Addr.mk.injEq,and_true,true_and] at hx
  obtain ⟨rfl,rfl⟩:=hx
  refine .inr ⟨g,cap,(cur.setIfInBounds (n * 2) y0).setIfInBounds (n * 2 + 1) y1,rfl,h1,?_,h3,h4,by simpa using h5,?_⟩
  ·simp [World.setCell,Array.getElem?_modify,h2]
  ·apply List.ext_getElem?
   intro k
   have hk:(cur.toList.take ((n + 1) * 2))[k]? = (xs ++ [a0,a1])[k]?:=by rw [h6]
   by_cases hk1:k < (n + 1) * 2
   ·rw [List.getElem?_take,if_pos hk1] at hk ⊢
    by_cases k0:k < xs.length
    ·rw [List.getElem?_append_left k0] at hk ⊢
     rw [← hk]
     simp only [Array.toList_setIfInBounds]
     rw [List.getElem?_set_ne (by omega),List.getElem?_set_ne (by omega)]
    ·have hsz:(n + 1) * 2 <= cur.size:=by rw [h5];exact Nat.mul_le_mul_right 2 h3
     rcases (show k = n * 2 \/ k = n * 2 + 1 by omega) with rfl | rfl
     ·rw [List.getElem?_append_right (by omega),show n * 2 - xs.length = 0 by omega]
      simp only [Array.toList_setIfInBounds]
      rw [List.getElem?_set_ne (by omega),List.getElem?_set_self (by simp;omega)]
      rfl
     ·rw [List.getElem?_append_right (by omega),show n * 2 + 1 - xs.length = 1 by omega]
      simp only [Array.toList_setIfInBounds]
      rw [List.getElem?_set_self (by simp;omega)]
      rfl
   ·rw [List.getElem?_eq_none (by simp;omega),List.getElem?_eq_none (by simp;omega)]
theorem setCell_comm {w:World} {g h o p:Nat} (x y:Value) (hne:g ≠ h):(w.setCell ⟨g,o,none⟩ x).setCell ⟨h,p,none⟩ y = (w.setCell ⟨h,p,none⟩ y).setCell ⟨g,o,none⟩ x:=by
 simp only [World.setCell]
 congr 1
 apply Array.ext_getElem?
 intro k
 simp only [Array.getElem?_modify]
 by_cases h1:h = k <;> by_cases h2:g = k
 ·omega
 ·simp [h1,h2]
 ·simp [h1,h2]
 ·simp [h1,h2]
theorem own_lastT {w:World} {B g cap:Nat} {vs:List Value} {k:Int} {sa:Option Addr} {sl sc:Nat} (h:OTq B w (.slice (some ⟨g,0,none⟩) (vs.length + 1) cap) (vs ++ [tyV 0 none 0 0])) :
 OTq B ((w.setCell ⟨g,vs.length * 2,none⟩ (.int .i64 k)).setCell ⟨g,vs.length * 2 + 1,none⟩ (.slice sa sl sc)) (.slice (some ⟨g,0,none⟩) (vs.length + 1) cap) (vs ++ [tyV k sa sl sc]):=by
 unfold OTq at h ⊢
 simp only [flatT_append,List.length_append,List.length_singleton] at h ⊢
 exact own_last _ _ h
theorem own_atT {w:World} {B g cap:Nat} {vs:List Value} (h:OTq B w (.slice (some ⟨g,0,none⟩) (vs.length + 1) cap) (vs ++ [tyV 0 none 0 0])) :
 w.cell? ⟨g,vs.length * 2,none⟩ = some (.int .i64 0) /\ w.cell? ⟨g,vs.length * 2 + 1,none⟩ = some (.slice none 0 0) /\ (∀ o,w.frozen? ⟨g,o,none⟩ = false) /\ B <= g:=by
 unfold OTq at h
 simp only [flatT_append,List.length_append,List.length_singleton] at h
 exact own_at2 h
theorem gr_set {w w':World} {v:Value} {g n cap:Nat} (h:Gr w v w' (.slice (some ⟨g,0,none⟩) n cap)) (o:Nat) (x:Value):Gr w v (w'.setCell ⟨g,o,none⟩ x) (.slice (some ⟨g,0,none⟩) n cap):=by
 refine ⟨?_,h.2⟩
 have hs:=gSq (gRf w' (some g)) o none x
 refine ⟨hs.os.trans h.1.os,hs.tape.trans h.1.tape,hs.output.trans h.1.output,Nat.le_trans h.1.size hs.size,fun k hk hr=>?_⟩
 refine (hs.block k (Nat.lt_of_lt_of_le hk h.1.size) (fun e=>?_)).trans (h.1.block k hk hr)
 rcases h.2 with e2 | ⟨g',e2,hge⟩
 ·rw [← e2] at hr
  exact hr e
 ·simp [Value.ownBlock] at e2
  simp at e
  omega
theorem KParsePost.form {t:Tr} {W:World} {e:Ending} {w':World} (h:KParsePost t W e w'):∃ T tt aa ll cc er,e = .returned (.tuple #[.agg #[.int .i64 tt,.slice aa ll cc],.int .i64 er]) /\ W.grownBy w' none /\ LiesT (W.heap.size <= ·) w' T (tyV tt aa ll cc) /\ ((er = 0 /\ parseB t = true /\ T = kreadT t) \/ (er = 1 /\ parseB t = false)):=by
 rcases h.2 with ⟨h1,u,rfl,h2⟩ | ⟨h1,rfl⟩
 ·obtain ⟨a,c,V,e,_⟩:=h2.inv
  subst e
  exact ⟨_,_,_,_,_,_,rfl,h.1,h2,.inl ⟨rfl,h1,rfl⟩⟩
 ·exact ⟨.nd 0 [],0,none,0,0,1,rfl,h.1,LiesT.ofRow ⟨by decide,by decide⟩ (Nat.le_refl _) (RowT.nil _ _ _ (fun _=>.int .i64 0)),.inr ⟨rfl,h1⟩⟩
theorem take_endT {WB w0 w3:World} {ib:Nat} {i:Ins} {t:Tr} {f:UInt8} {rv:Value} {ta da:Option Addr} {tc dc g cap:Nat} {vs rvs:List Value} {T:Ty} {tt:Int} {aa:Option Addr} {ll cc S:Nat} {er:Int} (hf:f = 116 \/ f = 117)
 (hM:InsMem WB w0 ib i.types i.rows (.slice ta vs.length tc) rv vs rvs) (hB:w0.heap[ib]? = some (.cells #[.int .i64 i.p,.int .i64 i.n,.slice ta vs.length tc,rv,.int .i64 i.data.k0,.int .i64 i.data.n0,.int .i64 i.data.p0,.string i.data.s0,.slice da i.data.args0.length dc] 115 (0,0)))
 (hD:Lies (· + 1 < ib) WB i.data (nodeV i.data.k0 i.data.n0 i.data.p0 i.data.s0 da i.data.args0.length dc))
 (hS:WB.heap.size <= S) (h1:∀ k,(Value.slice ta vs.length tc).ownBlock = some k -> k < S) (h2:∀ k,rv.ownBlock = some k -> k < S) (hT:LiesT (S <= ·) w0 T (tyV tt aa ll cc))
 (ho:OTq WB.heap.size w3 (.slice (some ⟨g,0,none⟩) (vs.length + 1) cap) (vs ++ [tyV 0 none 0 0])) (hg:Gr w0 (.slice ta vs.length tc) w3 (.slice (some ⟨g,0,none⟩) (vs.length + 1) cap))
 (hc:(er = 0 /\ parseB t = true /\ T = kreadT t) \/ (er = 1 /\ parseB t = false)) :
 TakePost WB ib i f t (.returned (.bool (er == 0))) (((w3.setCell ⟨g,vs.length * 2,none⟩ (.int .i64 tt)).setCell ⟨g,vs.length * 2 + 1,none⟩ (.slice aa ll cc)).setCell ⟨ib,2,none⟩ (.slice (some ⟨g,0,none⟩) (vs.length + 1) cap)):=by
 have hg2:=gr_set (gr_set hg (vs.length * 2) (.int .i64 tt)) (vs.length * 2 + 1) (.slice aa ll cc)
 have ho2:=own_lastT (k:=tt) (sa:=aa) (sl:=ll) (sc:=cc) ho
 have hM2:=hM.pushT hS h1 h2 hT hg2 ho2
 have hlt:=hM.lt
 have hB2:=(hg2.block (Array.getElem?_eq_some_iff.1 hB).1 (own_ne_type hM.ownT hB (by decide))).trans hB
 have hgw:=gSq (gRf ((w3.setCell ⟨g,vs.length * 2,none⟩ (.int .i64 tt)).setCell ⟨g,vs.length * 2 + 1,none⟩ (.slice aa ll cc)) (some ib)) 2 none (.slice (some ⟨g,0,none⟩) (vs.length + 1) cap)
 have hM3:=hM2.step hgw
 have hB3:=set9_2 hB2 (.slice (some ⟨g,0,none⟩) (vs.length + 1) cap)
 have hf':¬ f = 110:=by rcases hf with rfl | rfl <;> decide
 rcases hc with ⟨rfl,hp,rfl⟩ | ⟨rfl,hp⟩
 ·refine take_yes (j:={ i with types:=i.types ++ [kreadT t] }) ?_ hM3.grow ⟨_,_,_,_,da,dc,hB3,hM3,hD⟩
  unfold takeF
  rw [if_neg hf',if_pos hf,if_pos hp]
 ·refine take_no ?_ hM3.grow
  unfold takeF
  rw [if_neg hf',if_pos hf,if_neg (by simp [hp])]
theorem take_endR {WB w0 w3:World} {ib:Nat} {i:Ins} {t:Tr} {f:UInt8} {tv:Value} {ra da na:Option Addr} {rc dc nc g cap:Nat} {vs rvs:List Value} {VN:Nat -> Value} (hf:f = 99 \/ f = 100)
 (hM:InsMem WB w0 ib i.types i.rows tv (.slice ra rvs.length rc) vs rvs) (hB:w0.heap[ib]? = some (.cells #[.int .i64 i.p,.int .i64 i.n,tv,.slice ra rvs.length rc,.int .i64 i.data.k0,.int .i64 i.data.n0,.int .i64 i.data.p0,.string i.data.s0,.slice da i.data.args0.length dc] 115 (0,0)))
 (hD:Lies (· + 1 < ib) WB i.data (nodeV i.data.k0 i.data.n0 i.data.p0 i.data.s0 da i.data.args0.length dc))
 (hN:RowN (· + 1 < ib) WB t.args0 na VN)
 (ho:OwnsR WB.heap.size w3 (.slice (some ⟨g,0,none⟩) (rvs.length + 1) cap) (rvs ++ [.slice na t.args0.length nc])) (hg:Gr w0 (.slice ra rvs.length rc) w3 (.slice (some ⟨g,0,none⟩) (rvs.length + 1) cap)) :
 TakePost WB ib i f t (.returned (.bool (t.k0 == 3))) (w3.setCell ⟨ib,3,none⟩ (.slice (some ⟨g,0,none⟩) (rvs.length + 1) cap)):=by
 have hM2:=hM.pushR hN hg ho
 have hB2:=(hg.block (Array.getElem?_eq_some_iff.1 hB).1 (own_ne_type hM.ownR hB (by decide))).trans hB
 have hgw:=gSq (gRf w3 (some ib)) 3 none (.slice (some ⟨g,0,none⟩) (rvs.length + 1) cap)
 have hM3:=hM2.step hgw
 have hB3:=set9_3 hB2 (.slice (some ⟨g,0,none⟩) (rvs.length + 1) cap)
 have hf1:¬ f = 110:=by rcases hf with rfl | rfl <;> decide
 have hf2:¬ (f = 116 \/ f = 117):=by rcases hf with rfl | rfl <;> decide
 by_cases hk:t.k0 = 3
 ·rw [show (t.k0 == 3) = true by simpa using hk]
  refine take_yes (j:={ i with rows:=i.rows ++ [t.args0] }) ?_ hM3.grow ⟨_,_,_,_,da,dc,hB3,hM3,hD⟩
  unfold takeF
  rw [if_neg hf1,if_neg hf2,if_pos hf,if_pos hk]
 ·rw [show (t.k0 == 3) = false by simpa using hk]
  refine take_no ?_ hM3.grow
  unfold takeF
  rw [if_neg hf1,if_neg hf2,if_pos hf,if_neg hk]
theorem step_appR {ops:Array Oper} {o:Oper} {a:Act} {K:Act -> World -> Prop} {Q:Exit -> Act -> World -> Prop} {E:Prop} (B:Nat) (vs:List Value) (sa:Option Addr) (sl sc:Nat) (w0:World) (v:Value) (hgd:o.guard = none) (s x:Operand)
 (ho:o.op = .call { callee:=.builtin .append,args:=#[s,x],argTypes:=#[113,113] }) (hs:a.eval s = v) {H:Nat} (hx:a.eval x = .slice (some ⟨H,0,none⟩) 1 1) (hH:w0.heap.size = H)
 (hown:OwnsR B w0 v vs) (hB:B <= w0.heap.size) (hlen:vs.length <= 1000000000)
 (h:∀ g cap w',OwnsR B w' (.slice (some ⟨g,0,none⟩) (vs.length + 1) cap) (vs ++ [.slice sa sl sc]) -> Gr w0 v w' (.slice (some ⟨g,0,none⟩) (vs.length + 1) cap) -> K (a.put o.dst (.slice (some ⟨g,0,none⟩) (vs.length + 1) cap)) w') :
 if Region.wanted o (yielded ops a.tmps) = true then Oper.wp Tryz.prog o a (w0.alloc (.cells #[.slice sa sl sc] 25)) K Q else E:=by
 have hw:Region.wanted o (yielded ops a.tmps) = true:=by simp [Region.wanted,hgd]
 rw [if_pos hw]
 obtain ⟨i0,hi,hz0,hz1,hz2⟩:=info_parts info_ns
 subst hH
 refine wp_append_lies _ s x 113 ho B 25 i0 _ 1 24 Tryz.underlying113 hi hz0 hz1 hz2 rfl (by decide) v vs.length vs hs (World.ownsRow.alloc hown _) ⟨w0.heap.size,0,none⟩ 1 1 [.slice sa sl sc] hx rfl ?_ ?_ (by decide) ?_ ?_ ?_ _ rfl ?_
 ·exact World.news_of_block (w:=w0.alloc _) (B:=w0.heap.size) (cs:=#[.slice sa sl sc]) (heap_alloc_new _ _)
 ·intro u hu;simp at hu;subst hu;rfl
 ·unfold maxLen;omega
 ·omega
 ·simp;omega
 ·intro g cap w' h1 h2 h3 _
  refine h g cap w' ?_ ?_
  ·unfold OwnsR;rw [List.length_append];exact h1
  ·refine Gr.trans (Gr.alloc (Gr.refl w0 v) _) ⟨h2,?_⟩
   rcases h3 with h3 | h3
   ·exact .inl h3.symm
   ·exact .inr ⟨g,rfl,by omega⟩
theorem take_t {WB W:World} {ib:Nat} {i:Ins} {t:Tr} {nv:Value} {f:UInt8} {c:Int} (hf:f = 116 /\ c = 116 \/ f = 117 /\ c = 117) (hI:InsIs WB W ib i) (hL:Lies (· + 1 < ib) WB t nv) (htl:i.types.length <= 1000) (hrl:i.rows.length <= 1000) :
 Calls Tryz.prog 106 #[.pointer (some ⟨ib,0,none⟩),.int .u8 c,nv] W (TakePost WB ib i f t):=by
 obtain ⟨tv,rv,vs,rvs,da,dc,hb,hM,hD⟩:=hI
 obtain ⟨na,nc,VN,e1,⟨ik,iN,ip,hss⟩,hRN⟩:=hL.invN
 rw [e1]
 unfold nodeV
 have hgN:=gBq (w:=W) (.cells #[.int .i64 t.k0,.int .i64 t.n0,.int .i64 t.p0,.string t.s0,.slice na t.args0.length nc] 48)
 have hbN:=heap_alloc_new W (.cells #[.int .i64 t.k0,.int .i64 t.n0,.int .i64 t.p0,.string t.s0,.slice na t.args0.length nc] 48)
 have hb2:=kBq hb hgN
 have hM2:=hM.call hgN
 obtain ⟨m0,m1,m2,m3,m4⟩:=box5 hbN
 have hsame:Same (· + 1 < ib) WB (W.alloc (.cells #[.int .i64 t.k0,.int .i64 t.n0,.int .i64 t.p0,.string t.s0,.slice na t.args0.length nc] 48)):=fun b o hb hl=>World.cell?_of_block (hM2.grow.block b hl (by have : b + 1 < ib:=hb;simp;omega))
 have HP:=jh (kparse_any ((hL.same hsame).okMono (ok':=(· < (W.alloc (.cells #[.int .i64 t.k0,.int .i64 t.n0,.int .i64 t.p0,.string t.s0,.slice na t.args0.length nc] 48)).heap.size)) (fun b hb _=>hb)))
 rw [e1] at HP
 unfold nodeV at HP
 obtain ⟨ta,tc,rfl,_⟩:=owns_form hM2.ownT
 have hvl:vs.length <= 1000:=by have:=hM2.lenT;omega
 have HD:=jh hD
 have HM2:=jh hM2
 have HB2:=jh hb2
 clear hgN hbN hM2 hb2 hM hD hb hL hRN e1 hsame
 have b1:(vs.length:Int) < (vs.length:Int) + 1:=by omega
 have b2:(0:Int) <= (vs.length:Int):=by omega
 have b3:vs.length < vs.length + 1:=by omega
 rcases hf with ⟨rfl,rfl⟩ | ⟨rfl,rfl⟩
 all_goals
  go_enter Tryz.func106,Tryz.ntmps106
  go_wp2_with fail
  generalize W.alloc _ = W2 at *
  refine HP.out.mono ?_;rintro e w1 hp1
  obtain ⟨T,tt,aa,ll,cc,er,rfl,hg,hT1,hcase⟩:=hp1.form
  have hgt:=gBq (w:=w1) (.cells #[.int .i64 tt,.slice aa ll cc] 24)
  have hbt:=heap_alloc_new w1 (.cells #[.int .i64 tt,.slice aa ll cc] 24)
  have hgd:(w1.alloc (.cells #[.int .i64 tt,.slice aa ll cc] 24)).grownBy (w1.alloc (.cells #[.int .i64 tt,.slice aa ll cc] 24)).drew none:=gDr (gRf _ _)
  have hga:=gTq hg (gTq hgt hgd)
  have HB0:=jh (kBq HB2.out hga)
  have HM0:=jh (HM2.out.call hga)
  have hsm:Same (W2.heap.size <= ·) w1 (w1.alloc (.cells #[.int .i64 tt,.slice aa ll cc] 24)).drew:=fun b o _ hl=>World.cell?_of_block ((gTq hgt hgd).block b hl (by simp))
  have HT0:=jh (hT1.same hsm)
  have HSZ:Hid (WB.heap.size <= W2.heap.size):=HM2.out.grow.size
  have HO1:Hid (∀ k,(Value.slice ta vs.length tc).ownBlock = some k -> k < W2.heap.size):=fun k hk=>(World.ownsRow.lt HM2.out.ownT k hk).2
  have HO2:Hid (∀ k,rv.ownBlock = some k -> k < W2.heap.size):=fun k hk=>(World.ownsRow.lt HM2.out.ownR k hk).2
  have hbd:=kBq hbt hgd
  have x0:=c0q hbd
  have x1:=c1q hbd
  obtain ⟨c0,c1,c2,c3,_⟩:=box9 HB0.out
  have hTr:True:=trivial
  have HCASE:=jh hcase
  have HT1:=jh hT1
  clear hg hgt hgd hbt hga hT1 m0 m1 m2 m3 m4 HP hp1 hbd hcase
  go_wp2_with fail
  refine wp_region_held_drew (S:=fun _=>True) (by kernel_rfl) ?_ (fun hHeld=>?_)
  ·trivial
  generalize (w1.alloc _).drew = w0 at *
  have c2a:=kNq (gBq (w:=w0) (.cells #[.int .i64 0,.slice none 0 0] 24)) c2
  have x0a:=kNq (gBq (w:=w0) (.cells #[.int .i64 0,.slice none 0 0] 24)) x0
  have x1a:=kNq (gBq (w:=w0) (.cells #[.int .i64 0,.slice none 0 0] 24)) x1
  refine rGq 0 38 ?_
  refine rGq 1 39 ?_
  refine rGq 2 40 ?_
  refine wpAnyH_ready (rs:=[3,4,6]) (by kernel_rfl) (by simp) ?_
  refine AllReadyH.cons rfl (fun K hK=>?_) (AllReadyH.cons rfl (fun K hK=>?_) (AllReadyH.cons rfl (fun K hK=>?_) AllReadyH.nil))
  ·go_simp
   refine hK.out _ _ trivial (fun _=>?_)
   clear hK K
   refine rGq 5 43 ?_
   refine wpAnyH_ready (rs:=[4,6]) (by kernel_rfl) (by simp) ?_
   refine AllReadyH.cons rfl (fun K hK=>?_) (AllReadyH.cons rfl (fun K hK=>?_) AllReadyH.nil)
   ·go_simp
    refine hK.out _ _ trivial (fun _=>?_)
    clear hK K
    refine wpAnyH_ready (rs:=[6]) (by kernel_rfl) (by simp) ?_
    refine AllReadyH.cons rfl (fun K hK=>?_) AllReadyH.nil
    ·go_simp
     refine hK.out _ _ trivial (fun _=>?_)
     clear hK K
     refine wpAnyH_ready (rs:=[7]) (by kernel_rfl) (by simp) ?_
     refine AllReadyH.cons rfl (fun K hK=>?_) AllReadyH.nil
     refine step_appT WB.heap.size vs 0 none 0 0 w0 (.slice ta vs.length tc) rfl (.tmp 41) (.tmp 44) rfl rfl rfl rfl HM0.out.ownT HM0.out.grow.size (by omega) ?_
     intro g cap w3 ho3 hg3
     have HO3:=jh ho3
     have HG3:=jh hg3
     obtain ⟨g0,g1,g2,g3⟩:=own_atT ho3
     have hneg:g ≠ ib:=by have:=HM0.out.lt;omega
     have hb3:=(hg3.block (Array.getElem?_eq_some_iff.1 HB0.out).1 (own_ne_type HM0.out.ownT HB0.out (by decide))).trans HB0.out
     have d2:=(box9 hb3).2.2.1
     have dfr:=free9 hb3
     clear ho3 hg3 hb3
     refine hK.out _ _ trivial (fun _=>?_)
     clear hK K
     refine rGq 8 46 ?_
     refine rGq 10 47 ?_
     refine rGq 11 48 ?_
     refine wpAnyH_ready (rs:=[9,12]) (by kernel_rfl) (by simp) ?_
     refine AllReadyH.cons rfl (fun K hK=>?_) (AllReadyH.cons rfl (fun K hK=>?_) AllReadyH.nil)
     ·go_simp
      refine hK.out _ _ trivial (fun _=>?_)
      clear hK K
      refine wpAnyH_ready (rs:=[12]) (by kernel_rfl) (by simp) ?_
      refine AllReadyH.cons rfl (fun K hK=>?_) AllReadyH.nil
      go_simp
      refine hK.out _ _ trivial (fun _=>?_)
      clear hK K
      refine wpAnyH_done (by kernel_rfl) ?_ _
      go_wp2_with fail
      go_ret
      first | exact take_endT (.inl rfl) HM0.out HB0.out HD.out HSZ.out HO1.out HO2.out HT0.out HO3.out HG3.out HCASE.out | exact take_endT (.inr rfl) HM0.out HB0.out HD.out HSZ.out HO1.out HO2.out HT0.out HO3.out HG3.out HCASE.out
     ·go_simp
      refine hK.out _ _ trivial (fun _=>?_)
      clear hK K
      refine wpAnyH_ready (rs:=[9]) (by kernel_rfl) (by simp) ?_
      refine AllReadyH.cons rfl (fun K hK=>?_) AllReadyH.nil
      go_simp
      refine hK.out _ _ trivial (fun _=>?_)
      clear hK K
      refine wpAnyH_done (by kernel_rfl) ?_ _
      go_wp2_with fail
      go_ret
      first
      | (have h:=take_endT (.inl rfl) HM0.out HB0.out HD.out HSZ.out HO1.out HO2.out HT0.out HO3.out HG3.out HCASE.out;rw [setCell_comm _ _ hneg,setCell_comm _ _ hneg] at h;exact h)
      | (have h:=take_endT (.inr rfl) HM0.out HB0.out HD.out HSZ.out HO1.out HO2.out HT0.out HO3.out HG3.out HCASE.out;rw [setCell_comm _ _ hneg,setCell_comm _ _ hneg] at h;exact h)
   ·go_simp
    refine hK.out _ _ trivial (fun _=>?_)
    clear hK K
    refine wpAnyH_ready (rs:=[4]) (by kernel_rfl) (by simp) ?_
    refine AllReadyH.cons rfl (fun K hK=>?_) AllReadyH.nil
    ·go_simp
     refine hK.out _ _ trivial (fun _=>?_)
     clear hK K
     refine wpAnyH_ready (rs:=[7]) (by kernel_rfl) (by simp) ?_
     refine AllReadyH.cons rfl (fun K hK=>?_) AllReadyH.nil
     refine step_appT WB.heap.size vs 0 none 0 0 w0 (.slice ta vs.length tc) rfl (.tmp 41) (.tmp 44) rfl rfl rfl rfl HM0.out.ownT HM0.out.grow.size (by omega) ?_
     intro g cap w3 ho3 hg3
     have HO3:=jh ho3
     have HG3:=jh hg3
     obtain ⟨g0,g1,g2,g3⟩:=own_atT ho3
     have hneg:g ≠ ib:=by have:=HM0.out.lt;omega
     have hb3:=(hg3.block (Array.getElem?_eq_some_iff.1 HB0.out).1 (own_ne_type HM0.out.ownT HB0.out (by decide))).trans HB0.out
     have d2:=(box9 hb3).2.2.1
     have dfr:=free9 hb3
     clear ho3 hg3 hb3
     refine hK.out _ _ trivial (fun _=>?_)
     clear hK K
     refine rGq 8 46 ?_
     refine rGq 10 47 ?_
     refine rGq 11 48 ?_
     refine wpAnyH_ready (rs:=[9,12]) (by kernel_rfl) (by simp) ?_
     refine AllReadyH.cons rfl (fun K hK=>?_) (AllReadyH.cons rfl (fun K hK=>?_) AllReadyH.nil)
     ·go_simp
      refine hK.out _ _ trivial (fun _=>?_)
      clear hK K
      refine wpAnyH_ready (rs:=[12]) (by kernel_rfl) (by simp) ?_
      refine AllReadyH.cons rfl (fun K hK=>?_) AllReadyH.nil
      go_simp
      refine hK.out _ _ trivial (fun _=>?_)
      clear hK K
      refine wpAnyH_done (by kernel_rfl) ?_ _
      go_wp2_with fail
      go_ret
      first | exact take_endT (.inl rfl) HM0.out HB0.out HD.out HSZ.out HO1.out HO2.out HT0.out HO3.out HG3.out HCASE.out | exact take_endT (.inr rfl) HM0.out HB0.out HD.out HSZ.out HO1.out HO2.out HT0.out HO3.out HG3.out HCASE.out
     ·go_simp
      refine hK.out _ _ trivial (fun _=>?_)
      clear hK K
      refine wpAnyH_ready (rs:=[9]) (by kernel_rfl) (by simp) ?_
      refine AllReadyH.cons rfl (fun K hK=>?_) AllReadyH.nil
      go_simp
      refine hK.out _ _ trivial (fun _=>?_)
      clear hK K
      refine wpAnyH_done (by kernel_rfl) ?_ _
      go_wp2_with fail
      go_ret
      first
      | (have h:=take_endT (.inl rfl) HM0.out HB0.out HD.out HSZ.out HO1.out HO2.out HT0.out HO3.out HG3.out HCASE.out;rw [setCell_comm _ _ hneg,setCell_comm _ _ hneg] at h;exact h)
      | (have h:=take_endT (.inr rfl) HM0.out HB0.out HD.out HSZ.out HO1.out HO2.out HT0.out HO3.out HG3.out HCASE.out;rw [setCell_comm _ _ hneg,setCell_comm _ _ hneg] at h;exact h)
  ·go_simp
   refine hK.out _ _ trivial (fun _=>?_)
   clear hK K
   refine wpAnyH_ready (rs:=[3,6]) (by kernel_rfl) (by simp) ?_
   refine AllReadyH.cons rfl (fun K hK=>?_) (AllReadyH.cons rfl (fun K hK=>?_) AllReadyH.nil)
   ·go_simp
    refine hK.out _ _ trivial (fun _=>?_)
    clear hK K
    refine rGq 5 43 ?_
    refine wpAnyH_ready (rs:=[6]) (by kernel_rfl) (by simp) ?_
    refine AllReadyH.cons rfl (fun K hK=>?_) AllReadyH.nil
    ·go_simp
     refine hK.out _ _ trivial (fun _=>?_)
     clear hK K
     refine wpAnyH_ready (rs:=[7]) (by kernel_rfl) (by simp) ?_
     refine AllReadyH.cons rfl (fun K hK=>?_) AllReadyH.nil
     refine step_appT WB.heap.size vs 0 none 0 0 w0 (.slice ta vs.length tc) rfl (.tmp 41) (.tmp 44) rfl rfl rfl rfl HM0.out.ownT HM0.out.grow.size (by omega) ?_
     intro g cap w3 ho3 hg3
     have HO3:=jh ho3
     have HG3:=jh hg3
     obtain ⟨g0,g1,g2,g3⟩:=own_atT ho3
     have hneg:g ≠ ib:=by have:=HM0.out.lt;omega
     have hb3:=(hg3.block (Array.getElem?_eq_some_iff.1 HB0.out).1 (own_ne_type HM0.out.ownT HB0.out (by decide))).trans HB0.out
     have d2:=(box9 hb3).2.2.1
     have dfr:=free9 hb3
     clear ho3 hg3 hb3
     refine hK.out _ _ trivial (fun _=>?_)
     clear hK K
     refine rGq 8 46 ?_
     refine rGq 10 47 ?_
     refine rGq 11 48 ?_
     refine wpAnyH_ready (rs:=[9,12]) (by kernel_rfl) (by simp) ?_
     refine AllReadyH.cons rfl (fun K hK=>?_) (AllReadyH.cons rfl (fun K hK=>?_) AllReadyH.nil)
     ·go_simp
      refine hK.out _ _ trivial (fun _=>?_)
      clear hK K
      refine wpAnyH_ready (rs:=[12]) (by kernel_rfl) (by simp) ?_
      refine AllReadyH.cons rfl (fun K hK=>?_) AllReadyH.nil
      go_simp
      refine hK.out _ _ trivial (fun _=>?_)
      clear hK K
      refine wpAnyH_done (by kernel_rfl) ?_ _
      go_wp2_with fail
      go_ret
      first | exact take_endT (.inl rfl) HM0.out HB0.out HD.out HSZ.out HO1.out HO2.out HT0.out HO3.out HG3.out HCASE.out | exact take_endT (.inr rfl) HM0.out HB0.out HD.out HSZ.out HO1.out HO2.out HT0.out HO3.out HG3.out HCASE.out
     ·go_simp
      refine hK.out _ _ trivial (fun _=>?_)
      clear hK K
      refine wpAnyH_ready (rs:=[9]) (by kernel_rfl) (by simp) ?_
      refine AllReadyH.cons rfl (fun K hK=>?_) AllReadyH.nil
      go_simp
      refine hK.out _ _ trivial (fun _=>?_)
      clear hK K
      refine wpAnyH_done (by kernel_rfl) ?_ _
      go_wp2_with fail
      go_ret
      first
      | (have h:=take_endT (.inl rfl) HM0.out HB0.out HD.out HSZ.out HO1.out HO2.out HT0.out HO3.out HG3.out HCASE.out;rw [setCell_comm _ _ hneg,setCell_comm _ _ hneg] at h;exact h)
      | (have h:=take_endT (.inr rfl) HM0.out HB0.out HD.out HSZ.out HO1.out HO2.out HT0.out HO3.out HG3.out HCASE.out;rw [setCell_comm _ _ hneg,setCell_comm _ _ hneg] at h;exact h)
   ·go_simp
    refine hK.out _ _ trivial (fun _=>?_)
    clear hK K
    refine wpAnyH_ready (rs:=[3]) (by kernel_rfl) (by simp) ?_
    refine AllReadyH.cons rfl (fun K hK=>?_) AllReadyH.nil
    ·go_simp
     refine hK.out _ _ trivial (fun _=>?_)
     clear hK K
     refine rGq 5 43 ?_
     refine wpAnyH_ready (rs:=[7]) (by kernel_rfl) (by simp) ?_
     refine AllReadyH.cons rfl (fun K hK=>?_) AllReadyH.nil
     refine step_appT WB.heap.size vs 0 none 0 0 w0 (.slice ta vs.length tc) rfl (.tmp 41) (.tmp 44) rfl rfl rfl rfl HM0.out.ownT HM0.out.grow.size (by omega) ?_
     intro g cap w3 ho3 hg3
     have HO3:=jh ho3
     have HG3:=jh hg3
     obtain ⟨g0,g1,g2,g3⟩:=own_atT ho3
     have hneg:g ≠ ib:=by have:=HM0.out.lt;omega
     have hb3:=(hg3.block (Array.getElem?_eq_some_iff.1 HB0.out).1 (own_ne_type HM0.out.ownT HB0.out (by decide))).trans HB0.out
     have d2:=(box9 hb3).2.2.1
     have dfr:=free9 hb3
     clear ho3 hg3 hb3
     refine hK.out _ _ trivial (fun _=>?_)
     clear hK K
     refine rGq 8 46 ?_
     refine rGq 10 47 ?_
     refine rGq 11 48 ?_
     refine wpAnyH_ready (rs:=[9,12]) (by kernel_rfl) (by simp) ?_
     refine AllReadyH.cons rfl (fun K hK=>?_) (AllReadyH.cons rfl (fun K hK=>?_) AllReadyH.nil)
     ·go_simp
      refine hK.out _ _ trivial (fun _=>?_)
      clear hK K
      refine wpAnyH_ready (rs:=[12]) (by kernel_rfl) (by simp) ?_
      refine AllReadyH.cons rfl (fun K hK=>?_) AllReadyH.nil
      go_simp
      refine hK.out _ _ trivial (fun _=>?_)
      clear hK K
      refine wpAnyH_done (by kernel_rfl) ?_ _
      go_wp2_with fail
      go_ret
      first | exact take_endT (.inl rfl) HM0.out HB0.out HD.out HSZ.out HO1.out HO2.out HT0.out HO3.out HG3.out HCASE.out | exact take_endT (.inr rfl) HM0.out HB0.out HD.out HSZ.out HO1.out HO2.out HT0.out HO3.out HG3.out HCASE.out
     ·go_simp
      refine hK.out _ _ trivial (fun _=>?_)
      clear hK K
      refine wpAnyH_ready (rs:=[9]) (by kernel_rfl) (by simp) ?_
      refine AllReadyH.cons rfl (fun K hK=>?_) AllReadyH.nil
      go_simp
      refine hK.out _ _ trivial (fun _=>?_)
      clear hK K
      refine wpAnyH_done (by kernel_rfl) ?_ _
      go_wp2_with fail
      go_ret
      first
      | (have h:=take_endT (.inl rfl) HM0.out HB0.out HD.out HSZ.out HO1.out HO2.out HT0.out HO3.out HG3.out HCASE.out;rw [setCell_comm _ _ hneg,setCell_comm _ _ hneg] at h;exact h)
      | (have h:=take_endT (.inr rfl) HM0.out HB0.out HD.out HSZ.out HO1.out HO2.out HT0.out HO3.out HG3.out HCASE.out;rw [setCell_comm _ _ hneg,setCell_comm _ _ hneg] at h;exact h)
  ·go_simp
   refine hK.out _ _ trivial (fun _=>?_)
   clear hK K
   refine wpAnyH_ready (rs:=[3,4]) (by kernel_rfl) (by simp) ?_
   refine AllReadyH.cons rfl (fun K hK=>?_) (AllReadyH.cons rfl (fun K hK=>?_) AllReadyH.nil)
   ·go_simp
    refine hK.out _ _ trivial (fun _=>?_)
    clear hK K
    refine rGq 5 43 ?_
    refine wpAnyH_ready (rs:=[4]) (by kernel_rfl) (by simp) ?_
    refine AllReadyH.cons rfl (fun K hK=>?_) AllReadyH.nil
    ·go_simp
     refine hK.out _ _ trivial (fun _=>?_)
     clear hK K
     refine wpAnyH_ready (rs:=[7]) (by kernel_rfl) (by simp) ?_
     refine AllReadyH.cons rfl (fun K hK=>?_) AllReadyH.nil
     refine step_appT WB.heap.size vs 0 none 0 0 w0 (.slice ta vs.length tc) rfl (.tmp 41) (.tmp 44) rfl rfl rfl rfl HM0.out.ownT HM0.out.grow.size (by omega) ?_
     intro g cap w3 ho3 hg3
     have HO3:=jh ho3
     have HG3:=jh hg3
     obtain ⟨g0,g1,g2,g3⟩:=own_atT ho3
     have hneg:g ≠ ib:=by have:=HM0.out.lt;omega
     have hb3:=(hg3.block (Array.getElem?_eq_some_iff.1 HB0.out).1 (own_ne_type HM0.out.ownT HB0.out (by decide))).trans HB0.out
     have d2:=(box9 hb3).2.2.1
     have dfr:=free9 hb3
     clear ho3 hg3 hb3
     refine hK.out _ _ trivial (fun _=>?_)
     clear hK K
     refine rGq 8 46 ?_
     refine rGq 10 47 ?_
     refine rGq 11 48 ?_
     refine wpAnyH_ready (rs:=[9,12]) (by kernel_rfl) (by simp) ?_
     refine AllReadyH.cons rfl (fun K hK=>?_) (AllReadyH.cons rfl (fun K hK=>?_) AllReadyH.nil)
     ·go_simp
      refine hK.out _ _ trivial (fun _=>?_)
      clear hK K
      refine wpAnyH_ready (rs:=[12]) (by kernel_rfl) (by simp) ?_
      refine AllReadyH.cons rfl (fun K hK=>?_) AllReadyH.nil
      go_simp
      refine hK.out _ _ trivial (fun _=>?_)
      clear hK K
      refine wpAnyH_done (by kernel_rfl) ?_ _
      go_wp2_with fail
      go_ret
      first | exact take_endT (.inl rfl) HM0.out HB0.out HD.out HSZ.out HO1.out HO2.out HT0.out HO3.out HG3.out HCASE.out | exact take_endT (.inr rfl) HM0.out HB0.out HD.out HSZ.out HO1.out HO2.out HT0.out HO3.out HG3.out HCASE.out
     ·go_simp
      refine hK.out _ _ trivial (fun _=>?_)
      clear hK K
      refine wpAnyH_ready (rs:=[9]) (by kernel_rfl) (by simp) ?_
      refine AllReadyH.cons rfl (fun K hK=>?_) AllReadyH.nil
      go_simp
      refine hK.out _ _ trivial (fun _=>?_)
      clear hK K
      refine wpAnyH_done (by kernel_rfl) ?_ _
      go_wp2_with fail
      go_ret
      first
      | (have h:=take_endT (.inl rfl) HM0.out HB0.out HD.out HSZ.out HO1.out HO2.out HT0.out HO3.out HG3.out HCASE.out;rw [setCell_comm _ _ hneg,setCell_comm _ _ hneg] at h;exact h)
      | (have h:=take_endT (.inr rfl) HM0.out HB0.out HD.out HSZ.out HO1.out HO2.out HT0.out HO3.out HG3.out HCASE.out;rw [setCell_comm _ _ hneg,setCell_comm _ _ hneg] at h;exact h)
   ·go_simp
    refine hK.out _ _ trivial (fun _=>?_)
    clear hK K
    refine wpAnyH_ready (rs:=[3]) (by kernel_rfl) (by simp) ?_
    refine AllReadyH.cons rfl (fun K hK=>?_) AllReadyH.nil
    ·go_simp
     refine hK.out _ _ trivial (fun _=>?_)
     clear hK K
     refine rGq 5 43 ?_
     refine wpAnyH_ready (rs:=[7]) (by kernel_rfl) (by simp) ?_
     refine AllReadyH.cons rfl (fun K hK=>?_) AllReadyH.nil
     refine step_appT WB.heap.size vs 0 none 0 0 w0 (.slice ta vs.length tc) rfl (.tmp 41) (.tmp 44) rfl rfl rfl rfl HM0.out.ownT HM0.out.grow.size (by omega) ?_
     intro g cap w3 ho3 hg3
     have HO3:=jh ho3
     have HG3:=jh hg3
     obtain ⟨g0,g1,g2,g3⟩:=own_atT ho3
     have hneg:g ≠ ib:=by have:=HM0.out.lt;omega
     have hb3:=(hg3.block (Array.getElem?_eq_some_iff.1 HB0.out).1 (own_ne_type HM0.out.ownT HB0.out (by decide))).trans HB0.out
     have d2:=(box9 hb3).2.2.1
     have dfr:=free9 hb3
     clear ho3 hg3 hb3
     refine hK.out _ _ trivial (fun _=>?_)
     clear hK K
     refine rGq 8 46 ?_
     refine rGq 10 47 ?_
     refine rGq 11 48 ?_
     refine wpAnyH_ready (rs:=[9,12]) (by kernel_rfl) (by simp) ?_
     refine AllReadyH.cons rfl (fun K hK=>?_) (AllReadyH.cons rfl (fun K hK=>?_) AllReadyH.nil)
     ·go_simp
      refine hK.out _ _ trivial (fun _=>?_)
      clear hK K
      refine wpAnyH_ready (rs:=[12]) (by kernel_rfl) (by simp) ?_
      refine AllReadyH.cons rfl (fun K hK=>?_) AllReadyH.nil
      go_simp
      refine hK.out _ _ trivial (fun _=>?_)
      clear hK K
      refine wpAnyH_done (by kernel_rfl) ?_ _
      go_wp2_with fail
      go_ret
      first | exact take_endT (.inl rfl) HM0.out HB0.out HD.out HSZ.out HO1.out HO2.out HT0.out HO3.out HG3.out HCASE.out | exact take_endT (.inr rfl) HM0.out HB0.out HD.out HSZ.out HO1.out HO2.out HT0.out HO3.out HG3.out HCASE.out
     ·go_simp
      refine hK.out _ _ trivial (fun _=>?_)
      clear hK K
      refine wpAnyH_ready (rs:=[9]) (by kernel_rfl) (by simp) ?_
      refine AllReadyH.cons rfl (fun K hK=>?_) AllReadyH.nil
      go_simp
      refine hK.out _ _ trivial (fun _=>?_)
      clear hK K
      refine wpAnyH_done (by kernel_rfl) ?_ _
      go_wp2_with fail
      go_ret
      first
      | (have h:=take_endT (.inl rfl) HM0.out HB0.out HD.out HSZ.out HO1.out HO2.out HT0.out HO3.out HG3.out HCASE.out;rw [setCell_comm _ _ hneg,setCell_comm _ _ hneg] at h;exact h)
      | (have h:=take_endT (.inr rfl) HM0.out HB0.out HD.out HSZ.out HO1.out HO2.out HT0.out HO3.out HG3.out HCASE.out;rw [setCell_comm _ _ hneg,setCell_comm _ _ hneg] at h;exact h)
theorem take_c {WB W:World} {ib:Nat} {i:Ins} {t:Tr} {nv:Value} {f:UInt8} {c:Int} (hf:f = 99 /\ c = 99 \/ f = 100 /\ c = 100) (hI:InsIs WB W ib i) (hL:Lies (· + 1 < ib) WB t nv) (htl:i.types.length <= 1000) (hrl:i.rows.length <= 1000) :
 Calls Tryz.prog 106 #[.pointer (some ⟨ib,0,none⟩),.int .u8 c,nv] W (TakePost WB ib i f t):=by
 obtain ⟨tv,rv,vs,rvs,da,dc,hb,hM,hD⟩:=hI
 obtain ⟨na,nc,VN,e1,⟨ik,iN,ip,hss⟩,hRN⟩:=hL.invN
 rw [e1]
 unfold nodeV
 have hgN:=gBq (w:=W) (.cells #[.int .i64 t.k0,.int .i64 t.n0,.int .i64 t.p0,.string t.s0,.slice na t.args0.length nc] 48)
 have hbN:=heap_alloc_new W (.cells #[.int .i64 t.k0,.int .i64 t.n0,.int .i64 t.p0,.string t.s0,.slice na t.args0.length nc] 48)
 have hb2:=kBq hb hgN
 have hM2:=hM.call hgN
 obtain ⟨m0,m1,m2,m3,m4⟩:=box5 hbN
 have hgd:(W.alloc (.cells #[.int .i64 t.k0,.int .i64 t.n0,.int .i64 t.p0,.string t.s0,.slice na t.args0.length nc] 48)).grownBy (W.alloc (.cells #[.int .i64 t.k0,.int .i64 t.n0,.int .i64 t.p0,.string t.s0,.slice na t.args0.length nc] 48)).drew none:=gDr (gRf _ _)
 have hbn:=kBq hbN hgd
 obtain ⟨y0,y1,y2,y3,y4⟩:=box5 hbn
 have HBN:=jh hbn
 obtain ⟨ra,rc,rfl,_⟩:=owns_form hM2.ownR
 have hvl:rvs.length <= 1000:=by have:=hM2.lenR;omega
 have HD:=jh hD
 have HM0:=jh (hM2.call hgd)
 have HB0:=jh (kBq hb2 hgd)
 have HRN:=jh hRN
 have hnw:some W.heap.size ≠ (Value.slice ra rvs.length rc).ownBlock:=fun e=>by have:=(World.ownsRow.lt hM.ownR W.heap.size e.symm).2;omega
 have hni:W.heap.size ≠ ib:=by have:=(Array.getElem?_eq_some_iff.1 hb).1;omega
 obtain ⟨c0,c1,c2,c3,_⟩:=box9 HB0.out
 have hTr:True:=trivial
 clear hgN hbN hM2 hb2 hM hD hb hL hRN e1 hgd hbn
 rcases hf with ⟨rfl,rfl⟩ | ⟨rfl,rfl⟩
 all_goals
  go_enter Tryz.func106,Tryz.ntmps106
  go_wp2_with fail
  refine wp_region_held_drew (S:=fun _=>True) (by kernel_rfl) ?_ (fun hHeld=>?_)
  ·trivial
  generalize (W.alloc _).drew = w0 at *
  have c3a:=kNq (gBq (w:=w0) (.cells #[.slice na t.args0.length nc] 25)) c3
  refine rGq 0 54 ?_
  refine rGq 1 55 ?_
  refine rGq 2 56 ?_
  refine rGq 3 57 ?_
  refine rGq 5 59 ?_
  refine wpAnyH_ready (rs:=[4,6]) (by kernel_rfl) (by simp) ?_
  refine AllReadyH.cons rfl (fun K hK=>?_) (AllReadyH.cons rfl (fun K hK=>?_) AllReadyH.nil)
  ·go_simp
   refine hK.out _ _ trivial (fun _=>?_)
   clear hK K
   refine wpAnyH_ready (rs:=[6]) (by kernel_rfl) (by simp) ?_
   refine AllReadyH.cons rfl (fun K hK=>?_) AllReadyH.nil
   go_simp
   refine hK.out _ _ trivial (fun _=>?_)
   clear hK K
   refine wpAnyH_ready (rs:=[7]) (by kernel_rfl) (by simp) ?_
   refine AllReadyH.cons rfl (fun K hK=>?_) AllReadyH.nil
   go_simp
   refine hK.out _ _ trivial (fun _=>?_)
   clear hK K
   refine wpAnyH_ready (rs:=[8]) (by kernel_rfl) (by simp) ?_
   refine AllReadyH.cons rfl (fun K hK=>?_) AllReadyH.nil
   refine step_appR WB.heap.size rvs na t.args0.length nc w0 (.slice ra rvs.length rc) rfl (.tmp 58) (.tmp 61) rfl rfl rfl rfl HM0.out.ownR HM0.out.grow.size (by omega) ?_
   intro g cap w3 ho3 hg3
   have HO3:=jh ho3
   have HG3:=jh hg3
   have hb3:=(hg3.block (Array.getElem?_eq_some_iff.1 HB0.out).1 (own_ne_type HM0.out.ownR HB0.out (by decide))).trans HB0.out
   have d2:=(box9 hb3).2.2.2.1
   have dfr:=free9 hb3
   have hn3:=(hg3.block (Array.getElem?_eq_some_iff.1 HBN.out).1 hnw).trans HBN.out
   have hn4:=((gSq (gRf w3 (some ib)) 3 none (.slice (some ⟨g,0,none⟩) (rvs.length + 1) cap)).block _ (Array.getElem?_eq_some_iff.1 hn3).1 (by simpa using hni)).trans hn3
   obtain ⟨q0,_⟩:=box5 hn3
   obtain ⟨r0,_⟩:=box5 hn4
   clear ho3 hg3 hb3 hn3 hn4
   refine hK.out _ _ trivial (fun _=>?_)
   clear hK K
   refine rGq 9 63 ?_
   refine rGq 10 64 ?_
   refine wpAnyH_ready (rs:=[11]) (by kernel_rfl) (by simp) ?_
   refine AllReadyH.cons rfl (fun K hK=>?_) AllReadyH.nil
   go_simp
   refine hK.out _ _ trivial (fun _=>?_)
   clear hK K
   refine wpAnyH_done (by kernel_rfl) ?_ _
   go_wp2_with fail
   go_ret
   first | exact take_endR (.inl rfl) HM0.out HB0.out HD.out HRN.out HO3.out HG3.out | exact take_endR (.inr rfl) HM0.out HB0.out HD.out HRN.out HO3.out HG3.out
  ·go_simp
   refine hK.out _ _ trivial (fun _=>?_)
   clear hK K
   refine wpAnyH_ready (rs:=[4,7]) (by kernel_rfl) (by simp) ?_
   refine AllReadyH.cons rfl (fun K hK=>?_) (AllReadyH.cons rfl (fun K hK=>?_) AllReadyH.nil)
   ·go_simp
    refine hK.out _ _ trivial (fun _=>?_)
    clear hK K
    refine wpAnyH_ready (rs:=[7]) (by kernel_rfl) (by simp) ?_
    refine AllReadyH.cons rfl (fun K hK=>?_) AllReadyH.nil
    go_simp
    refine hK.out _ _ trivial (fun _=>?_)
    clear hK K
    refine wpAnyH_ready (rs:=[8]) (by kernel_rfl) (by simp) ?_
    refine AllReadyH.cons rfl (fun K hK=>?_) AllReadyH.nil
    refine step_appR WB.heap.size rvs na t.args0.length nc w0 (.slice ra rvs.length rc) rfl (.tmp 58) (.tmp 61) rfl rfl rfl rfl HM0.out.ownR HM0.out.grow.size (by omega) ?_
    intro g cap w3 ho3 hg3
    have HO3:=jh ho3
    have HG3:=jh hg3
    have hb3:=(hg3.block (Array.getElem?_eq_some_iff.1 HB0.out).1 (own_ne_type HM0.out.ownR HB0.out (by decide))).trans HB0.out
    have d2:=(box9 hb3).2.2.2.1
    have dfr:=free9 hb3
    have hn3:=(hg3.block (Array.getElem?_eq_some_iff.1 HBN.out).1 hnw).trans HBN.out
    have hn4:=((gSq (gRf w3 (some ib)) 3 none (.slice (some ⟨g,0,none⟩) (rvs.length + 1) cap)).block _ (Array.getElem?_eq_some_iff.1 hn3).1 (by simpa using hni)).trans hn3
    obtain ⟨q0,_⟩:=box5 hn3
    obtain ⟨r0,_⟩:=box5 hn4
    clear ho3 hg3 hb3 hn3 hn4
    refine hK.out _ _ trivial (fun _=>?_)
    clear hK K
    refine rGq 9 63 ?_
    refine rGq 10 64 ?_
    refine wpAnyH_ready (rs:=[11]) (by kernel_rfl) (by simp) ?_
    refine AllReadyH.cons rfl (fun K hK=>?_) AllReadyH.nil
    go_simp
    refine hK.out _ _ trivial (fun _=>?_)
    clear hK K
    refine wpAnyH_done (by kernel_rfl) ?_ _
    go_wp2_with fail
    go_ret
    first | exact take_endR (.inl rfl) HM0.out HB0.out HD.out HRN.out HO3.out HG3.out | exact take_endR (.inr rfl) HM0.out HB0.out HD.out HRN.out HO3.out HG3.out
   ·go_simp
    refine hK.out _ _ trivial (fun _=>?_)
    clear hK K
    refine wpAnyH_ready (rs:=[4]) (by kernel_rfl) (by simp) ?_
    refine AllReadyH.cons rfl (fun K hK=>?_) AllReadyH.nil
    go_simp
    refine hK.out _ _ trivial (fun _=>?_)
    clear hK K
    refine wpAnyH_ready (rs:=[8]) (by kernel_rfl) (by simp) ?_
    refine AllReadyH.cons rfl (fun K hK=>?_) AllReadyH.nil
    refine step_appR WB.heap.size rvs na t.args0.length nc w0 (.slice ra rvs.length rc) rfl (.tmp 58) (.tmp 61) rfl rfl rfl rfl HM0.out.ownR HM0.out.grow.size (by omega) ?_
    intro g cap w3 ho3 hg3
    have HO3:=jh ho3
    have HG3:=jh hg3
    have hb3:=(hg3.block (Array.getElem?_eq_some_iff.1 HB0.out).1 (own_ne_type HM0.out.ownR HB0.out (by decide))).trans HB0.out
    have d2:=(box9 hb3).2.2.2.1
    have dfr:=free9 hb3
    have hn3:=(hg3.block (Array.getElem?_eq_some_iff.1 HBN.out).1 hnw).trans HBN.out
    have hn4:=((gSq (gRf w3 (some ib)) 3 none (.slice (some ⟨g,0,none⟩) (rvs.length + 1) cap)).block _ (Array.getElem?_eq_some_iff.1 hn3).1 (by simpa using hni)).trans hn3
    obtain ⟨q0,_⟩:=box5 hn3
    obtain ⟨r0,_⟩:=box5 hn4
    clear ho3 hg3 hb3 hn3 hn4
    refine hK.out _ _ trivial (fun _=>?_)
    clear hK K
    refine rGq 9 63 ?_
    refine rGq 10 64 ?_
    refine wpAnyH_ready (rs:=[11]) (by kernel_rfl) (by simp) ?_
    refine AllReadyH.cons rfl (fun K hK=>?_) AllReadyH.nil
    go_simp
    refine hK.out _ _ trivial (fun _=>?_)
    clear hK K
    refine wpAnyH_done (by kernel_rfl) ?_ _
    go_wp2_with fail
    go_ret
    first | exact take_endR (.inl rfl) HM0.out HB0.out HD.out HRN.out HO3.out HG3.out | exact take_endR (.inr rfl) HM0.out HB0.out HD.out HRN.out HO3.out HG3.out
theorem take_v {WB W:World} {ib:Nat} {i:Ins} {t:Tr} {nv:Value} {f:UInt8} {c:Int} (hf:f ≠ 110 /\ ¬ (f = 116 \/ f = 117) /\ ¬ (f = 99 \/ f = 100)) (hI:InsIs WB W ib i) (hL:Lies (· + 1 < ib) WB t nv) (hc:c ≠ 110 /\ c ≠ 116 /\ c ≠ 117 /\ c ≠ 99 /\ c ≠ 100) (htl:i.types.length <= 1000) (hrl:i.rows.length <= 1000) :
 Calls Tryz.prog 106 #[.pointer (some ⟨ib,0,none⟩),.int .u8 c,nv] W (TakePost WB ib i f t):=by
 obtain ⟨tv,rv,vs,rvs,da,dc,hb,hM,hD⟩:=hI
 obtain ⟨na,nc,VN,e1,⟨ik,iN,ip,hss⟩,hRN⟩:=hL.invN
 rw [e1]
 unfold nodeV
 have hgN:=gBq (w:=W) (.cells #[.int .i64 t.k0,.int .i64 t.n0,.int .i64 t.p0,.string t.s0,.slice na t.args0.length nc] 48)
 have hbN:=heap_alloc_new W (.cells #[.int .i64 t.k0,.int .i64 t.n0,.int .i64 t.p0,.string t.s0,.slice na t.args0.length nc] 48)
 have hb2:=kBq hb hgN
 have hM2:=hM.call hgN
 obtain ⟨m0,m1,m2,m3,m4⟩:=box5 hbN
 have hw:=set9_d hb2 (.int .i64 t.k0) (.int .i64 t.n0) (.int .i64 t.p0) (.string t.s0) (.slice na t.args0.length nc)
 have hgw:=gSq (gSq (gSq (gSq (gSq (gRf (W.alloc (.cells #[.int .i64 t.k0,.int .i64 t.n0,.int .i64 t.p0,.string t.s0,.slice na t.args0.length nc] 48)) (some ib)) 4 none (.int .i64 t.k0)) 5 none (.int .i64 t.n0)) 6 none (.int .i64 t.p0)) 7 none (.string t.s0)) 8 none (.slice na t.args0.length nc)
 have hM3:=hM2.step hgw
 rw [e1] at hL
 have HJ:Hid (InsIs WB _ ib { i with data:=t }):=⟨tv,rv,vs,rvs,na,nc,hw,hM3,hL⟩
 have HGB:=jh hM3.grow
 have fr:=free9 hb2
 obtain ⟨c0,c1,c2,c3,c4,c5,c6,c7,c8⟩:=box9 hb2
 have HT:Hid (takeF i f t = some { i with data:=t }):=by
  show _ = _
  unfold takeF
  rw [if_neg hf.1,if_neg hf.2.1,if_neg hf.2.2]
 have p1:(c == 110) = false:=by rw [beq_eq_false_iff_ne];omega
 have p2:(c == 116) = false:=by rw [beq_eq_false_iff_ne];omega
 have p3:(c == 117) = false:=by rw [beq_eq_false_iff_ne];omega
 have p4:(c == 99) = false:=by rw [beq_eq_false_iff_ne];omega
 have p5:(c == 100) = false:=by rw [beq_eq_false_iff_ne];omega
 clear hM3 hgw hw hM2 hb2 hgN hbN hM hD hb hL hRN e1 hf hc
 go_enter Tryz.func106,Tryz.ntmps106
 go_wp2_with fail
 go_ret
 exact take_yes HT.out HGB.out HJ.out
end Go.Proofs.YtkglnoimbekhhaaGreat
