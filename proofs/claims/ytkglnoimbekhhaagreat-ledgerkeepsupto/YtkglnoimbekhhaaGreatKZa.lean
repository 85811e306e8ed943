import Derived.Test.YtkglnoimbekhhaaGreatRows
import Derived.WalkKit
import Derived.ProofKit
import Derived.OpenShut
import Derived.Deep.QuietTactic
import Derived.BigQuiet
import Derived.Deep.AppendLies
import Derived.Deep.RegionLaw
import Derived.Maps.AppendAt
import Derived.Lib.Mul64
import Derived.Laws.Bits64b
import Derived.Laws.CopyRow
import Derived.Laws.MakeOwn
import Derived.Laws.OwnMore
import Derived.Deep.RegionHeld3
import Derived.Deep.DeepCutAuto
import Derived.Lib.AppendZeros
namespace Go.Proofs.YtkglnoimbekhhaaGreat.Lf
set_option maxRecDepth 100000
set_option maxHeartbeats 4000000
open Go.ChangeShapes Go.WideShapes Go.ChangeAt Go.RowKit
theorem nil_iff (s:ByteArray):s.toList = [] ↔ s.size = 0:=by
 rw [ByteArray.toList_eq];exact (List.length_eq_zero_iff (l:=s.data.toList)).symm.trans (by rw [Array.length_toList];rfl)
theorem retb {a b:Bool} {p:Prop} (h:a = b) (hw:p):Ending.returned (.bool a) = .returned (.bool b) /\ p:=by
 rw [h];exact ⟨rfl,hw⟩
theorem reti {k:IntKind} {a b:Int} {p:Prop} (h:a = b) (hw:p):Ending.returned (.int k a) = .returned (.int k b) /\ p:=by
 rw [h];exact ⟨rfl,hw⟩
theorem hide {p:Prop} (h:p):Hid p:=h
theorem gb {w:World} (o:Obj):w.grownBy (w.alloc o) none:=World.grownBy_alloc w o none
theorem gbt {a b c:World} (h:a.grownBy b none) (k:b.grownBy c none):a.grownBy c none :=
 ⟨k.os.trans h.os,k.tape.trans h.tape,k.output.trans h.output,Nat.le_trans h.size k.size,fun i hi _=>(k.block i (Nat.lt_of_lt_of_le hi h.size) (by simp)).trans (h.block i hi (by simp))⟩
theorem gcell {w w':World} (h:w.grownBy w' none):∀ b o,b < w.heap.size -> w'.cell? ⟨b,o,none⟩ = w.cell? ⟨b,o,none⟩ :=
 fun b o hb=>World.cell?_of_block (h.block b hb (by simp))
end Go.Proofs.YtkglnoimbekhhaaGreat.Lf
namespace Go.Proofs.YtkglnoimbekhhaaGreat
set_option maxRecDepth 100000
set_option maxHeartbeats 4000000
open Go.ChangeShapes Go.WideShapes Go.ChangeAt Go.RowKit
theorem aI {a b:Prop} (x:a) (y:b):a ∧ b:=⟨x,y⟩
theorem jh {p:Prop} (h:p):Hid p:=h
theorem gBq {w:World} (o:Obj):w.grownBy (w.alloc o) none:=Go.Proofs.YtkglnoimbekhhaaGreat.Lf.gb o
theorem gTq {a b c:World} (h:a.grownBy b none) (k:b.grownBy c none):a.grownBy c none:=Go.Proofs.YtkglnoimbekhhaaGreat.Lf.gbt h k
theorem gAq {a b:World} {r:Option Nat} (h:a.grownBy b none):a.grownBy b r:=⟨h.os,h.tape,h.output,h.size,fun k hk _=>h.block k hk (by simp)⟩
theorem gTr {a b c:World} {r:Option Nat} (h:a.grownBy b r) (k:b.grownBy c r):a.grownBy c r :=
 ⟨k.os.trans h.os,k.tape.trans h.tape,k.output.trans h.output,Nat.le_trans h.size k.size,fun i hi hr=>(k.block i (Nat.lt_of_lt_of_le hi h.size) hr).trans (h.block i hi hr)⟩
theorem gRf (a:World) (r:Option Nat):a.grownBy a r:=⟨rfl,rfl,rfl,Nat.le_refl _,fun _ _ _=>rfl⟩
theorem gSq {a b:World} {g:Nat} (h:a.grownBy b (some g)) (o:Nat) (sp:Option Nat) (v:Value):a.grownBy (b.setCell ⟨g,o,sp⟩ v) (some g) :=
 gTr h ⟨rfl,rfl,rfl,by simp [World.setCell],fun k hk hr=>Below.heap_setCell _ _ _ _ (by simpa using hr)⟩
theorem blk_eq {x:Option Obj} {a b:Int} {T:TypeId} (hx:x = some (.cells #[.int .i64 a] T (0,0))) (h:a = b):x = some (.cells #[.int .i64 b] T (0,0)):=by rw [hx,h]
inductive Tr where
 | nd (k n p:Int) (s:ByteArray) (args:List Tr)
mutual
def Tr.size:Tr -> Nat
 | .nd _ _ _ _ args=>sizes args + 1
def sizes:List Tr -> Nat
 | []=>0
 | t :: ts=>t.size + sizes ts
end
theorem sizes_append (a b:List Tr):sizes (a ++ b) = sizes a + sizes b:=by
 induction a with
 | nil=>simp [sizes]
 | cons t ts ih=>simp [sizes,ih];omega
theorem size_pos (t:Tr):1 <= t.size:=by cases t;simp [Tr.size]
theorem sizes_take_succ (l:List Tr) (i:Nat) (h:i < l.length):sizes (l.take (i + 1)) = sizes (l.take i) + (l[i]).size:=by
 rw [List.take_succ_eq_append_getElem h,sizes_append];simp [sizes]
theorem sizes_take_le (l:List Tr) (i:Nat):sizes (l.take i) <= sizes l:=by
 have h:=sizes_append (l.take i) (l.drop i)
 rw [List.take_append_drop] at h;omega
theorem length_le_sizes (l:List Tr):l.length <= sizes l:=by
 induction l with
 | nil=>simp
 | cons t ts ih=>have:=size_pos t;simp [sizes];omega
def nodeV (k n p:Int) (s:ByteArray) (a:Option Addr) (l c:Nat):Value:=.agg #[.int .i64 k,.int .i64 n,.int .i64 p,.string s,.slice a l c]
def NodeAt (ok:Nat -> Prop) (w:World) (a:Option Addr) (i:Nat) (v:Value):Prop :=
 ∃ b o,a = some ⟨b,o,none⟩ /\ ok b /\ ∃ k n p s a' l c,v = nodeV k n p s a' l c /\ w.cell? ⟨b,o + i * 5,none⟩ = some (.int .i64 k) /\ w.cell? ⟨b,o + i * 5 + 1,none⟩ = some (.int .i64 n) /\
  w.cell? ⟨b,o + i * 5 + 2,none⟩ = some (.int .i64 p) /\ w.cell? ⟨b,o + i * 5 + 3,none⟩ = some (.string s) /\ w.cell? ⟨b,o + i * 5 + 4,none⟩ = some (.slice a' l c)
def I64 (n:Int):Prop:=-9223372036854775808 <= n /\ n <= 9223372036854775807
inductive Lies (ok:Nat -> Prop) (w:World):Tr -> Value -> Prop
 | mk {k n p:Int} {s:ByteArray} {args:List Tr} {a:Option Addr} {c:Nat} {hk:args.length <= c} (V:Nat -> Value) (hl:args.length <= maxLen) (hs:s.size <= maxLen) (ik:I64 k) (iN:I64 n) (ip:I64 p)
  (hc:∀ i,i < args.length -> NodeAt ok w a i (V i)) (hr:∀ i (h:i < args.length),Lies ok w args[i] (V i)):Lies ok w (.nd k n p s args) (nodeV k n p s a args.length c)
def Same (ok:Nat -> Prop) (w w':World):Prop:=∀ b o,ok b -> b < w.heap.size -> w'.cell? ⟨b,o,none⟩ = w.cell? ⟨b,o,none⟩
theorem Same.refl (ok:Nat -> Prop) (w:World):Same ok w w:=fun _ _ _ _=>rfl
theorem Same.grown {ok:Nat -> Prop} {w w1 w2:World} {row:Option Nat} (h:Same ok w w1) (hz:w.heap.size <= w1.heap.size) (g:w1.grownBy w2 row) (hr:∀ b,ok b -> some b ≠ row):Same ok w w2 :=
 fun b o hb hw=>(World.cell?_of_block (w:=w1) (g.block b (by show b < _;omega) (hr b hb))).trans (h b o hb hw)
theorem Same.below {B:Nat} {w w1:World} (h:Below B w w1):Same (· < B) w w1:=fun b o hb _=>h.cell (p:=⟨b,o,none⟩) hb
theorem NodeAt.same {ok:Nat -> Prop} {w w':World} {a:Option Addr} {i:Nat} {v:Value} (h:NodeAt ok w a i v) (hs:Same ok w w'):NodeAt ok w' a i v:=by
 obtain ⟨b,o,ha,hb,k,n,p,s,a',l,c,hv,h0,h1,h2,h3,h4⟩:=h
 have hlt:b < w.heap.size:=World.block_lt_of_cell? w _ h0
 exact ⟨b,o,ha,hb,k,n,p,s,a',l,c,hv,(hs _ _ hb hlt).trans h0,(hs _ _ hb hlt).trans h1,(hs _ _ hb hlt).trans h2,(hs _ _ hb hlt).trans h3,(hs _ _ hb hlt).trans h4⟩
theorem Lies.same {ok:Nat -> Prop} {w w':World} {t:Tr} {v:Value} (h:Lies ok w t v) (hs:Same ok w w'):Lies ok w' t v:=by
 induction h with
 | mk V hl hS ik iN ip hc _ ih=>exact .mk (hk:=by assumption) V hl hS ik iN ip (fun i hi=>(hc i hi).same hs) ih
theorem Lies.okMono {ok ok':Nat -> Prop} {w:World} {t:Tr} {v:Value} (h:Lies ok w t v) (hm:∀ b,b < w.heap.size -> ok b -> ok' b):Lies ok' w t v:=by
 induction h with
 | mk V hl hS ik iN ip hc _ ih =>
  refine .mk (hk:=by assumption) V hl hS ik iN ip (fun i hi=>?_) ih
  obtain ⟨b,o,ha,hb,k,n,p,s,a',l,c,hv,h0,h1⟩:=hc i hi
  exact ⟨b,o,ha,hm b (World.block_lt_of_cell? w _ h0) hb,k,n,p,s,a',l,c,hv,h0,h1⟩
def Gr (w:World) (vb:Value) (w':World) (v':Value):Prop:=w.grownBy w' vb.ownBlock /\ (v'.ownBlock = vb.ownBlock \/ ∃ g,v'.ownBlock = some g /\ w.heap.size <= g)
theorem Gr.refl (w:World) (v:Value):Gr w v w v:=⟨gRf _ _,.inl rfl⟩
theorem Gr.trans {w w1 w2:World} {v v1 v2:Value} (h:Gr w v w1 v1) (k:Gr w1 v1 w2 v2):Gr w v w2 v2:=by
 obtain ⟨h1,h2⟩:=h
 obtain ⟨k1,k2⟩:=k
 refine ⟨⟨k1.os.trans h1.os,k1.tape.trans h1.tape,k1.output.trans h1.output,Nat.le_trans h1.size k1.size,fun i hi hr=>?_⟩,?_⟩
 ·refine (k1.block i (Nat.lt_of_lt_of_le hi h1.size) ?_).trans (h1.block i hi hr)
  rcases h2 with h2 | ⟨g,h2,hg⟩
  ·rw [h2];exact hr
  ·rw [h2];simp;omega
 ·rcases k2 with k2 | ⟨g,k2,hg⟩
  ·rcases h2 with h2 | ⟨g,h2,hg⟩
   ·exact .inl (k2.trans h2)
   ·exact .inr ⟨g,k2.trans h2,hg⟩
  ·exact .inr ⟨g,k2,Nat.le_trans h1.size hg⟩
theorem Gr.ofDrew {w w1:World} {v v1:Value} (h:Gr w.drew v w1 v1):Gr w v w1 v1:=⟨⟨h.1.os,h.1.tape,h.1.output,h.1.size,h.1.block⟩,h.2⟩
theorem Gr.alloc {w w1:World} {v v1:Value} (h:Gr w v w1 v1) (o:Obj):Gr w v (w1.alloc o) v1:=h.trans ⟨World.grownBy_alloc _ _ _,.inl rfl⟩
theorem Gr.block {w w1:World} {v v1:Value} (h:Gr w v w1 v1) {k:Nat} (hk:k < w.heap.size) (hne:some k ≠ v.ownBlock):w1.heap[k]? = w.heap[k]?:=h.1.block k hk hne
theorem box5 {w:World} {g:Nat} {T:TypeId} {x0 x1 x2 x3 x4:Value} (h:w.heap[g]? = some (.cells #[x0,x1,x2,x3,x4] T (0,0))) :
 w.cell? ⟨g,0,none⟩ = some x0 /\ w.cell? ⟨g,1,none⟩ = some x1 /\ w.cell? ⟨g,2,none⟩ = some x2 /\ w.cell? ⟨g,3,none⟩ = some x3 /\ w.cell? ⟨g,4,none⟩ = some x4:=by
 simp [World.cell?,h]
theorem set_far {w:World} {g N o:Nat} {ob:Obj} (h:w.heap[g]? = some ob) (hne:g ≠ N) (u:Value):(w.setCell ⟨N,o,none⟩ u).heap[g]? = some ob:=by
 rw [Below.heap_setCell _ _ _ _ hne];exact h
theorem grow_new {w w2 w3:World} {r:Option Nat} {g:Nat} (h:w.grownBy w2 r) (k:w2.grownBy w3 (some g)) (hg:w.heap.size <= g):w.grownBy w3 r :=
 ⟨k.os.trans h.os,k.tape.trans h.tape,k.output.trans h.output,Nat.le_trans h.size k.size,fun i hi hr=>(k.block i (Nat.lt_of_lt_of_le hi h.size) (by simp;omega)).trans (h.block i hi hr)⟩
theorem rNw (w:World) (o o':Obj):((w.alloc o).alloc o').heap[w.heap.size]? = some o:=by
 rw [heap_alloc_old (h:=by simp)];exact heap_alloc_new _ _
theorem gDr {w w':World} {r:Option Nat} (h:w.grownBy w' r):w.grownBy w'.drew r:=⟨h.os,h.tape,h.output,h.size,h.block⟩
theorem grow_drewN {w w':World} {r:Option Nat} {n:Nat} (h:w.grownBy w' r):w.grownBy (w'.drewN n) r:=⟨h.os,h.tape,h.output,h.size,h.block⟩
theorem c0q {w:World} {b:Nat} {x y:Value} {t:TypeId} (h:w.heap[b]? = some (.cells #[x,y] t (0,0))):w.cell? ⟨b,0,none⟩ = some x:=by simp [World.cell?,h]
theorem c1q {w:World} {b:Nat} {x y:Value} {t:TypeId} (h:w.heap[b]? = some (.cells #[x,y] t (0,0))):w.cell? ⟨b,1,none⟩ = some y:=by simp [World.cell?,h]
theorem free2_of {w:World} {b:Nat} {x y:Value} {T:TypeId} (h:w.heap[b]? = some (.cells #[x,y] T (0,0))):∀ o,w.frozen? ⟨b,o,none⟩ = false:=by intro o;simp [World.frozen?,h]
theorem heap_keep {w:World} {k:Nat} {o x:Obj} (h:w.heap[k]? = some x):(w.alloc o).heap[k]? = some x:=by
 rw [heap_alloc_old (h:=(Array.getElem?_eq_some_iff.1 h).1)];exact h
theorem set_size (w:World) (p:Addr) (v:Value):(w.setCell p v).heap.size = w.heap.size:=by simp
inductive Ty where
 | nd (t:Int) (args:List Ty)
def Ty.t:Ty -> Int
 | .nd t _=>t
def Ty.args:Ty -> List Ty
 | .nd _ l=>l
mutual
def Ty.size:Ty -> Nat
 | .nd _ args=>tysizes args + 1
def tysizes:List Ty -> Nat
 | []=>0
 | t :: ts=>t.size + tysizes ts
end
theorem tysizes_append (a b:List Ty):tysizes (a ++ b) = tysizes a + tysizes b:=by
 induction a with
 | nil=>simp [tysizes]
 | cons t ts ih=>simp [tysizes,ih];omega
theorem tysize_pos (t:Ty):1 <= t.size:=by cases t;simp [Ty.size]
theorem tysizes_take_succ (l:List Ty) (i:Nat) (h:i < l.length):tysizes (l.take (i + 1)) = tysizes (l.take i) + (l[i]).size:=by
 rw [List.take_succ_eq_append_getElem h,tysizes_append];simp [tysizes]
theorem tysizes_take_le (l:List Ty) (i:Nat):tysizes (l.take i) <= tysizes l:=by
 have h:=tysizes_append (l.take i) (l.drop i)
 rw [List.take_append_drop] at h;omega
theorem tylength_le (l:List Ty):l.length <= tysizes l:=by
 induction l with
 | nil=>simp
 | cons t ts ih=>have:=tysize_pos t;simp [tysizes];omega
theorem tysize_mem {l:List Ty} {x:Ty} (h:x ∈ l):x.size <= tysizes l:=by
 induction l with
 | nil=>simp at h
 | cons t ts ih =>
  simp [tysizes]
  rcases List.mem_cons.1 h with rfl | h
  ·omega
  ·have:=ih h;omega
def tyV (t:Int) (a:Option Addr) (l c:Nat):Value:=.agg #[.int .i64 t,.slice a l c]
def TyAt (ok:Nat -> Prop) (w:World) (a:Option Addr) (i:Nat) (v:Value):Prop :=
 ∃ b o,a = some ⟨b,o,none⟩ /\ ok b /\ ∃ t a' l c,v = tyV t a' l c /\ w.cell? ⟨b,o + i * 2,none⟩ = some (.int .i64 t) /\ w.cell? ⟨b,o + i * 2 + 1,none⟩ = some (.slice a' l c)
inductive LiesT (ok:Nat -> Prop) (w:World):Ty -> Value -> Prop
 | mk {t:Int} {args:List Ty} {a:Option Addr} {c:Nat} (V:Nat -> Value) (hl:args.length <= maxLen) (hlc:args.length <= c) (it:I64 t)
  (hc:∀ i,i < args.length -> TyAt ok w a i (V i)) (hr:∀ i (h:i < args.length),LiesT ok w args[i] (V i)):LiesT ok w (.nd t args) (tyV t a args.length c)
def RowT (ok:Nat -> Prop) (w:World) (ts:List Ty) (a:Option Addr) (V:Nat -> Value):Prop :=
 ts.length <= maxLen /\ (∀ i,i < ts.length -> TyAt ok w a i (V i)) /\ ∀ i (h:i < ts.length),LiesT ok w ts[i] (V i)
theorem TyAt.same {ok:Nat -> Prop} {w w':World} {a:Option Addr} {i:Nat} {v:Value} (h:TyAt ok w a i v) (hs:Same ok w w'):TyAt ok w' a i v:=by
 obtain ⟨b,o,ha,hb,t,a',l,c,hv,h0,h1⟩:=h
 have hlt:b < w.heap.size:=World.block_lt_of_cell? w _ h0
 exact ⟨b,o,ha,hb,t,a',l,c,hv,(hs _ _ hb hlt).trans h0,(hs _ _ hb hlt).trans h1⟩
theorem TyAt.okMono {ok ok':Nat -> Prop} {w:World} {a:Option Addr} {i:Nat} {v:Value} (h:TyAt ok w a i v) (hm:∀ b,b < w.heap.size -> ok b -> ok' b):TyAt ok' w a i v:=by
 obtain ⟨b,o,ha,hb,t,a',l,c,hv,h0,h1⟩:=h
 exact ⟨b,o,ha,hm b (World.block_lt_of_cell? w _ h0) hb,t,a',l,c,hv,h0,h1⟩
theorem LiesT.same {ok:Nat -> Prop} {w w':World} {t:Ty} {v:Value} (h:LiesT ok w t v) (hs:Same ok w w'):LiesT ok w' t v:=by
 induction h with
 | mk V hl hlc it hc _ ih=>exact .mk V hl hlc it (fun i hi=>(hc i hi).same hs) ih
theorem LiesT.okMono {ok ok':Nat -> Prop} {w:World} {t:Ty} {v:Value} (h:LiesT ok w t v) (hm:∀ b,b < w.heap.size -> ok b -> ok' b):LiesT ok' w t v:=by
 induction h with
 | mk V hl hlc it hc _ ih=>exact .mk V hl hlc it (fun i hi=>(hc i hi).okMono hm) ih
theorem RowT.same {ok:Nat -> Prop} {w w':World} {ts:List Ty} {a:Option Addr} {V:Nat -> Value} (h:RowT ok w ts a V) (hs:Same ok w w'):RowT ok w' ts a V :=
 ⟨h.1,fun i hi=>(h.2.1 i hi).same hs,fun i hi=>(h.2.2 i hi).same hs⟩
theorem RowT.okMono {ok ok':Nat -> Prop} {w:World} {ts:List Ty} {a:Option Addr} {V:Nat -> Value} (h:RowT ok w ts a V) (hm:∀ b,b < w.heap.size -> ok b -> ok' b):RowT ok' w ts a V :=
 ⟨h.1,fun i hi=>(h.2.1 i hi).okMono hm,fun i hi=>(h.2.2 i hi).okMono hm⟩
theorem RowT.nil (ok:Nat -> Prop) (w:World) (a:Option Addr) (V:Nat -> Value):RowT ok w [] a V :=
 ⟨by simp [maxLen],fun i hi=>by simp at hi,fun i hi=>by simp at hi⟩
theorem LiesT.inv {ok:Nat -> Prop} {w:World} {t:Ty} {v:Value} (h:LiesT ok w t v):∃ a c V,v = tyV t.t a t.args.length c /\ I64 t.t /\ RowT ok w t.args a V:=by
 cases h with
 | mk V hl hlc it hc hr=>exact ⟨_,_,V,rfl,it,hl,hc,hr⟩
theorem LiesT.cap {ok:Nat -> Prop} {w:World} {T:Ty} {t:Int} {a:Option Addr} {l c:Nat} (h:LiesT ok w T (Go.Proofs.YtkglnoimbekhhaaGreat.tyV t a l c)):l <= c:=by
 generalize hv:Go.Proofs.YtkglnoimbekhhaaGreat.tyV t a l c = v at h
 cases h with
 | mk V hl hlc it hc hr =>
  unfold Go.Proofs.YtkglnoimbekhhaaGreat.tyV at hv
  simp only [Value.agg.injEq,Array.mk.injEq,List.cons.injEq,Value.slice.injEq,and_true] at hv
  omega
theorem own_capT {w:World} {B:Nat} {e:TypeId} {size n:Nat} {v:Value} {xs:List Value} (h:w.ownsRow B e size v n xs) {a:Option Addr} {l c:Nat} (hv:v = .slice a l c):l <= c:=by
 subst hv
 rcases h.2 with ⟨hq,_⟩ | ⟨g,cap,cur,hq,_,_,hnc,_⟩
 ·simp only [Value.slice.injEq] at hq;omega
 ·simp only [Value.slice.injEq] at hq;omega
theorem LiesT.of {ok:Nat -> Prop} {w:World} {t:Int} {ts:List Ty} {a:Option Addr} {c:Nat} {V:Nat -> Value} (it:I64 t) (h:RowT ok w ts a V) (hlc:ts.length <= c):LiesT ok w (.nd t ts) (tyV t a ts.length c) :=
 .mk V h.1 hlc it h.2.1 h.2.2
theorem TyAt.cells {ok:Nat -> Prop} {w:World} {a:Option Addr} {i:Nat} {v:Value} (h:TyAt ok w a i v) :
 ∃ b o t a' l c,a = some ⟨b,o,none⟩ /\ ok b /\ v = tyV t a' l c /\ w.cell? ⟨b,o + i * 2,none⟩ = some (.int .i64 t) /\ w.cell? ⟨b,o + i * 2 + 1,none⟩ = some (.slice a' l c):=by
 obtain ⟨b,o,ha,hb,t,a',l,c,hv,h0,h1⟩:=h
 exact ⟨b,o,t,a',l,c,ha,hb,hv,h0,h1⟩
inductive Va where
 | mk (k n a:Int) (s:ByteArray) (args:List Va) (types:List Ty) (code:List Tr)
def Va.k:Va -> Int
 | .mk k _ _ _ _ _ _=>k
def Va.n:Va -> Int
 | .mk _ n _ _ _ _ _=>n
def Va.a:Va -> Int
 | .mk _ _ a _ _ _ _=>a
def Va.s:Va -> ByteArray
 | .mk _ _ _ s _ _ _=>s
def Va.args:Va -> List Va
 | .mk _ _ _ _ l _ _=>l
def Va.types:Va -> List Ty
 | .mk _ _ _ _ _ t _=>t
def Va.code:Va -> List Tr
 | .mk _ _ _ _ _ _ c=>c
mutual
def Va.size:Va -> Nat
 | .mk _ _ _ _ args types code=>vsizes args + tysizes types + sizes code + 1
def vsizes:List Va -> Nat
 | []=>0
 | t :: ts=>t.size + vsizes ts
end
theorem vsizes_append (a b:List Va):vsizes (a ++ b) = vsizes a + vsizes b:=by
 induction a with
 | nil=>simp [vsizes]
 | cons t ts ih=>simp [vsizes,ih];omega
theorem vsize_pos (t:Va):1 <= t.size:=by cases t;simp [Va.size]
theorem vsize_eq (v:Va):v.size = vsizes v.args + tysizes v.types + sizes v.code + 1:=by cases v;simp [Va.size,Va.args,Va.types,Va.code]
theorem vlength_le (l:List Va):l.length <= vsizes l:=by
 induction l with
 | nil=>simp
 | cons t ts ih=>have:=vsize_pos t;simp [vsizes];omega
theorem vsize_mem {l:List Va} {x:Va} (h:x ∈ l):x.size <= vsizes l:=by
 induction l with
 | nil=>simp at h
 | cons t ts ih =>
  simp [vsizes]
  rcases List.mem_cons.1 h with rfl | h
  ·omega
  ·have:=ih h;omega
def RowN (ok:Nat -> Prop) (w:World) (ts:List Tr) (a:Option Addr) (V:Nat -> Value):Prop :=
 ts.length <= maxLen /\ (∀ i,i < ts.length -> NodeAt ok w a i (V i)) /\ ∀ i (h:i < ts.length),Lies ok w ts[i] (V i)
theorem NodeAt.okMono {ok ok':Nat -> Prop} {w:World} {a:Option Addr} {i:Nat} {v:Value} (h:NodeAt ok w a i v) (hm:∀ b,b < w.heap.size -> ok b -> ok' b):NodeAt ok' w a i v:=by
 obtain ⟨b,o,ha,hb,k,n,p,s,a',l,c,hv,h0,h1⟩:=h
 exact ⟨b,o,ha,hm b (World.block_lt_of_cell? w _ h0) hb,k,n,p,s,a',l,c,hv,h0,h1⟩
theorem RowN.same {ok:Nat -> Prop} {w w':World} {ts:List Tr} {a:Option Addr} {V:Nat -> Value} (h:RowN ok w ts a V) (hs:Same ok w w'):RowN ok w' ts a V :=
 ⟨h.1,fun i hi=>(h.2.1 i hi).same hs,fun i hi=>(h.2.2 i hi).same hs⟩
theorem RowN.okMono {ok ok':Nat -> Prop} {w:World} {ts:List Tr} {a:Option Addr} {V:Nat -> Value} (h:RowN ok w ts a V) (hm:∀ b,b < w.heap.size -> ok b -> ok' b):RowN ok' w ts a V :=
 ⟨h.1,fun i hi=>(h.2.1 i hi).okMono hm,fun i hi=>(h.2.2 i hi).okMono hm⟩
theorem RowN.nil (ok:Nat -> Prop) (w:World) (a:Option Addr) (V:Nat -> Value):RowN ok w [] a V :=
 ⟨by simp [maxLen],fun i hi=>by simp at hi,fun i hi=>by simp at hi⟩
def vaV (k n a:Int) (s:ByteArray) (aa:Option Addr) (al ac:Nat) (ta:Option Addr) (tl tc:Nat) (na:Option Addr) (nl nc:Nat):Value :=
 .agg #[.int .i64 k,.int .i64 n,.int .i64 a,.string s,.slice aa al ac,.slice ta tl tc,.slice na nl nc]
def VaAt (ok:Nat -> Prop) (w:World) (p:Option Addr) (i:Nat) (v:Value):Prop :=
 ∃ b o,p = some ⟨b,o,none⟩ /\ ok b /\ ∃ k n a s aa al ac ta tl tc na nl nc,v = vaV k n a s aa al ac ta tl tc na nl nc /\ w.cell? ⟨b,o + i * 7,none⟩ = some (.int .i64 k) /\ w.cell? ⟨b,o + i * 7 + 1,none⟩ = some (.int .i64 n) /\
  w.cell? ⟨b,o + i * 7 + 2,none⟩ = some (.int .i64 a) /\ w.cell? ⟨b,o + i * 7 + 3,none⟩ = some (.string s) /\ w.cell? ⟨b,o + i * 7 + 4,none⟩ = some (.slice aa al ac) /\ w.cell? ⟨b,o + i * 7 + 5,none⟩ = some (.slice ta tl tc) /\ w.cell? ⟨b,o + i * 7 + 6,none⟩ = some (.slice na nl nc)
inductive LiesV (ok:Nat -> Prop) (w:World):Va -> Value -> Prop
 | mk {k n a:Int} {s:ByteArray} {args:List Va} {types:List Ty} {code:List Tr} {aa ta na:Option Addr} {ac tc nc:Nat} {hnk:code.length <= nc /\ types.length <= tc} (V VT VN:Nat -> Value) (hl:args.length <= maxLen) (hlc:args.length <= ac) (hs:s.size <= maxLen) (ik:I64 k) (iN:I64 n) (ia:I64 a)
  (hT:RowT ok w types ta VT) (hN:RowN ok w code na VN)
  (hc:∀ i,i < args.length -> VaAt ok w aa i (V i)) (hr:∀ i (h:i < args.length),LiesV ok w args[i] (V i)):LiesV ok w (.mk k n a s args types code) (vaV k n a s aa args.length ac ta types.length tc na code.length nc)
def RowVa (ok:Nat -> Prop) (w:World) (ts:List Va) (a:Option Addr) (V:Nat -> Value):Prop :=
 ts.length <= maxLen /\ (∀ i,i < ts.length -> VaAt ok w a i (V i)) /\ ∀ i (h:i < ts.length),LiesV ok w ts[i] (V i)
theorem VaAt.same {ok:Nat -> Prop} {w w':World} {p:Option Addr} {i:Nat} {v:Value} (h:VaAt ok w p i v) (hs:Same ok w w'):VaAt ok w' p i v:=by
 obtain ⟨b,o,hp,hb,k,n,a,s,aa,al,ac,ta,tl,tc,na,nl,nc,hv,h0,h1,h2,h3,h4,h5,h6⟩:=h
 have hlt:b < w.heap.size:=World.block_lt_of_cell? w _ h0
 exact ⟨b,o,hp,hb,k,n,a,s,aa,al,ac,ta,tl,tc,na,nl,nc,hv,(hs _ _ hb hlt).trans h0,(hs _ _ hb hlt).trans h1,(hs _ _ hb hlt).trans h2,(hs _ _ hb hlt).trans h3,(hs _ _ hb hlt).trans h4,(hs _ _ hb hlt).trans h5,(hs _ _ hb hlt).trans h6⟩
theorem VaAt.okMono {ok ok':Nat -> Prop} {w:World} {p:Option Addr} {i:Nat} {v:Value} (h:VaAt ok w p i v) (hm:∀ b,b < w.heap.size -> ok b -> ok' b):VaAt ok' w p i v:=by
 obtain ⟨b,o,hp,hb,k,n,a,s,aa,al,ac,ta,tl,tc,na,nl,nc,hv,h0,h1⟩:=h
 exact ⟨b,o,hp,hm b (World.block_lt_of_cell? w _ h0) hb,k,n,a,s,aa,al,ac,ta,tl,tc,na,nl,nc,hv,h0,h1⟩
theorem LiesV.same {ok:Nat -> Prop} {w w':World} {t:Va} {v:Value} (h:LiesV ok w t v) (hs:Same ok w w'):LiesV ok w' t v:=by
 induction h with
 | mk V VT VN hl hlc hS ik iN ia hT hN hc _ ih=>exact .mk (hnk:=by assumption) V VT VN hl hlc hS ik iN ia (hT.same hs) (hN.same hs) (fun i hi=>(hc i hi).same hs) ih
theorem LiesV.okMono {ok ok':Nat -> Prop} {w:World} {t:Va} {v:Value} (h:LiesV ok w t v) (hm:∀ b,b < w.heap.size -> ok b -> ok' b):LiesV ok' w t v:=by
 induction h with
 | mk V VT VN hl hlc hS ik iN ia hT hN hc _ ih=>exact .mk (hnk:=by assumption) V VT VN hl hlc hS ik iN ia (hT.okMono hm) (hN.okMono hm) (fun i hi=>(hc i hi).okMono hm) ih
theorem RowVa.same {ok:Nat -> Prop} {w w':World} {ts:List Va} {a:Option Addr} {V:Nat -> Value} (h:RowVa ok w ts a V) (hs:Same ok w w'):RowVa ok w' ts a V :=
 ⟨h.1,fun i hi=>(h.2.1 i hi).same hs,fun i hi=>(h.2.2 i hi).same hs⟩
theorem RowVa.okMono {ok ok':Nat -> Prop} {w:World} {ts:List Va} {a:Option Addr} {V:Nat -> Value} (h:RowVa ok w ts a V) (hm:∀ b,b < w.heap.size -> ok b -> ok' b):RowVa ok' w ts a V :=
 ⟨h.1,fun i hi=>(h.2.1 i hi).okMono hm,fun i hi=>(h.2.2 i hi).okMono hm⟩
theorem RowVa.nil (ok:Nat -> Prop) (w:World) (a:Option Addr) (V:Nat -> Value):RowVa ok w [] a V :=
 ⟨by simp [maxLen],fun i hi=>by simp at hi,fun i hi=>by simp at hi⟩
theorem LiesV.inv {ok:Nat -> Prop} {w:World} {x:Va} {v:Value} (h:LiesV ok w x v):∃ aa ac ta tc na nc V VT VN,v = vaV x.k x.n x.a x.s aa x.args.length ac ta x.types.length tc na x.code.length nc /\ (I64 x.k /\ I64 x.n /\ I64 x.a /\ x.s.size <= maxLen /\ x.args.length <= ac) /\ RowVa ok w x.args aa V /\ RowT ok w x.types ta VT /\ RowN ok w x.code na VN:=by
 cases h with
 | mk V VT VN hl hlc hs ik iN ia hT hN hc hr=>exact ⟨_,_,_,_,_,_,V,VT,VN,rfl,⟨ik,iN,ia,hs,hlc⟩,⟨hl,hc,hr⟩,hT,hN⟩
theorem LiesV.of {ok:Nat -> Prop} {w:World} {k n a:Int} {s:ByteArray} {args:List Va} {types:List Ty} {code:List Tr} {aa ta na:Option Addr} {ac tc nc:Nat} {V VT VN:Nat -> Value} (hlc:args.length <= ac) (hs:s.size <= maxLen) (ik:I64 k) (iN:I64 n) (ia:I64 a)
 (h:RowVa ok w args aa V) (hT:RowT ok w types ta VT) (hN:RowN ok w code na VN) (hnk:code.length <= nc /\ types.length <= tc:=by simp):LiesV ok w (.mk k n a s args types code) (vaV k n a s aa args.length ac ta types.length tc na code.length nc) :=
 .mk (hnk:=hnk) V VT VN h.1 hlc hs ik iN ia hT hN h.2.1 h.2.2
theorem LiesV.vaV {ok:Nat -> Prop} {w:World} {t:Va} {u:Value} (h:LiesV ok w t u):∃ k n a s aa al ac ta tl tc na nl nc,u = vaV k n a s aa al ac ta tl tc na nl nc:=by cases h;exact ⟨_,_,_,_,_,_,_,_,_,_,_,_,_,rfl⟩
theorem box7 {w:World} {g:Nat} {T:TypeId} {x0 x1 x2 x3 x4 x5 x6:Value} (h:w.heap[g]? = some (.cells #[x0,x1,x2,x3,x4,x5,x6] T (0,0))) :
 w.cell? ⟨g,0,none⟩ = some x0 /\ w.cell? ⟨g,1,none⟩ = some x1 /\ w.cell? ⟨g,2,none⟩ = some x2 /\ w.cell? ⟨g,3,none⟩ = some x3 /\ w.cell? ⟨g,4,none⟩ = some x4 /\ w.cell? ⟨g,5,none⟩ = some x5 /\ w.cell? ⟨g,6,none⟩ = some x6:=by
 simp [World.cell?,h]
theorem sAl {w w':World} (h:w.grownBy w' none):Same (fun _=>True) w w':=fun b o _ hlt=>World.cell?_of_block (h.block b hlt (by simp))
theorem gCq {a b c:World} (h:Hid (a.grownBy b none)) (g:b.grownBy c none):Hid (a.grownBy c none):=gTq h.out g
theorem tCq {w w':World} {t:Ty} {v:Value} (h:Hid (LiesT (fun _=>True) w t v)) (g:w.grownBy w' none):Hid (LiesT (fun _=>True) w' t v):=h.out.same (sAl g)
set_option linter.unusedVariables false
def SrcAt (w:World) (xv:Value) (m:Nat) (news:List Value):Prop :=
 (∃ c,xv = .slice none 0 c /\ m = 0 /\ news = []) \/ ∃ ad c,xv = .slice (some ad) m c /\ ∀ j u,news[j]? = some u -> w.cell? (ad.add j) = some u
theorem SrcAt.alloc {w:World} {xv:Value} {m:Nat} {news:List Value} (h:SrcAt w xv m news) (o:Obj):SrcAt (w.alloc o) xv m news:=by
 rcases h with h | ⟨ad,c,rfl,h⟩
 ·exact .inl h
 ·refine .inr ⟨ad,c,rfl,fun j u hu=>?_⟩
  have h1:=h j u hu
  exact (World.cell?_of_block ((heap_alloc_old (w:=w) (o:=o) (h:=World.block_lt_of_cell? w _ h1)))).trans h1
theorem SrcAt.new (w:World) (e:TypeId) (cs:Array Value) (m c:Nat):SrcAt (w.alloc (.cells cs e)) (.slice (some ⟨w.heap.size,0,none⟩) m c) m cs.toList :=
 .inr ⟨_,_,rfl,fun j u hu=>World.news_of_block (w:=w.alloc _) (B:=w.heap.size) (cs:=cs) (heap_alloc_new _ _) j u hu⟩
theorem run_app (w:World) (base:Nat) (t ty e:TypeId) (i:TypeInfo) (z:Value) (size bytes:Nat) (ht:Tryz.prog.underlying t = some (.slice e)) (hi:Tryz.prog.info? e = some i) (hz:i.zero = some z)
 (hsize:i.size = size) (hby:i.bytes = bytes) (hzs:z.cells.size = size) (hsz:0 < size) (v:Value) (n:Nat) (xs:List Value) (hown:w.ownsRow base e size v n xs)
 (xv:Value) (m:Nat) (news:List Value) (hl:news.length = m * size) (hsrc:SrcAt w xv m news) (h1:∀ u ∈ news,u.oneCell' = true) (h63:n + m <= maxLen) (hbytes:(n + m) * bytes <= 140737488355328) (hbase:base <= w.heap.size) :
 ∃ v' w',(Builtin.append_ #[t,t] ty #[v,xv]).run Tryz.prog w = .ok v' w' /\ w'.ownsRow base e size v' (n + m) (xs ++ news) /\ Gr w v w' v' /\ (v' = .slice none 0 0 ↔ v = .slice none 0 0 /\ m = 0):=by
 rcases hsrc with ⟨c,rfl,rfl,rfl⟩ | ⟨ad,c,rfl,hnews⟩
 ·refine ⟨v,w,?_,by simpa using hown,Gr.refl _ _,by simp⟩
  rcases hown.2 with ⟨rfl,rfl⟩ | ⟨g,cap,cur,rfl,_,hg,hnc,_⟩
  ·simp [Builtin.append_,run_underlying ht,sizeOf,typeInfo,hi,Builtin.lenOf,Builtin.firstCells]
  ·simp [Builtin.append_,run_underlying ht,sizeOf,typeInfo,hi,Builtin.lenOf,Builtin.firstCells,hnc,storeCells]
 ·obtain ⟨v',w',hr,h2,h3,h4,h5⟩:=run_append_own_at (P:=Tryz.prog) w base t ty e i z size bytes ht hi hz hsize hby hzs hsz v n xs hown ad m c news hl hnews h1 h63 hbytes hbase
  refine ⟨v',w',hr,h2,⟨h3,?_⟩,h4⟩
  rcases h5 with h5 | h5
  ·exact .inl h5
  ·exact .inr ⟨_,h5,Nat.le_refl _⟩
theorem wp_app {w:World} {o:Oper} {a:Act} {K:Act -> World -> Prop} {Q:Exit -> Act -> World -> Prop} (s x:Operand) (t:TypeId)
 (ho:o.op = .call { callee:=.builtin .append,args:=#[s,x],argTypes:=#[t,t] })
 (base:Nat) (e:TypeId) (i:TypeInfo) (z:Value) (size bytes:Nat) (ht:Tryz.prog.underlying t = some (.slice e)) (hi:Tryz.prog.info? e = some i) (hz:i.zero = some z)
 (hsize:i.size = size) (hby:i.bytes = bytes) (hzs:z.cells.size = size) (hsz:0 < size) (v:Value) (n:Nat) (xs:List Value) (hs:a.eval s = v) (hown:w.ownsRow base e size v n xs)
 (xv:Value) (m:Nat) (news:List Value) (hx:a.eval x = xv) (hl:news.length = m * size) (hsrc:SrcAt w xv m news) (h1:∀ u ∈ news,u.oneCell' = true) (h63:n + m <= maxLen) (hbytes:(n + m) * bytes <= 140737488355328) (hbase:base <= w.heap.size)
 (h:∀ v' w',w'.ownsRow base e size v' (n + m) (xs ++ news) -> Gr w v w' v' -> (v' = .slice none 0 0 ↔ v = .slice none 0 0 /\ m = 0) -> K (a.put o.dst v') w'):o.wp Tryz.prog a w K Q:=by
 obtain ⟨v',w',hr,h2,h3,h4⟩:=run_app w base t o.type e i z size bytes ht hi hz hsize hby hzs hsz v n xs hown xv m news hl hsrc h1 h63 hbytes hbase
 unfold Oper.wp execOp
 simp only [ho,resolve,invoke,builtin,Sem.run_bind,Sem.run_pure,Result.andThen_ok,List.map_toArray,List.map_cons,List.map_nil,hs,hx,hr]
 exact h v' w' h2 h3 h4
theorem wpList_app {w:World} {ops:Array Oper} {rest:List Oper} {o:Oper} {a:Act} {Q:Exit -> Act -> World -> Prop} (hgd:o.guard = none) (s x:Operand) (t:TypeId)
 (ho:o.op = .call { callee:=.builtin .append,args:=#[s,x],argTypes:=#[t,t] })
 (base:Nat) (e:TypeId) {z:Value} {size bytes:Nat} (ht:Tryz.prog.underlying t = some (.slice e)) (hinf:(Tryz.prog.info? e).map (fun i=>(i.zero,i.size,i.bytes)) = some (some z,size,bytes))
 (hzs:z.cells.size = size) (hsz:0 < size) (v:Value) (n:Nat) (xs:List Value) (hs:a.eval s = v) (hown:w.ownsRow base e size v n xs)
 (xv:Value) (m:Nat) (news:List Value) (hx:a.eval x = xv) (hl:news.length = m * size) (hsrc:SrcAt w xv m news) (h1:∀ u ∈ news,u.oneCell' = true) (h63:n + m <= maxLen) (hbytes:(n + m) * bytes <= 140737488355328) (hbase:base <= w.heap.size)
 (h:∀ v' w',w'.ownsRow base e size v' (n + m) (xs ++ news) -> Gr w v w' v' -> (v' = .slice none 0 0 ↔ v = .slice none 0 0 /\ m = 0) -> wpList Tryz.prog ops Q rest (a.put o.dst v') w'):wpList Tryz.prog ops Q (o :: rest) a w:=by
 obtain ⟨i0,hi,hz0,hz1,hz2⟩:=info_parts hinf
 exact wpList_plain hgd fun _ hK=>wp_app s x t ho base e i0 z size bytes ht hi hz0 hz1 hz2 hzs hsz v n xs hs hown xv m news hx hl hsrc h1 h63 hbytes hbase fun v' w' h2 h3 h4=>hK _ _ (h v' w' h2 h3 h4)
theorem step_app {w:World} {ops:Array Oper} {o:Oper} {a:Act} {K:Act -> World -> Prop} {Q:Exit -> Act -> World -> Prop} {E:Prop} (hgd:o.guard = none) (s x:Operand) (t:TypeId)
 (ho:o.op = .call { callee:=.builtin .append,args:=#[s,x],argTypes:=#[t,t] })
 (base:Nat) (e:TypeId) {z:Value} {size bytes:Nat} (ht:Tryz.prog.underlying t = some (.slice e)) (hinf:(Tryz.prog.info? e).map (fun i=>(i.zero,i.size,i.bytes)) = some (some z,size,bytes))
 (hzs:z.cells.size = size) (hsz:0 < size) (v:Value) (n:Nat) (xs:List Value) (hs:a.eval s = v) (hown:w.ownsRow base e size v n xs)
 (xv:Value) (m:Nat) (news:List Value) (hx:a.eval x = xv) (hl:news.length = m * size) (hsrc:SrcAt w xv m news) (h1:∀ u ∈ news,u.oneCell' = true) (h63:n + m <= maxLen) (hbytes:(n + m) * bytes <= 140737488355328) (hbase:base <= w.heap.size)
 (h:∀ v' w',w'.ownsRow base e size v' (n + m) (xs ++ news) -> Gr w v w' v' -> (v' = .slice none 0 0 ↔ v = .slice none 0 0 /\ m = 0) -> K (a.put o.dst v') w') :
 if Region.wanted o (yielded ops a.tmps) = true then Oper.wp Tryz.prog o a w K Q else E:=by
 have hw:Region.wanted o (yielded ops a.tmps) = true:=by simp [Region.wanted,hgd]
 rw [if_pos hw]
 obtain ⟨i0,hi,hz0,hz1,hz2⟩:=info_parts hinf
 exact wp_app s x t ho base e i0 z size bytes ht hi hz0 hz1 hz2 hzs hsz v n xs hs hown xv m news hx hl hsrc h1 h63 hbytes hbase h
theorem own_src {w:World} {base:Nat} {e:TypeId} {size n:Nat} {v:Value} {xs:List Value} (h:w.ownsRow base e size v n xs):SrcAt w v n xs:=by
 rcases h.2 with ⟨rfl,rfl⟩ | ⟨g,cap,cur,rfl,hb,hg,_⟩
 ·exact .inl ⟨0,rfl,rfl,List.eq_nil_of_length_eq_zero (by simpa using h.1)⟩
 ·exact .inr ⟨_,_,rfl,World.ownsRow.cells h (g:=g) rfl⟩
theorem ne_of_type {w:World} {x y:Nat} {cs ds:Array Value} {T U:TypeId} (hx:w.heap[x]? = some (.cells cs T (0,0))) (hy:w.heap[y]? = some (.cells ds U (0,0))) (h:T ≠ U):x ≠ y:=by
 intro e
 subst e
 rw [hx] at hy
 injection hy with hy
 injection hy with h1 h2
 exact h h2
theorem own_ne_type {w:World} {B:Nat} {e:TypeId} {size n:Nat} {v:Value} {xs:List Value} (h:w.ownsRow B e size v n xs) {y:Nat} {ds:Array Value} {U:TypeId} (hy:w.heap[y]? = some (.cells ds U (0,0))) (hU:e ≠ U):some y ≠ v.ownBlock:=by
 rcases h.2 with ⟨rfl,_⟩ | ⟨g,cap,cur,rfl,_,hg,_⟩
 ·simp [Value.ownBlock]
 ·have:=ne_of_type hg hy hU
  simp [Value.ownBlock];omega
theorem grow_own {w0 w w':World} {v:Value} {B:Nat} {e:TypeId} {size n:Nat} {xs:List Value} (h:w0.grownBy w none) (ho:w.ownsRow B e size v n xs) (hB:w0.heap.size <= B) (hg:w.grownBy w' v.ownBlock):w0.grownBy w' none :=
 ⟨hg.os.trans h.os,hg.tape.trans h.tape,hg.output.trans h.output,Nat.le_trans h.size hg.size,fun i hi hr=>(hg.block i (Nat.lt_of_lt_of_le hi h.size) (fun e=>by have:=(World.ownsRow.lt ho i e.symm).1;omega)).trans (h.block i hi hr)⟩
theorem grow_setNew {w0 w:World} {b:Nat} (h:w0.grownBy w none) (hb:w0.heap.size <= b) (o:Nat) (sp:Option Nat) (v:Value):w0.grownBy (w.setCell ⟨b,o,sp⟩ v) none :=
 ⟨h.os,h.tape,h.output,by rw [set_size];exact h.size,fun i hi hr=>(Below.heap_setCell _ _ _ _ (by show i ≠ b;omega)).trans (h.block i hi hr)⟩
namespace Halves
set_option maxRecDepth 100000
set_option maxHeartbeats 4000000
theorem low {a:Nat} (h:a < 18446744073709551616):bits .and .u64 (a:Int) 4294967295 = ((a % 4294967296:Nat):Int):=by
 have e:=bits_and_u64_nat a 4294967295 h (by omega)
 rw [show a &&& 4294967295 = a % 4294967296 from Nat.and_two_pow_sub_one_eq_mod a 32] at e
 exact e
theorem high (a:Nat):(a:Int) / 4294967296 = ((a / 4294967296:Nat):Int):=by omega
theorem prod (a b:Nat):(a:Int) * (b:Int) = ((a * b:Nat):Int):=(Int.natCast_mul a b).symm
theorem sum (a b:Nat):(a:Int) + (b:Int) = ((a + b:Nat):Int):=(Int.natCast_add a b).symm
theorem stays {a:Nat} (h:a < 18446744073709551616):IntKind.u64.wrap (a:Int) = (a:Int):=by rw [IntKind.wrap_u64];omega
theorem turns (a:Nat):IntKind.u64.wrap (a:Int) = ((a % 18446744073709551616:Nat):Int):=by rw [IntKind.wrap_u64];omega
end Halves
theorem mul64_any (x y:Nat) (hx:x < 18446744073709551616) (hy:y < 18446744073709551616) (w:World) :
 Calls Tryz.prog 130 #[.int .u64 x,.int .u64 y] w fun e w'=>e = .returned (.tuple #[.int .u64 ((x * y / 18446744073709551616:Nat):Int),.int .u64 ((x * y % 18446744073709551616:Nat):Int)]) /\ w' = w:=by
 obtain ⟨b1,b2,b3,hhi⟩:=Lib.mul64_hi x y hx hy
 have p1:=Lib.half_mul_le (a:=x / 4294967296) (b:=y / 4294967296) (by omega) (by omega)
 have p2:=Lib.half_mul_le (a:=x / 4294967296) (b:=y % 4294967296) (by omega) (by omega)
 have p3:=Lib.half_mul_le (a:=x % 4294967296) (b:=y / 4294967296) (by omega) (by omega)
 have q1:x / 4294967296 * (y / 4294967296) < 18446744073709551616:=by omega
 have q2:x / 4294967296 * (y % 4294967296) < 18446744073709551616:=by omega
 have q3:x % 4294967296 * (y / 4294967296) < 18446744073709551616:=by omega
 have s1:x / 4294967296 * (y / 4294967296) + (x / 4294967296 * (y % 4294967296) + x % 4294967296 * (y % 4294967296) / 4294967296) / 4294967296 < 18446744073709551616:=by omega
 have s2:x / 4294967296 * (y / 4294967296) + (x / 4294967296 * (y % 4294967296) + x % 4294967296 * (y % 4294967296) / 4294967296) / 4294967296 + ((x / 4294967296 * (y % 4294967296) + x % 4294967296 * (y % 4294967296) / 4294967296) % 4294967296 + x % 4294967296 * (y / 4294967296)) / 4294967296 < 18446744073709551616:=by omega
 have HH:Hid (_ = _):=hhi
 clear hhi
 go_enter Tryz.func130,Tryz.ntmps130
 go_wp2
 simp only [Halves.low hx,Halves.low hy,Halves.high,Halves.prod,Halves.sum,Halves.stays b1,Halves.stays q2,Halves.stays b2,Halves.low b2,Halves.stays q3,Halves.stays b3,Halves.stays q1,Halves.stays s1,Halves.stays s2,Halves.turns (x * y)]
 rw [HH.out]
 go_ret2
 exact ⟨rfl,rfl⟩
theorem bmul_one (n:Nat) (hn:n < 1000000) (w:World) :
 Calls Tryz.prog 118 #[.int .u64 1,.int .u64 n] w fun e w'=>e = .returned (.tuple #[.int .u64 0,.int .u64 n]) /\ w' = w:=by
 have h:=mul64_any 1 n (by omega) (by omega)
 have e1:1 * n / 18446744073709551616 = 0:=by omega
 have e2:1 * n % 18446744073709551616 = n:=by omega
 rw [e1,e2] at h
 have H:=jh h
 clear h e1 e2
 go_enter Tryz.func118,Tryz.ntmps118
 go_wp2_with fail
 refine (H.out _).mono ?_;rintro e w' ⟨rfl,rfl⟩
 go_wp2_with fail
 go_ret2
 exact ⟨rfl,rfl⟩
end Go.Proofs.YtkglnoimbekhhaaGreat
namespace Go.Proofs.YtkglnoimbekhhaaGreat
set_option maxRecDepth 100000
set_option maxHeartbeats 4000000
open Go.ChangeShapes Go.WideShapes Go.ChangeAt Go.RowKit
set_option linter.unusedVariables false
theorem run_copyG (w:World) (dT sT ty elem:TypeId) (i:TypeInfo) (hu:Tryz.prog.underlying dT = some (.slice elem)) (hi:Tryz.prog.info? elem = some i) (g o dLen dCap:Nat) (ad:Addr) (sLen sCap:Nat) (cur:Array Value) (t:TypeId) (cs:List Value)
 (hg:w.heap[g]? = some (.cells cur t (0,0))) (hn:cs.length = Nat.min sLen dLen * i.size) (hsrc:∀ j v,cs[j]? = some v -> w.cell? (ad.add j) = some v) (hfit:o + cs.length <= cur.size) (h1:∀ v ∈ cs,v.oneCell' = true) :
 (Builtin.copy_ #[dT,sT] ty #[.slice (some ⟨g,o,none⟩) dLen dCap,.slice (some ad) sLen sCap]).run Tryz.prog w =
  .ok (goInt (Nat.min sLen dLen)) (w.setRow g (cur.toList.take o ++ cs ++ cur.toList.drop (o + cs.length)).toArray):=by
 have hl:=run_loadCells_list (P:=Tryz.prog) w ad cs hsrc
 have hst:=run_storeCells_at Tryz.prog g o t cs 0 cur w hg (by simpa using hfit) h1
 simp [Builtin.copy_,run_underlying hu,Builtin.lenOf,Builtin.firstCells,sizeOf,typeInfo,hi,← hn,hl,hst]
def RepAt (w:World) (g n m:Nat) (u0 u1:Value):Prop:=∃ cur:Array Value,w.heap[g]? = some (.cells cur 24 (0,0)) /\ cur.size = n * 2 /\ m <= n /\ ∀ j,j < m -> cur[j * 2]? = some u0 /\ cur[j * 2 + 1]? = some u1
theorem info_tyR:(Tryz.prog.info? 24).map (fun i=>(i.zero,i.size,i.bytes)) = some (some (.agg #[.int .i64 0,.slice none 0 0]),2,32):=by kernel_rfl
theorem rep_more {w:World} {g n m:Nat} {u0 u1:Value} (h:RepAt w g n m u0 u1) (o0:u0.oneCell' = true) (o1:u1.oneCell' = true) (k:Nat) (ad:Addr) (c sc sl dl:Nat) (hk:k = Nat.min sl dl) (hfit:m + k <= n)
 (hsrc:∀ j,j < k -> w.cell? (ad.add (j * 2)) = some u0 /\ w.cell? (ad.add (j * 2 + 1)) = some u1) :
 ∃ w2,(∀ ty,(Builtin.copy_ #[22,22] ty #[.slice (some ⟨g,m * 2,none⟩) dl c,.slice (some ad) sl sc]).run Tryz.prog w = .ok (.int .i64 (k:Nat)) w2) /\ RepAt w2 g n (m + k) u0 u1 /\ w.grownBy w2 (some g):=by
 obtain ⟨cur,hg,hsz,hmn,hc⟩:=h
 obtain ⟨i0,hi,hz0,hz1,hz2⟩:=info_parts info_tyR
 let cs:List Value:=(List.range (k * 2)).map fun j=>if j % 2 = 0 then u0 else u1
 have hlen:cs.length = k * 2:=by simp [cs]
 have hget:∀ j v,cs[j]? = some v -> j < k * 2 /\ v = if j % 2 = 0 then u0 else u1:=by
  intro j v hv
  have hj:j < k * 2:=by rw [← hlen];exact (List.getElem?_eq_some_iff.1 hv).1
  refine ⟨hj,?_⟩
  simp [cs,hj] at hv
  exact hv.symm
 have hr:∀ ty,_:=fun ty=>run_copyG w 22 22 ty 24 i0 Tryz.underlying22 hi g (m * 2) dl c ad sl sc cur 24 cs hg (by rw [hlen,hz1,hk]) (by
  intro j v hv
  obtain ⟨hj,rfl⟩:=hget j v hv
  obtain ⟨q0,q1⟩:=hsrc (j / 2) (by omega)
  by_cases hp:j % 2 = 0
  ·rw [if_pos hp];rw [show j / 2 * 2 = j from by omega] at q0;exact q0
  ·rw [if_neg hp];rw [show j / 2 * 2 + 1 = j from by omega] at q1;exact q1) (by rw [hlen,hsz];omega) (by
  intro v hv
  obtain ⟨j,hj,rfl⟩:=List.getElem_of_mem hv
  obtain ⟨_,h2⟩:=hget j _ (List.getElem?_eq_getElem hj)
  rw [h2];split <;> assumption)
 refine ⟨w.setRow g (cur.toList.take (m * 2) ++ cs ++ cur.toList.drop (m * 2 + cs.length)).toArray,fun ty=>?_,⟨_,setRow_heap w g cur _ _ _ hg,?_,hfit,fun j hj=>?_⟩,?_⟩
 ·rw [hr ty,← hk];rfl
 ·simp [hlen];omega
 ·have key:∀ q,q < (m + k) * 2 -> (cur.toList.take (m * 2) ++ cs ++ cur.toList.drop (m * 2 + cs.length)).toArray[q]? = some (if q % 2 = 0 then u0 else u1):=by
   intro q hq
   rw [List.getElem?_toArray,List.append_assoc]
   by_cases h1:q < m * 2
   ·rw [List.getElem?_append_left (by simp;omega),List.getElem?_take,if_pos h1,Array.getElem?_toList]
    obtain ⟨e0,e1⟩:=hc (q / 2) (by omega)
    by_cases hp:q % 2 = 0
    ·rw [if_pos hp];rw [show q / 2 * 2 = q from by omega] at e0;exact e0
    ·rw [if_neg hp];rw [show q / 2 * 2 + 1 = q from by omega] at e1;exact e1
   ·have hl2:(cur.toList.take (m * 2)).length = m * 2:=by simp;omega
    rw [List.getElem?_append_right (by omega),hl2,List.getElem?_append_left (by omega)]
    have hlt:q - m * 2 < k * 2:=by omega
    simp only [cs,List.getElem?_map,List.getElem?_range hlt,Option.map_some]
    rw [show (q - m * 2) % 2 = q % 2 from by omega]
  have k0:=key (j * 2) (by omega)
  have k1:=key (j * 2 + 1) (by omega)
  rw [if_pos (by omega)] at k0
  rw [if_neg (by omega)] at k1
  exact ⟨k0,k1⟩
 ·exact ⟨rfl,rfl,rfl,by simp [World.setRow],fun q _ hq=>setRow_other w g q _ (by simpa using hq)⟩
theorem repeat_at (t:Int) (a:Option Addr) (l c:Nat) (b o n cx:Nat) (hn:n < 1000) (W:World) (h0:W.cell? ⟨b,o,none⟩ = some (.int .i64 t)) (h1:W.cell? ⟨b,o + 1,none⟩ = some (.slice a l c)) :
 Calls Tryz.prog 95 #[.slice (some ⟨b,o,none⟩) 1 cx,.int .i64 n] W fun e w'=>∃ g c',e = .returned (.slice (some ⟨g,0,none⟩) n c') /\ W.heap.size <= g /\ RepAt w' g n n (.int .i64 t) (.slice a l c) /\ W.grownBy w' none:=by
 have HM:=jh (bmul_one n (by omega))
 obtain ⟨i0,hi,hz0,hz1,hz2⟩:=info_parts info_tyR
 have hmk:=run_make (P:=Tryz.prog) W 22 24 i0 _ Tryz.underlying22 hi hz0 .i64 .i64 n n (by omega) (Int.le_refl _) (by rw [hz2];omega) (by omega)
 simp only [Int.toNat_natCast,hz1] at hmk
 have hMs:(madeCells (Value.agg #[.int .i64 0,.slice none 0 0]).cells (n * 2)).size = n * 2:=size_madeCells _ _
 generalize madeCells (Value.agg #[.int .i64 0,.slice none 0 0]).cells (n * 2) = M at *
 have hR0:RepAt (W.alloc (.cells M 24)) W.heap.size n 0 (.int .i64 t) (.slice a l c):=⟨M,heap_alloc_new _ _,hMs,Nat.zero_le _,fun j hj=>by omega⟩
 have hb0:b < W.heap.size:=World.block_lt_of_cell? W _ h0
 obtain ⟨w2,hcp,hR1,hg1⟩:=rep_more hR0 rfl rfl (Nat.min 1 n) ⟨b,o,none⟩ n cx 1 n rfl (by rw [Nat.zero_add];exact Nat.min_le_right _ _) (fun j hj=>by
  obtain rfl:j = 0:=by have : Nat.min 1 n <= 1:=Nat.min_le_left _ _;omega
  have e1:(W.alloc (.cells M 24)).cell? ⟨b,o,none⟩ = some (.int .i64 t):=(World.cell?_of_block (heap_alloc_old (w:=W) (o:=_) (h:=hb0))).trans h0
  have e2:(W.alloc (.cells M 24)).cell? ⟨b,o + 1,none⟩ = some (.slice a l c):=(World.cell?_of_block (heap_alloc_old (w:=W) (o:=_) (h:=hb0))).trans h1
  have hadd:∀ x,(⟨b,o,none⟩:Addr).add x = ⟨b,o + x,none⟩:=fun x=>by unfold Addr.add;split <;> simp_all
  rw [hadd,hadd]
  exact ⟨e1,e2⟩)
 have hg2:W.grownBy w2 none:=grow_new (gBq _) hg1 (Nat.le_refl _)
 rw [Nat.zero_mul] at hcp
 rw [Nat.zero_add] at hR1
 have HR1:=jh hR1
 have HG2:=jh hg2
 clear h0 h1 hR0 hR1 hg1 hg2 hMs hz0 hz1 hz2 hi
 go_enter Tryz.func95,Tryz.ntmps95
 go_wp2_with fail
 refine (HM.out _).mono ?_;rintro e W0 ⟨rfl,rfl⟩
 go_wp2_with fail
 go_loopw [8] (fun iv wr=>∃ m:Nat,iv = .int .i64 m /\ m <= n /\ (m = n \/ 1 <= m) /\ RepAt wr W0.heap.size n m (.int .i64 t) (.slice a l c) /\ W0.grownBy wr none) (fun iv _=>n - (intOf iv).toNat)
 case atStart =>
  refine ⟨Nat.min 1 n,?_,Nat.min_le_right _ _,?_,HR1.out,HG2.out⟩
  ·first | rfl | simp
  ·by_cases h:n = 0
   ·left;subst h;rfl
   ·right;exact Nat.le_min.2 ⟨Nat.le_refl _,by omega⟩
 case round =>
  obtain ⟨m,rfl,hmn,hm1,hRep,hgr⟩:=hrel
  by_cases hlt:m < n
  ·have hm2:1 <= m:=by omega
   have hk:m + Nat.min m (n - m) <= n:=by have : Nat.min m (n - m) <= n - m:=Nat.min_le_right _ _;omega
   have hkp:1 <= Nat.min m (n - m):=Nat.le_min.2 ⟨hm2,by omega⟩
   obtain ⟨w3,hc3,hR3,hg3⟩:=rep_more (w:=wr.drew) hRep rfl rfl (Nat.min m (n - m)) ⟨W0.heap.size,0,none⟩ (n - m) n m (n - m) rfl hk (fun j hj=>by
    obtain ⟨cur,q1,q2,q3,q4⟩:=hRep
    have hjm:j < m:=Nat.lt_of_lt_of_le hj (Nat.min_le_left _ _)
    obtain ⟨e0,e1⟩:=q4 j hjm
    have hadd:∀ x,(⟨W0.heap.size,0,none⟩:Addr).add x = ⟨W0.heap.size,x,none⟩:=fun x=>by unfold Addr.add;split <;> simp_all
    rw [hadd,hadd]
    constructor
    ·show wr.cell? _ = _
     simp [World.cell?,q1,e0]
    ·show wr.cell? _ = _
     simp [World.cell?,q1,e1])
   have hlt':(m:Int) < (n:Int):=by omega
   have hnm:¬ n - m = 0:=by omega
   generalize hk9:Nat.min m (n - m) = k9 at *
   have HR3:=jh hR3
   have HG3:=jh (grow_new (gDr hgr) hg3 (Nat.le_refl _))
   clear hR3 hg3 hRep hgr hk9 hmk hcp HR1 HG2 HM
   have hwr:IntKind.i64.wrap ((m:Int) + (k9:Int)) = (m:Int) + (k9:Int):=by rw [IntKind.wrap_i64];omega
   have hmle:m <= n:=hmn
   go_wp2_with fail
   go_region_held3 (fun _=>True) (first | trivial) (fail)
   all_goals
    go_wp2_with fail
    refine ⟨⟨m + k9,by first | rfl | simp,hk,.inr (by omega),HR3.out,HG3.out⟩,?_⟩
    simp [intOf];omega
  ·have hme:m = n:=by omega
   subst hme
   have hlt':¬ (m:Int) < (m:Int):=by omega
   have HR:=jh hRep
   have HG:=jh hgr
   clear hRep hgr hmk hcp HR1 HG2 HM
   go_wp2_with fail
   go_ret
   exact ⟨_,⟨_,rfl⟩,Nat.le_refl _,HR.out,HG.out⟩
theorem repeat_any (t:Int) (a:Option Addr) (l c:Nat) (b n cx:Nat) (hn:n < 1000) (W:World) (h0:W.cell? ⟨b,0,none⟩ = some (.int .i64 t)) (h1:W.cell? ⟨b,1,none⟩ = some (.slice a l c)) :
 Calls Tryz.prog 95 #[.slice (some ⟨b,0,none⟩) 1 cx,.int .i64 n] W fun e w'=>∃ g c',e = .returned (.slice (some ⟨g,0,none⟩) n c') /\ W.heap.size <= g /\ RepAt w' g n n (.int .i64 t) (.slice a l c) /\ W.grownBy w' none :=
 repeat_at t a l c b 0 n cx hn W h0 h1
def nodeCells:Value -> List Value
 | .agg xs=>xs.toList
 | _=>[]
def flat (vs:List Value):List Value:=vs.flatMap nodeCells
def OwnsL (B:Nat) (w:World) (v:Value) (vs:List Value):Prop:=w.ownsRow B 48 5 v vs.length (flat vs)
theorem flat_append (a b:List Value):flat (a ++ b) = flat a ++ flat b:=by simp [flat]
structure ListOk (H:Nat) (w:World) (v:Value) (ts:List Tr) (vs:List Value):Prop where
 own:OwnsL H w v vs
 len:vs.length = ts.length
 lies:∀ (i:Nat) (t:Tr) (u:Value),ts[i]? = some t -> vs[i]? = some u -> Lies (fun b=>H <= b /\ some b ≠ v.ownBlock) w t u
theorem ListOk.nil (H:Nat) (w:World):ListOk H w (.slice none 0 0) [] []:=⟨World.ownsRow_nil _ _ _ _,rfl,fun i t u h=>by simp at h⟩
theorem ListOk.keep {H:Nat} {w w':World} {v:Value} {ts:List Tr} {vs:List Value} {rb:Nat} (h:ListOk H w v ts vs) (hg:w.grownBy w' (some rb)) (hrb:rb < H):ListOk H w' v ts vs:=by
 refine ⟨World.ownsRow.kept h.own hg ?_,h.len,fun i t u ht hu=>(h.lies i t u ht hu).same ?_⟩
 ·cases hv:v.ownBlock with
  | none=>exact .inl rfl
  | some k=>right;have:=(World.ownsRow.lt h.own k hv).1;simp;omega
 ·intro b o hb hlt
  exact World.cell?_of_block (hg.block b hlt (by simp;have:=hb.1;omega))
theorem ListOk.push {H:Nat} {w w':World} {v v' u:Value} {ts:List Tr} {vs:List Value} {t:Tr} {S:Nat} (h:ListOk H w v ts vs) (hS:H <= S) (hvS:∀ k,v.ownBlock = some k -> k < S) (hL:Lies (S <= ·) w t u) (hg:Gr w v w' v') (ho:OwnsL H w' v' (vs ++ [u])):ListOk H w' v' (ts ++ [t]) (vs ++ [u]):=by
 have key:∀ t u,Lies (fun b=>H <= b /\ some b ≠ v.ownBlock) w t u -> Lies (fun b=>H <= b /\ some b ≠ v'.ownBlock) w' t u:=by
  intro t u hl
  have h1:=hl.okMono (ok':=fun b=>H <= b /\ some b ≠ v.ownBlock /\ some b ≠ v'.ownBlock) (fun b hb hk=>⟨hk.1,hk.2,by
   rcases hg.2 with e | ⟨g,e,hge⟩
   ·rw [e];exact hk.2
   ·rw [e];simp;omega⟩)
  refine (h1.same (w':=w') ?_).okMono (fun b _ hb=>⟨hb.1,hb.2.2⟩)
  intro b o hb hlt
  exact World.cell?_of_block (hg.block hlt hb.2.1)
 refine ⟨ho,by simp [h.len],fun i t' u' ht hu=>key t' u' ?_⟩
 by_cases hi:i < ts.length
 ·rw [List.getElem?_append_left hi] at ht
  rw [List.getElem?_append_left (by rw [h.len];exact hi)] at hu
  exact h.lies i t' u' ht hu
 ·have hi':i = ts.length:=by
   have:=(List.getElem?_eq_some_iff.1 ht).1
   simp at this;omega
  subst hi'
  rw [List.getElem?_append_right (Nat.le_refl _)] at ht
  rw [← h.len,List.getElem?_append_right (Nat.le_refl _)] at hu
  simp at ht hu
  subst ht;subst hu
  exact hL.okMono (fun b _ hb=>⟨by have : S <= b:=hb;omega,fun e=>by have h2:=hvS b e.symm;have : S <= b:=hb;omega⟩)
theorem flat_get:∀ (vs:List Value),(∀ u ∈ vs,(nodeCells u).length = 5) -> ∀ (i j:Nat) (u:Value),vs[i]? = some u -> j < 5 -> (flat vs)[i * 5 + j]? = (nodeCells u)[j]?
 | [],_,i,j,u,h,_=>by simp at h
 | x :: vs,hx,0,j,u,h,hj=>by
  simp at h;subst h
  have:=hx x (by simp)
  simp only [flat,List.flatMap_cons]
  rw [List.getElem?_append_left (by omega)];simp
 | x :: vs,hx,i + 1,j,u,h,hj=>by
  have h5:=hx x (by simp)
  have:=flat_get vs (fun u hu=>hx u (by simp [hu])) i j u (by simpa using h) hj
  simp only [flat,List.flatMap_cons] at this ⊢
  rw [List.getElem?_append_right (by omega),h5,show (i + 1) * 5 + j - 5 = i * 5 + j from by omega]
  exact this
theorem Lies.nodeV {ok:Nat -> Prop} {w:World} {t:Tr} {u:Value} (h:Lies ok w t u):∃ k n p s a l c,u = nodeV k n p s a l c:=by cases h;exact ⟨_,_,_,_,_,_,_,rfl⟩
theorem ListOk.done {H:Nat} {w:World} {v:Value} {ts:List Tr} {vs:List Value} (h:ListOk H w v ts vs) :
 ∃ (a:Option Addr) (c:Nat) (V:Nat -> Value),v = .slice a ts.length c /\ (∀ i,i < ts.length -> NodeAt (H <= ·) w a i (V i)) /\ (∀ i (hi:i < ts.length),Lies (H <= ·) w ts[i] (V i)):=by
 have hl:=h.len
 have each:∀ i (hi:i < ts.length),∃ u,vs[i]? = some u /\ Lies (H <= ·) w ts[i] u:=by
  intro i hi
  have hv:i < vs.length:=by omega
  exact ⟨vs[i],List.getElem?_eq_getElem hv,(h.lies i ts[i] vs[i] (List.getElem?_eq_getElem hi) (List.getElem?_eq_getElem hv)).okMono (fun b _ hb=>hb.1)⟩
 have h5:∀ u ∈ vs,(nodeCells u).length = 5:=by
  intro u hu
  obtain ⟨i,hi,rfl⟩:=List.getElem_of_mem hu
  obtain ⟨u,e,hL⟩:=each i (by omega)
  rw [List.getElem?_eq_getElem hi] at e
  simp at e
  obtain ⟨k,n,p,s,a,l,c,e2⟩:=hL.nodeV
  rw [e,e2];rfl
 have ho:=h.own
 unfold OwnsL at ho
 rcases ho.2 with ⟨rfl,h0⟩ | ⟨g,cap,cur,rfl,hbg,hg,hnc,hcm,hcs,htake⟩
 ·have h00:ts.length = 0:=by omega
  exact ⟨none,0,fun _=>.int .i64 0,by rw [h00],fun i hi=>by omega,fun i hi=>by omega⟩
 ·refine ⟨some ⟨g,0,none⟩,cap,fun i=>(vs[i]?).getD (.int .i64 0),by rw [hl],fun i hi=>?_,fun i hi=>?_⟩
  ·obtain ⟨u,e,hL⟩:=each i hi
   obtain ⟨k,n,p,s,a,l,c,e2⟩:=hL.nodeV
   have hcell:∀ j x,j < 5 -> (nodeCells u)[j]? = some x -> w.cell? ⟨g,i * 5 + j,none⟩ = some x:=by
    intro j x hj hx
    have:=World.ownsRow.cells ho (g:=g) rfl (i * 5 + j) x (by rw [flat_get vs h5 i j u e hj];exact hx)
    have hadd:(⟨g,0,none⟩:Addr).add (i * 5 + j) = ⟨g,i * 5 + j,none⟩:=by unfold Addr.add;split <;> simp_all
    rwa [hadd] at this
   rw [e2] at hcell
   refine ⟨g,0,rfl,hbg,k,n,p,s,a,l,c,by show (vs[i]?).getD _ = _;rw [e];exact e2,?_,?_,?_,?_,?_⟩
   ·have:=hcell 0 _ (by omega) rfl;simpa using this
   ·have:=hcell 1 _ (by omega) rfl;simpa using this
   ·have:=hcell 2 _ (by omega) rfl;simpa using this
   ·have:=hcell 3 _ (by omega) rfl;simpa using this
   ·have:=hcell 4 _ (by omega) rfl;simpa using this
  ·obtain ⟨u,e,hL⟩:=each i hi
   show Lies _ _ _ ((vs[i]?).getD _)
   rw [e];exact hL
def isTypeB (t:Int):Bool:=decide (1 <= t /\ t <= 15)
def partsF (t:Int):Int:=if t = 9 \/ t = 10 \/ t = 15 then 1 else if t = 11 \/ t = 12 \/ t = 13 \/ t = 14 then 2 else 0
mutual
def fBq (d:Nat):Ty -> Bool
 | .nd t args=>decide (d <= 24) && (isTypeB t && decide ((args.length:Int) = partsF t)) && formedBs (d + 1) args
def formedBs (d:Nat):List Ty -> Bool
 | []=>true
 | t :: ts=>fBq d t && formedBs d ts
end
mutual
def allF (inn f:Int -> Bool):Ty -> Bool
 | .nd t args=>f t && (!inn t || allFs inn f args)
def allFs (inn f:Int -> Bool):List Ty -> Bool
 | []=>true
 | t :: ts=>allF inn f t && allFs inn f ts
end
def compB (t:Int):Bool:=decide (1 <= t /\ t <= 15 /\ t ≠ 8 /\ t ≠ 10 /\ t ≠ 13 /\ t ≠ 14 /\ t ≠ 15)
def packB (t:Int):Bool:=decide (t ≠ 8 /\ t ≠ 14 /\ t ≠ 15)
def copyB (t:Int):Bool:=decide (t ≠ 15 /\ t ≠ 8)
def storeB (t:Int):Bool:=decide (t ≠ 8)
def innAll (_:Int):Bool:=true
def innHeld (t:Int):Bool:=decide (t ≠ 14)
def compT (t:Ty):Bool:=allF innAll compB t
def packT (t:Ty):Bool:=allF innAll packB t
def copyT (t:Ty):Bool:=allF innHeld copyB t
def storeT (t:Ty):Bool:=allF innHeld storeB t
def headComp:List Ty -> Bool
 | []=>true
 | t :: _=>compT t
def keyHere (t:Int) (args:List Ty):Bool:=!decide (t = 13 \/ t = 15) || headComp args
mutual
def keyedF:Ty -> Bool
 | .nd t args=>keyHere t args && keyedFs args
def keyedFs:List Ty -> Bool
 | []=>true
 | t :: ts=>keyedF t && keyedFs ts
end
def gYq (t:Ty):Bool:=fBq 1 t && decide (t.size <= 300) && keyedF t
theorem formedBs_all (d:Nat) (l:List Ty):formedBs d l = l.all (fBq d):=by
 induction l with
 | nil=>rfl
 | cons t ts ih=>simp [formedBs,ih]
theorem allFs_all (inn f:Int -> Bool) (l:List Ty):allFs inn f l = l.all (allF inn f):=by
 induction l with
 | nil=>rfl
 | cons t ts ih=>simp [allFs,ih]
theorem keyedFs_all (l:List Ty):keyedFs l = l.all keyedF:=by
 induction l with
 | nil=>rfl
 | cons t ts ih=>simp [keyedFs,ih]
mutual
theorem allF_mono {inn inn' f g:Int -> Bool} (hf:∀ x,f x = true -> g x = true) (hi:∀ x,inn' x = true -> inn x = true):∀ t,allF inn f t = true -> allF inn' g t = true
 | .nd t args=>by
  intro h
  simp only [allF,Bool.and_eq_true,Bool.or_eq_true,Bool.not_eq_true'] at h ⊢
  refine ⟨hf _ h.1,?_⟩
  rcases h.2 with h2 | h2
  ·left
   cases h3:inn' t with
   | false=>rfl
   | true=>rw [hi _ h3] at h2;cases h2
  ·exact .inr (allFs_mono hf hi args h2)
theorem allFs_mono {inn inn' f g:Int -> Bool} (hf:∀ x,f x = true -> g x = true) (hi:∀ x,inn' x = true -> inn x = true):∀ l,allFs inn f l = true -> allFs inn' g l = true
 | []=>fun _=>rfl
 | t :: ts=>by
  intro h
  simp only [allFs,Bool.and_eq_true] at h ⊢
  exact ⟨allF_mono hf hi t h.1,allFs_mono hf hi ts h.2⟩
end
def rowOf:List Ty -> List (List Ty)
 | []=>[]
 | a :: l=>[a :: l]
def pushes (inn:Int -> Bool):Ty -> List (List Ty)
 | .nd t args=>if inn t = true then rowOf args else []
theorem allF_pushes (inn f:Int -> Bool) (x:Ty):allF inn f x = (f x.t && (pushes inn x).all (allFs inn f)):=by
 obtain ⟨t,args⟩:=x
 simp only [allF,pushes,Ty.t]
 by_cases h:inn t = true
 ·rw [if_pos h,h]
  cases args <;> simp [rowOf,allFs]
 ·rw [if_neg h]
  simp [h]
theorem allFs_pushes (inn f:Int -> Bool):∀ (l:List Ty),(∀ x ∈ l,f x.t = true) -> allFs inn f l = (l.flatMap (pushes inn)).all (allFs inn f)
 | [],_=>rfl
 | x :: l,h=>by
  rw [allFs,allF_pushes,allFs_pushes inn f l (fun y hy=>h y (List.mem_cons_of_mem _ hy)),h x List.mem_cons_self,List.flatMap_cons,List.all_append,Bool.true_and]
theorem allFs_no (inn f:Int -> Bool) (l:List Ty) (i:Nat) (h:i < l.length) (hf:f (l[i]).t = false):allFs inn f l = false:=by
 rw [allFs_all]
 cases hq:l.all (allF inn f) with
 | false=>rfl
 | true =>
  have h1:=List.all_eq_true.1 hq l[i] (List.getElem_mem h)
  rw [allF_pushes,hf] at h1
  cases h1
def leftOf (rows:List (List Ty)):Nat:=(rows.map fun r=>tysizes r + 1).sum
theorem leftOf_append (a b:List (List Ty)):leftOf (a ++ b) = leftOf a + leftOf b:=by simp [leftOf]
theorem leftOf_single (r:List Ty):leftOf [r] = tysizes r + 1:=by simp [leftOf]
theorem pushes_left (inn:Int -> Bool) (x:Ty):leftOf (pushes inn x) <= x.size:=by
 obtain ⟨t,args⟩:=x
 simp only [pushes,Ty.size]
 by_cases h:inn t = true
 ·rw [if_pos h]
  cases args <;> simp [rowOf,leftOf]
 ·rw [if_neg h];simp [leftOf]
theorem flatPushes_left (inn:Int -> Bool):∀ (l:List Ty),leftOf (l.flatMap (pushes inn)) <= tysizes l
 | []=>by simp [leftOf,tysizes]
 | x :: l=>by
  have h1:=pushes_left inn x
  have h2:=flatPushes_left inn l
  rw [List.flatMap_cons,leftOf_append,tysizes];omega
theorem len_left (rows:List (List Ty)):rows.length <= leftOf rows:=by
 induction rows with
 | nil=>simp
 | cons r l ih=>simp only [leftOf,List.map_cons,List.sum_cons,List.length_cons] at ih ⊢;omega
theorem flatMap_take_succ {α β:Type} (f:α -> List β) (l:List α) (i:Nat) (h:i < l.length):(l.take (i + 1)).flatMap f = (l.take i).flatMap f ++ f l[i]:=by
 rw [List.take_succ_eq_append_getElem h,List.flatMap_append];simp
theorem isType_any (t:Int) (w:World) :
 Calls Tryz.prog 73 #[.int .i64 t] w fun e w'=>e = .returned (.bool (isTypeB t)) /\ w' = w:=by
 go_enter Tryz.func73,Tryz.ntmps73
 go_wp2
 all_goals
  go_ret
  exact Lf.retb (by simp [isTypeB];try omega) rfl
theorem parts_any (t:Int) (w:World) :
 Calls Tryz.prog 74 #[.int .i64 t] w fun e w'=>e = .returned (.int .i64 (partsF t)) /\ w' = w:=by
 go_enter Tryz.func74,Tryz.ntmps74
 go_wp2
 all_goals
  go_ret
  refine Lf.reti ?_ rfl
  simp_all [partsF]
  try omega
def Within (kw:Nat) (inn:Int -> Bool):Prop:=∀ (t:Int) (a:Option Addr) (l c:Nat) (w:World),Calls Tryz.prog kw #[tyV t a l c] w fun e w'=>e = .returned (if inn t = true then .slice a l c else .slice none 0 0) /\ w.grownBy w' none
def Fine (kf:Nat) (f:Int -> Bool):Prop:=∀ (x:Int) (w:World),Calls Tryz.prog kf #[.int .i64 x] w fun e w'=>e = .returned (.bool (f x)) /\ w' = w
theorem made_any:Within 100 innAll:=by
 intro t a l c w
 unfold tyV
 go_enter Tryz.func100,Tryz.ntmps100
 go_wp2
 go_ret
 exact ⟨rfl,gBq _⟩
theorem held_any:Within 54 innHeld:=by
 intro t a l c w
 unfold tyV
 go_enter Tryz.func54,Tryz.ntmps54
 go_wp2
 all_goals
  go_ret
  refine ⟨?_,gBq _⟩
  simp_all [innHeld]
theorem comp1_any:Fine 101 compB:=by
 intro x w
 go_enter Tryz.func101,Tryz.ntmps101
 go_wp2_with (go_at_call 73;refine (isType_any _ _).mono ?_;rintro e w' ⟨rfl,rfl⟩)
 all_goals
  go_ret
  refine Lf.retb ?_ rfl
  rw [Bool.eq_iff_iff]
  simp_all [compB,isTypeB]
  try omega
theorem copy1_any:Fine 121 copyB:=by
 intro x w
 go_enter Tryz.func121,Tryz.ntmps121
 go_wp2
 all_goals
  go_ret
  refine Lf.retb ?_ rfl
  rw [Bool.eq_iff_iff]
  simp_all [copyB]
  try omega
theorem pack1_any:Fine 127 packB:=by
 intro x w
 go_enter Tryz.func127,Tryz.ntmps127
 go_wp2
 all_goals
  go_ret
  refine Lf.retb ?_ rfl
  rw [Bool.eq_iff_iff]
  simp_all [packB]
  try omega
theorem store1_any:Fine 55 storeB:=by
 intro x w
 go_enter Tryz.func55,Tryz.ntmps55
 go_wp2
 all_goals
  go_ret
  refine Lf.retb ?_ rfl
  rw [Bool.eq_iff_iff]
  simp_all [storeB]
  try omega
theorem every_any (k:Nat) (cap:Array Value) (n:Nat) (a:Option Addr) (c:Nat) (V:Nat -> Value) (b:Nat -> Bool) (I:Nat -> World -> Prop) (J:World -> Prop) (hn:n <= maxLen) (eg:∀ args w,(callFunc k args).run Tryz.prog w = .ok (.enter k args) w)
 (hrow:∀ i w,i < n -> I i w -> TyAt (fun _=>True) w a i (V i)) (hall:∀ i w o,I i w -> I i (w.alloc o))
 (hcall:∀ i w,i < n -> I i w -> Calls Tryz.prog k (#[V i] ++ cap) w fun e w'=>e = .returned (.bool (b i)) /\ (b i = true -> I (i + 1) w') /\ (b i = false -> J w')) (w:World) (h0:I 0 w) :
 Calls Tryz.prog 75 #[.slice a n c,.func (.func k) #[] cap] w fun e w'=>(e = .returned (.bool true) /\ I n w' /\ ∀ i,i < n -> b i = true) \/ (∃ i,i < n /\ b i = false /\ e = .returned (.bool false) /\ J w'):=by
 unfold maxLen at hn
 have HR:=jh hrow
 have HA:=jh hall
 have HC:=jh hcall
 have H0:=jh h0
 clear hrow hall hcall h0
 go_enter Tryz.func75,Tryz.ntmps75
 go_wp2_with fail
 go_loopw [9] (fun i wr=>∃ j:Nat,j <= n /\ i = .int .i64 j /\ I j wr /\ ∀ m,m < j -> b m = true) (fun i _=>n - (intOf i).toNat)
 case atStart=>exact ⟨0,Nat.zero_le _,rfl,H0.out,fun m hm=>by omega⟩
 case round =>
  obtain ⟨j,hj,rfl,hI,hb⟩:=hrel
  have HB:=jh hb
  clear hb
  by_cases hlt:j < n
  ·obtain ⟨bb,o,t,a',l,c',rfl,_,hv,c0,c1⟩:=(HR.out j wr hlt hI).cells
   have hI':=HA.out j wr (.cells #[.int .i64 t,.slice a' l c'] 24) hI
   have hC:=HC.out j _ hlt hI'
   rw [hv] at hC
   unfold tyV at hC
   have HK:=jh hC
   clear hC hI' hI hv HR HA HC H0
   go_wp2_with fail
   refine HK.out.mono ?_;rintro e w' ⟨rfl,h1,h2⟩
   cases hbj:b j with
   | true =>
    have HI:=jh (h1 hbj)
    have HBJ:=jh hbj
    clear h1 h2 hbj
    go_wp2_with fail
    go_roundw
    case rel=>exact ⟨j + 1,by omega,by go_num,HI.out,fun m hm=>by
     by_cases e:m = j
     ·subst e;exact HBJ.out
     ·exact HB.out m (by omega)⟩
    case measure=>simp [intOf];omega
   | false =>
    have HJ:=jh (h2 hbj)
    have HBJ:=jh hbj
    clear h1 h2 hbj
    go_wp2_with fail
    go_ret
    exact .inr ⟨j,hlt,HBJ.out,rfl,HJ.out⟩
  ·have hje:j = n:=by omega
   have HI:=jh hI
   have HJ:=jh hje
   clear hI hje
   go_wp2_with fail
   go_ret
   have hI:=HI.out
   have hb:=HB.out
   rw [HJ.out] at hI hb
   exact .inl ⟨rfl,hI,hb⟩
theorem ent_keyed:∀ args w,(callFunc 52 args).run Tryz.prog w = .ok (.enter 52 args) w:=fun args w=>by simp [go_sem]
def formedAt (d m:Nat) (T:Ty):Bool:=fBq d T && decide (m + T.size <= 300)
def CountAt (w:World) (cb:Nat) (m:Nat):Prop:=w.heap[cb]? = some (.cells #[.int .i64 (m:Int)] 3 (0,0))
def FormedPost (d m:Nat) (T:Ty) (cb:Nat) (w2:World) (e:Ending) (w':World):Prop :=
 e = .returned (.bool (formedAt d m T)) /\ w2.grownBy w' (some cb) /\ (formedAt d m T = true -> CountAt w' cb (m + T.size))
theorem formed1_of {t:Int} {a:Option Addr} {l c:Nat} {d:Nat} {w:World} {db pb cb:Nat} {r:Bool} {P:World -> Prop} (hdb:w.heap[db]? = some (.cells #[.int .i64 (d:Int)] 3 (0,0)))
 (hpb:w.heap[pb]? = some (.cells #[.pointer (some ⟨cb,0,none⟩)] 96 (0,0))) (hd:d <= 24)
 (h:Calls Tryz.prog 51 #[tyV t a l c,.int .i64 ((d + 1:Nat):Int),.pointer (some ⟨cb,0,none⟩)] (w.alloc (.cells #[.int .i64 t,.slice a l c] 24)) fun e w'=>e = .returned (.bool r) /\ P w') :
 Calls Tryz.prog 76 #[tyV t a l c,.pointer (some ⟨db,0,none⟩),.pointer (some ⟨pb,0,none⟩)] w fun e w'=>e = .returned (.bool r) /\ P w':=by
 have c1:=cell_of_one hdb
 have c2:=cell_of_one hpb
 have l1:db < w.heap.size:=(Array.getElem?_eq_some_iff.1 hdb).1
 have l2:pb < w.heap.size:=(Array.getElem?_eq_some_iff.1 hpb).1
 rw [show (((d + 1:Nat)):Int) = (d:Int) + 1 from rfl] at h
 unfold tyV at h ⊢
 have H:=jh h
 clear h hdb hpb
 go_enter Tryz.func76,Tryz.ntmps76
 go_wp2_with fail
 refine H.out.mono ?_;rintro e w' ⟨rfl,hp⟩
 go_wp2_with fail
 go_ret
 exact ⟨rfl,hp⟩
def fw (w:World) (cb m:Nat) (t:Int) (a:Option Addr) (l c d:Nat):World :=
 (((w.setCell ⟨cb,0,none⟩ (.int .i64 ((m:Int) + 1))).alloc (.cells #[.int .i64 t,.slice a l c] 24)).alloc (.cells #[.int .i64 (d:Int)] 3)).alloc (.cells #[.pointer (some ⟨cb,0,none⟩)] 96)
theorem fw_grown {w:World} {cb m:Nat} {t:Int} {a:Option Addr} {l c d:Nat} : w.grownBy (fw w cb m t a l c d) (some cb) :=
 gTr (gTr (gTr (gSq (gRf _ _) _ _ _) (gAq (gBq _))) (gAq (gBq _))) (gAq (gBq _))
theorem fw_count {w:World} {cb m:Nat} {t:Int} {a:Option Addr} {l c d:Nat} (h:CountAt w cb m):CountAt (fw w cb m t a l c d) cb (m + 1) :=
 heap_keep (heap_keep (heap_keep (one_setCell h)))
theorem fw_d {w:World} {cb m:Nat} {t:Int} {a:Option Addr} {l c d:Nat} : (fw w cb m t a l c d).heap[w.heap.size + 1]? = some (.cells #[.int .i64 (d:Int)] 3 (0,0)):=by
 refine heap_keep ?_
 have:=heap_alloc_new ((w.setCell ⟨cb,0,none⟩ (.int .i64 ((m:Int) + 1))).alloc (.cells #[.int .i64 t,.slice a l c] 24)) (.cells #[.int .i64 (d:Int)] 3)
 simpa using this
theorem fw_p {w:World} {cb m:Nat} {t:Int} {a:Option Addr} {l c d:Nat} : (fw w cb m t a l c d).heap[w.heap.size + 1 + 1]? = some (.cells #[.pointer (some ⟨cb,0,none⟩)] 96 (0,0)):=by
 have:=heap_alloc_new (((w.setCell ⟨cb,0,none⟩ (.int .i64 ((m:Int) + 1))).alloc (.cells #[.int .i64 t,.slice a l c] 24)).alloc (.cells #[.int .i64 (d:Int)] 3)) (.cells #[.pointer (some ⟨cb,0,none⟩)] 96)
 rw [World.size_alloc,World.size_alloc,set_size] at this
 exact this
theorem formed_no {cb:Nat} {T:Ty} {t:Int} {a:Option Addr} {l c:Nat} (d m:Nat) (w2:World) (hcb:CountAt w2 cb m) (hm:m <= 300) (hl:l <= maxLen) (hd2:d <= 25) (hT:formedAt d m T = false)
 (hw:24 < d \/ m = 300 \/ isTypeB t = false \/ (l:Int) ≠ partsF t) :
 Calls Tryz.prog 51 #[tyV t a l c,.int .i64 d,.pointer (some ⟨cb,0,none⟩)] w2 (FormedPost d m T cb w2):=by
 unfold maxLen at hl
 have c1:=cell_of_one hcb
 have c2:=free_of_one hcb
 have l1:cb < w2.heap.size:=(Array.getElem?_eq_some_iff.1 hcb).1
 have l2:cb < w2.heap.size + 1:=by omega
 have l3:cb < w2.heap.size + 1 + 1:=by omega
 have HT:=jh hT
 clear hcb hT
 unfold tyV
 by_cases hd:24 < d
 ·have hd':(24:Int) < (d:Int):=by omega
  clear hw
  go_enter Tryz.func51,Tryz.ntmps51
  go_wp2_with fail
  go_ret
  exact ⟨by rw [HT.out];rfl,fw_grown (l:=l) (c:=c),fun h=>by rw [HT.out] at h;cases h⟩
 have hd':(d:Int) <= 24:=by omega
 by_cases hm3:m = 300
 ·have hm':(300:Int) < (m:Int) + 1:=by omega
  clear hw
  go_enter Tryz.func51,Tryz.ntmps51
  go_wp2_with fail
  go_ret
  exact ⟨by rw [HT.out];rfl,fw_grown (l:=l) (c:=c),fun h=>by rw [HT.out] at h;cases h⟩
 have hm':(m:Int) + 1 <= 300:=by omega
 cases hit:isTypeB t with
 | false =>
  have h1:=isType_any t
  rw [hit] at h1
  have H1:=jh h1
  clear hw h1 hit
  go_enter Tryz.func51,Tryz.ntmps51
  go_wp2_with fail
  go_quiet (first | (go_at_call 73;exact Calls.quiet_of_same (H1.out _)) | (go_at_call 74;exact Calls.quiet_of_same (parts_any _ _)))
  go_wp2_with fail
  go_ret
  exact ⟨by rw [HT.out];rfl,grow_drewN (fw_grown (l:=l) (c:=c)),fun h=>by rw [HT.out] at h;cases h⟩
 | true =>
  have h1:=isType_any t
  rw [hit] at h1
  have H1:=jh h1
  have h2:(l:Int) ≠ partsF t:=by
   rcases hw with h | h | h | h
   ·omega
   ·omega
   ·rw [h] at hit;cases hit
   ·exact h
  have h2':((l:Int) == partsF t) = false:=by simpa using h2
  clear hw h1 hit
  go_enter Tryz.func51,Tryz.ntmps51
  go_wp2_with fail
  go_quiet (first | (go_at_call 73;exact Calls.quiet_of_same (H1.out _)) | (go_at_call 74;exact Calls.quiet_of_same (parts_any _ _)))
  go_wp2_with fail
  go_ret
  exact ⟨by rw [HT.out];rfl,grow_drewN (fw_grown (l:=l) (c:=c)),fun h=>by rw [HT.out] at h;cases h⟩
theorem ent_formed1:∀ args w,(callFunc 76 args).run Tryz.prog w = .ok (.enter 76 args) w:=fun args w=>by simp [go_sem]
theorem formedAt_nd (d m:Nat) (t:Int) (args:List Ty) (hd:d <= 24) (ht:isTypeB t = true) (hp:(args.length:Int) = partsF t):formedAt d m (.nd t args) = (formedBs (d + 1) args && decide (m + 1 + tysizes args <= 300)):=by
 simp only [formedAt,fBq,Ty.size]
 simp [hd,ht,hp,show m + (tysizes args + 1) = m + 1 + tysizes args from by omega]
def fb (d m:Nat) (args:List Ty) (i:Nat):Bool:=match args[i]? with
 | some x=>formedAt d (m + tysizes (args.take i)) x
 | none=>true
theorem fb_all {d m:Nat} {args:List Ty} (hm:m <= 300) (h:∀ i,i < args.length -> fb d m args i = true):(formedBs d args && decide (m + tysizes args <= 300)) = true:=by
 have h1:formedBs d args = true:=by
  rw [formedBs_all,List.all_eq_true]
  intro x hx
  obtain ⟨i,hi,rfl⟩:=List.getElem_of_mem hx
  have:=h i hi
  simp [fb,List.getElem?_eq_getElem hi,formedAt] at this
  exact this.1
 have h2:∀ i,i <= args.length -> m + tysizes (args.take i) <= 300:=by
  intro i
  induction i with
  | zero=>intro _;simpa [tysizes] using hm
  | succ i ih =>
   intro hi
   have:=h i (by omega)
   simp [fb,List.getElem?_eq_getElem (show i < args.length from by omega),formedAt] at this
   rw [tysizes_take_succ args i (by omega)];omega
 have h3:=h2 args.length (Nat.le_refl _)
 rw [List.take_length] at h3
 simp [h1,h3]
theorem fb_no {d m:Nat} {args:List Ty} {i:Nat} (hi:i < args.length) (h:fb d m args i = false):(formedBs d args && decide (m + tysizes args <= 300)) = false:=by
 cases hq:(formedBs d args && decide (m + tysizes args <= 300)) with
 | false=>rfl
 | true =>
  simp only [Bool.and_eq_true,decide_eq_true_eq,formedBs_all,List.all_eq_true] at hq
  have h1:=hq.1 args[i] (List.getElem_mem hi)
  have h2:=tysizes_take_succ args i hi
  have h3:=tysizes_take_le args (i + 1)
  simp [fb,List.getElem?_eq_getElem hi,formedAt,h1] at h
  omega
structure FInv (w2 w:World) (cb db pb d m:Nat):Prop where
 grown:w2.grownBy w (some cb)
 dep:w.heap[db]? = some (.cells #[.int .i64 (d:Int)] 3 (0,0))
 ptr:w.heap[pb]? = some (.cells #[.pointer (some ⟨cb,0,none⟩)] 96 (0,0))
 count:CountAt w cb m
 small:m <= 300
theorem FInv.alloc {w2 w:World} {cb db pb d m:Nat} (h:FInv w2 w cb db pb d m) (o:Obj):FInv w2 (w.alloc o) cb db pb d m :=
 ⟨gTr h.grown (gAq (gBq _)),heap_keep h.dep,heap_keep h.ptr,heap_keep h.count,h.small⟩
theorem FInv.next {w2 w w':World} {cb db pb d m m':Nat} (h:FInv w2 w cb db pb d m) (hg:w.grownBy w' (some cb)) (hd:db ≠ cb) (hp:pb ≠ cb) (hc:CountAt w' cb m') (hm:m' <= 300):FInv w2 w' cb db pb d m' :=
 ⟨gTr h.grown hg,(hg.block _ (Array.getElem?_eq_some_iff.1 h.dep).1 (by simpa using hd)).trans h.dep,(hg.block _ (Array.getElem?_eq_some_iff.1 h.ptr).1 (by simpa using hp)).trans h.ptr,hc,hm⟩
theorem formed_any {cb:Nat} {w:World} {T:Ty} {v:Value} (hL:LiesT (· ≠ cb) w T v):∀ (d m:Nat) (w2:World),Same (· ≠ cb) w w2 -> w.heap.size <= w2.heap.size -> CountAt w2 cb m -> m <= 300 -> d <= 25 ->
 Calls Tryz.prog 51 #[v,.int .i64 d,.pointer (some ⟨cb,0,none⟩)] w2 (FormedPost d m T cb w2):=by
 induction hL with
 | @mk t args a c V hl hlc it hc hr ih =>
  intro d m w2 hsame hz hcb hm hd
  by_cases hw:24 < d \/ m = 300 \/ isTypeB t = false \/ (args.length:Int) ≠ partsF t
  ·refine formed_no d m w2 hcb hm hl hd ?_ hw
   simp only [formedAt,fBq,Ty.size]
   rcases hw with h | h | h | h
   ·simp [show ¬ d <= 24 from by omega]
   ·simp [show ¬ m + (tysizes args + 1) <= 300 from by omega]
   ·simp [h]
   ·simp [h]
  have hd24:d <= 24:=by omega
  have hm3:m + 1 <= 300:=by omega
  have hty:isTypeB t = true:=by
   cases h:isTypeB t with
   | true=>rfl
   | false=>exact absurd (.inr (.inr (.inl h))) hw
  have hpa:(args.length:Int) = partsF t:=by
   by_cases h:(args.length:Int) = partsF t
   ·exact h
   ·exact absurd (.inr (.inr (.inr h))) hw
  have hlt:cb < w2.heap.size:=(Array.getElem?_eq_some_iff.1 hcb).1
  have hres:=formedAt_nd d m t args hd24 hty hpa
  have hI0:∀ q,FInv w2 ((fw w2 cb m t a args.length c d).drewN q) cb (w2.heap.size + 1) (w2.heap.size + 1 + 1) d (m + 1 + tysizes (args.take 0)):=fun q=>⟨grow_drewN fw_grown,fw_d,fw_p,fw_count hcb,by simpa [tysizes] using hm3⟩
  have hE:∀ q,Calls Tryz.prog 75 #[.slice a args.length c,.func (.func 76) #[] #[.pointer (some ⟨w2.heap.size + 1,0,none⟩),.pointer (some ⟨w2.heap.size + 1 + 1,0,none⟩)]] ((fw w2 cb m t a args.length c d).drewN q) (FormedPost d m (.nd t args) cb w2):=by
   intro q
   refine (every_any 76 _ args.length a c V (fb (d + 1) (m + 1) args) (fun i wr=>FInv w2 wr cb (w2.heap.size + 1) (w2.heap.size + 1 + 1) d (m + 1 + tysizes (args.take i))) (fun wr=>w2.grownBy wr (some cb)) hl ent_formed1 ?_ ?_ ?_ _ (hI0 q)).mono ?_
   ·intro i wr hi hI
    exact ((hc i hi).same (hsame.grown hz hI.grown (by simp))).okMono (fun _ _ _=>trivial)
   ·intro i wr o hI
    exact hI.alloc o
   ·intro i wr hi hI
    obtain ⟨_,_,t',a',l',c',_,_,hv,_,_⟩:=(hc i hi).cells
    have hih:=ih i hi (d + 1) (m + 1 + tysizes (args.take i)) (wr.alloc (.cells #[.int .i64 t',.slice a' l' c'] 24)) (hsame.grown hz (gTr hI.grown (gAq (gBq _))) (by simp)) (by have:=hI.grown.size;simp;omega) (heap_keep hI.count) hI.small (by omega)
    rw [hv] at hih ⊢
    refine formed1_of hI.dep hI.ptr hd24 (hih.mono ?_)
    rintro e w' ⟨rfl,hg,hcnt⟩
    have hgg:wr.grownBy w' (some cb):=gTr (gAq (gBq _)) hg
    have hfb:fb (d + 1) (m + 1) args i = formedAt (d + 1) (m + 1 + tysizes (args.take i)) args[i]:=by simp [fb,List.getElem?_eq_getElem hi]
    rw [hfb]
    refine ⟨rfl,fun h=>?_,fun _=>gTr hI.grown hgg⟩
    have h2:=hcnt h
    have h3:=tysizes_take_succ args i hi
    refine hI.next hgg (by omega) (by omega) ?_ ?_
    ·rw [h3,← Nat.add_assoc];exact h2
    ·rw [h3]
     simp [formedAt] at h
     omega
   ·rintro e w' (⟨rfl,hI,hb⟩ | ⟨i,hi,hb,rfl,hg⟩)
    ·have h:=fb_all hm3 hb
     refine ⟨by rw [hres,h],hI.grown,fun _=>?_⟩
     have:=hI.count
     rw [List.take_length] at this
     rw [Ty.size,show m + (tysizes args + 1) = m + 1 + tysizes args from by omega]
     exact this
    ·have h:=fb_no hi hb
     exact ⟨by rw [hres,h],hg,fun h'=>by rw [hres,h] at h';cases h'⟩
  have HE:=jh hE
  have h1:=isType_any t
  rw [hty] at h1
  have H1:=jh h1
  have h2':((args.length:Int) == partsF t) = true:=by simpa using hpa
  have c1:=cell_of_one hcb
  have c2:=free_of_one hcb
  have l2:cb < w2.heap.size + 1:=by omega
  have l3:cb < w2.heap.size + 1 + 1:=by omega
  have hd':(d:Int) <= 24:=by omega
  have hm':(m:Int) + 1 <= 300:=by omega
  unfold maxLen at hl
  clear hE h1 hcb hsame ih hc hr hres hI0 hw hpa hty
  unfold tyV
  go_enter Tryz.func51,Tryz.ntmps51
  go_wp2_with fail
  go_quiet (first | (go_at_call 73;exact Calls.quiet_of_same (H1.out _)) | (go_at_call 74;exact Calls.quiet_of_same (parts_any _ _)))
  go_wp2_with fail
  refine (HE.out _).mono ?_
  rintro e w' ⟨rfl,hp⟩
  go_wp2_with fail
  go_ret
  exact ⟨rfl,hp⟩
theorem least_of {α:Type} (R:Nat -> α -> Prop):∃ μ:α -> Nat,∀ x n,R n x -> R (μ x) x /\ μ x <= n:=by
 have h:∀ x,∃ m,∀ n,R n x -> R m x /\ m <= n:=by
  intro x
  have key:∀ n,R n x -> ∃ m,R m x /\ ∀ k,R k x -> m <= k:=by
   intro n
   induction n using Nat.strongRecOn with
   | _ n ih =>
    intro hn
    by_cases h:∃ k,k < n /\ R k x
    ·obtain ⟨k,hk,hr⟩:=h
     exact ih k hk hr
    ·exact ⟨n,hn,fun k hk=>Nat.le_of_not_lt fun hlt=>h ⟨k,hlt,hk⟩⟩
  by_cases hx:∃ n,R n x
  ·obtain ⟨n,hn⟩:=hx
   obtain ⟨m,h1,h2⟩:=key n hn
   exact ⟨m,fun k hk=>⟨h1,h2 k hk⟩⟩
  ·exact ⟨0,fun n hn=>absurd ⟨n,hn⟩ hx⟩
 exact ⟨fun x=>Classical.choose (h x),fun x=>Classical.choose_spec (h x)⟩
theorem info_sl:(Tryz.prog.info? 22).map (fun i=>(i.zero,i.size,i.bytes)) = some (some (.slice none 0 0),1,24):=by kernel_rfl
def OwnsS (B:Nat) (w:World) (v:Value) (vs:List Value):Prop:=w.ownsRow B 22 1 v vs.length vs
theorem appS {ops:Array Oper} {rest:List Oper} {o:Oper} {a:Act} {Q:Exit -> Act -> World -> Prop} (B:Nat) (vs:List Value) (sa:Option Addr) (sl sc:Nat) (w0:World) (v:Value) (hgd:o.guard = none) (s x:Operand)
 (ho:o.op = .call { callee:=.builtin .append,args:=#[s,x],argTypes:=#[111,111] }) (hs:a.eval s = v) {H:Nat} (hx:a.eval x = .slice (some ⟨H,0,none⟩) 1 1) (hH:w0.heap.size = H)
 (hown:OwnsS B w0 v vs) (hB:B <= w0.heap.size) (hlen:vs.length <= 100000000)
 (h:∀ g cap w',OwnsS B w' (.slice (some ⟨g,0,none⟩) (vs.length + 1) cap) (vs ++ [.slice sa sl sc]) -> Gr w0 v w' (.slice (some ⟨g,0,none⟩) (vs.length + 1) cap) -> wpList Tryz.prog ops Q rest (a.put o.dst (.slice (some ⟨g,0,none⟩) (vs.length + 1) cap)) w') :
 wpList Tryz.prog ops Q (o :: rest) a (w0.alloc (.cells #[.slice sa sl sc] 22)):=by
 obtain ⟨i0,hi,hz0,hz1,hz2⟩:=info_parts info_sl
 subst hH
 refine wpList_append_lies _ hgd s x 111 ho B 22 i0 _ 1 24 Tryz.underlying111 hi hz0 hz1 hz2 rfl (by decide) v vs.length vs hs (World.ownsRow.alloc hown _) ⟨w0.heap.size,0,none⟩ 1 1 [.slice sa sl sc] hx rfl ?_ ?_ (by decide) ?_ ?_ ?_ _ rfl ?_
 ·exact World.news_of_block (w:=w0.alloc _) (B:=w0.heap.size) (cs:=#[.slice sa sl sc]) (heap_alloc_new _ _)
 ·intro u hu;simp at hu;subst hu;rfl
 ·unfold maxLen;omega
 ·omega
 ·simp;omega
 ·intro g cap w' h1 h2 h3 _
  refine h g cap w' ?_ ?_
  ·unfold OwnsS;rw [List.length_append];exact h1
  ·refine Gr.trans (Gr.alloc (Gr.refl w0 v) _) ⟨h2,?_⟩
   rcases h3 with h3 | h3
   ·exact .inl h3.symm
   ·exact .inr ⟨g,rfl,by omega⟩
theorem own_cut {w:World} {B:Nat} {e:TypeId} {g cap n:Nat} {vs:List Value} {u:Value} (h:w.ownsRow B e 1 (.slice (some ⟨g,0,none⟩) (n + 1) cap) (n + 1) (vs ++ [u])):w.ownsRow B e 1 (.slice (some ⟨g,0,none⟩) n cap) n vs:=by
 have hl:=h.1
 simp at hl
 refine ⟨by omega,?_⟩
 rcases h.2 with ⟨hx,_⟩ | ⟨g',cap',cur,hx,h1,h2,h3,h4,h5,h6⟩
 ·simp at hx
 ·simp only [Value.slice.injEq,Option.some.injEq,Addr.mk.injEq,and_true,true_and] at hx
  obtain ⟨rfl,rfl⟩:=hx
  refine .inr ⟨g,cap,cur,rfl,h1,h2,by omega,h4,h5,?_⟩
  have h7:=congrArg (List.take n) h6
  rw [List.take_take] at h7
  simp only [Nat.mul_one] at h7 ⊢
  rw [show min n (n + 1) = n from by omega] at h7
  rw [h7,List.take_append_of_le_length (by omega),List.take_of_length_le (by omega)]
structure AInv (w0 w:World) (wb tb fb rb kw kf:Nat) (rc:Array Value) (v:Value) (vs:List Value):Prop where
 grown:w0.grownBy w none
 tlt:w0.heap.size <= tb
 win:w.heap[wb]? = some (.cells #[.func (.func kw) #[] #[]] 98 (0,0))
 fin:w.heap[fb]? = some (.cells #[.func (.func kf) #[] #[]] 42 (0,0))
 tod:w.heap[tb]? = some (.cells #[v] 111 (0,0))
 row:w.heap[rb]? = some (.cells rc 24 (0,0))
 own:OwnsS w0.heap.size w v vs
theorem AInv.alloc {w0 w:World} {wb tb fb rb kw kf:Nat} {rc:Array Value} {v:Value} {vs:List Value} (h:AInv w0 w wb tb fb rb kw kf rc v vs) (o:Obj):AInv w0 (w.alloc o) wb tb fb rb kw kf rc v vs :=
 ⟨gTq h.grown (gBq _),h.tlt,heap_keep h.win,heap_keep h.fin,heap_keep h.tod,heap_keep h.row,World.ownsRow.alloc h.own _⟩
theorem AInv.call {w0 w w':World} {wb tb fb rb kw kf:Nat} {rc:Array Value} {v:Value} {vs:List Value} (h:AInv w0 w wb tb fb rb kw kf rc v vs) (hg:w.grownBy w' none):AInv w0 w' wb tb fb rb kw kf rc v vs :=
 ⟨gTq h.grown hg,h.tlt,(hg.block _ (lt_of_block h.win) (by simp)).trans h.win,(hg.block _ (lt_of_block h.fin) (by simp)).trans h.fin,(hg.block _ (lt_of_block h.tod) (by simp)).trans h.tod,(hg.block _ (lt_of_block h.row) (by simp)).trans h.row,
  World.ownsRow.kept h.own hg (by cases v.ownBlock <;> simp)⟩
theorem AInv.push {w0 w w':World} {wb tb fb rb kw kf:Nat} {rc:Array Value} {v v' u:Value} {vs:List Value} (h:AInv w0 w wb tb fb rb kw kf rc v vs) (hg:Gr w v w' v') (ho:OwnsS w0.heap.size w' v' (vs ++ [u])):AInv w0 (w'.setCell ⟨tb,0,none⟩ v') wb tb fb rb kw kf rc v' (vs ++ [u]):=by
 have k1:w'.heap[wb]? = _:=(hg.block (lt_of_block h.win) (own_ne_type h.own h.win (by decide))).trans h.win
 have k2:w'.heap[fb]? = _:=(hg.block (lt_of_block h.fin) (own_ne_type h.own h.fin (by decide))).trans h.fin
 have k3:w'.heap[tb]? = _:=(hg.block (lt_of_block h.tod) (own_ne_type h.own h.tod (by decide))).trans h.tod
 have k4:w'.heap[rb]? = _:=(hg.block (lt_of_block h.row) (own_ne_type h.own h.row (by decide))).trans h.row
 refine ⟨grow_setNew (grow_own h.grown h.own (Nat.le_refl _) hg.1) h.tlt _ _ _,h.tlt,?_,?_,one_setCell k3,?_,ownsRow_setCell_other ho (fun e=>own_ne_type ho k3 (by decide) e.symm) _⟩
 ·rw [Below.heap_setCell _ _ _ _ (ne_of_type k1 k3 (by decide))];exact k1
 ·rw [Below.heap_setCell _ _ _ _ (ne_of_type k2 k3 (by decide))];exact k2
 ·rw [Below.heap_setCell _ _ _ _ (ne_of_type k4 k3 (by decide))];exact k4
theorem AInv.pop {w0 w:World} {wb tb fb rb kw kf g n cap:Nat} {rc:Array Value} {u:Value} {vs:List Value} (h:AInv w0 w wb tb fb rb kw kf rc (.slice (some ⟨g,0,none⟩) (n + 1) cap) (vs ++ [u])) (hn:vs.length = n):AInv w0 (w.setCell ⟨tb,0,none⟩ (.slice (some ⟨g,0,none⟩) n cap)) wb tb fb rb kw kf rc (.slice (some ⟨g,0,none⟩) n cap) vs:=by
 have ho:=h.own
 unfold OwnsS at ho
 rw [List.length_append,hn] at ho
 have h2:=own_cut ho
 refine ⟨grow_setNew h.grown h.tlt _ _ _,h.tlt,?_,?_,one_setCell h.tod,?_,?_⟩
 ·rw [Below.heap_setCell _ _ _ _ (ne_of_type h.win h.tod (by decide))];exact h.win
 ·rw [Below.heap_setCell _ _ _ _ (ne_of_type h.fin h.tod (by decide))];exact h.fin
 ·rw [Below.heap_setCell _ _ _ _ (ne_of_type h.row h.tod (by decide))];exact h.row
 ·unfold OwnsS
  rw [hn]
  exact ownsRow_setCell_other h2 (fun e=>own_ne_type h2 h.tod (by decide) e.symm) _
theorem AInv.same {w0 w w':World} {wb tb fb rb kw kf:Nat} {rc:Array Value} {v v':Value} {vs vs':List Value} (h:AInv w0 w wb tb fb rb kw kf rc v vs) (h':AInv w0 w' wb tb fb rb kw kf rc v' vs'):Same (fun b=>b < w0.heap.size \/ b = rb) w w':=by
 intro b o hb _
 refine World.cell?_of_block ?_
 rcases hb with hb | rfl
 ·exact (h'.grown.block b hb (by simp)).trans (h.grown.block b hb (by simp)).symm
 ·exact h'.row.trans h.row.symm
def RowV (ok:Nat -> Prop) (w:World) (r:List Ty) (u:Value):Prop:=∃ a c V,u = .slice a r.length c /\ RowT ok w r a V
def RowsOk (ok:Nat -> Prop) (w:World) (rows:List (List Ty)) (vs:List Value):Prop:=rows.length = vs.length /\ ∀ (i:Nat) (r:List Ty) (u:Value),rows[i]? = some r -> vs[i]? = some u -> RowV ok w r u
theorem RowsOk.snoc {ok:Nat -> Prop} {w:World} {rows:List (List Ty)} {vs:List Value} {r:List Ty} {u:Value} (h:RowsOk ok w rows vs) (hr:RowV ok w r u):RowsOk ok w (rows ++ [r]) (vs ++ [u]):=by
 refine ⟨by simp [h.1],fun i r' u' h1 h2=>?_⟩
 by_cases hi:i < rows.length
 ·rw [List.getElem?_append_left hi] at h1
  rw [List.getElem?_append_left (by rw [← h.1];exact hi)] at h2
  exact h.2 i r' u' h1 h2
 ·have hi':i = rows.length:=by
   have:=(List.getElem?_eq_some_iff.1 h1).1
   simp at this;omega
  subst hi'
  rw [List.getElem?_append_right (Nat.le_refl _)] at h1
  rw [h.1,List.getElem?_append_right (Nat.le_refl _)] at h2
  simp at h1 h2
  subst h1;subst h2
  exact hr
theorem RowsOk.unsnoc {ok:Nat -> Prop} {w:World} {rows:List (List Ty)} {vs:List Value} {r:List Ty} {u:Value} (h:RowsOk ok w (rows ++ [r]) (vs ++ [u])):RowsOk ok w rows vs /\ RowV ok w r u:=by
 have hl:rows.length = vs.length:=by have:=h.1;simp at this;exact this
 refine ⟨⟨hl,fun i r' u' h1 h2=>?_⟩,?_⟩
 ·have k1:=(List.getElem?_eq_some_iff.1 h1).1
  have k2:=(List.getElem?_eq_some_iff.1 h2).1
  exact h.2 i r' u' (by rw [List.getElem?_append_left k1];exact h1) (by rw [List.getElem?_append_left k2];exact h2)
 ·exact h.2 rows.length r u (by rw [List.getElem?_append_right (Nat.le_refl _)];simp) (by rw [hl,List.getElem?_append_right (Nat.le_refl _)];simp)
theorem RowsOk.last {ok:Nat -> Prop} {w:World} {rows:List (List Ty)} {vs:List Value} (h:RowsOk ok w rows vs) (hn:0 < vs.length):∃ rows' r vs' u,rows = rows' ++ [r] /\ vs = vs' ++ [u] /\ RowsOk ok w rows' vs' /\ RowV ok w r u:=by
 have h1:rows ≠ []:=by intro e;rw [e] at h;have:=h.1;simp at this;omega
 have h2:vs ≠ []:=by intro e;rw [e] at hn;simp at hn
 have e1:=(List.dropLast_concat_getLast h1).symm
 have e2:=(List.dropLast_concat_getLast h2).symm
 rw [e1,e2] at h
 obtain ⟨a,b⟩:=h.unsnoc
 exact ⟨_,_,_,_,e1,e2,a,b⟩
theorem look_any {w0 w:World} {wb tb fb rb kw kf:Nat} {rc:Array Value} {v:Value} {vs:List Value} {inn f:Int -> Bool} {t:Int} {a:Option Addr} {l c:Nat} (hI:AInv w0 w wb tb fb rb kw kf rc v vs) (hw:Within kw inn) (hf:Fine kf f) (hl:l <= maxLen) (hlen:vs.length <= 100000000)
 (ekw:∀ args w,(callFunc kw args).run Tryz.prog w = .ok (.enter kw args) w) (ekf:∀ args w,(callFunc kf args).run Tryz.prog w = .ok (.enter kf args) w) :
 Calls Tryz.prog 78 #[tyV t a l c,.pointer (some ⟨wb,0,none⟩),.pointer (some ⟨tb,0,none⟩),.pointer (some ⟨fb,0,none⟩)] w fun e w'=>e = .returned (.bool (f t)) /\
  ∃ v',AInv w0 w' wb tb fb rb kw kf rc v' (vs ++ if inn t = true /\ 0 < l then [.slice a l c] else []):=by
 unfold maxLen at hl
 have HI:=jh hI
 have HW:=jh (hw t a l c (w.alloc (.cells #[.int .i64 t,.slice a l c] 24)))
 have HF:=jh hf
 have c1:=cell_of_one hI.win
 have c2:=cell_of_one hI.tod
 have c3:=cell_of_one hI.fin
 have l1:=lt_of_block hI.win
 have l2:=lt_of_block hI.tod
 have l3:=lt_of_block hI.fin
 clear hI hw hf
 by_cases hA:inn t = true /\ 0 < l
 ·have hl0:(0:Int) < (l:Int):=by omega
  have hW:=HW.out
  rw [if_pos hA.1] at hW
  have HW2:=jh hW
  rw [if_pos hA]
  clear HW hW hA
  unfold tyV at HW2 ⊢
  go_enter Tryz.func78,Tryz.ntmps78
  go_wp2_with fail
  refine HW2.out.mono ?_;rintro e w1 ⟨rfl,hg⟩
  have hI1:=(HI.out.alloc (.cells #[.int .i64 t,.slice a l c] 24)).call hg
  have hbx:w1.heap[w.heap.size]? = some (.cells #[.int .i64 t,.slice a l c] 24 (0,0)):=(hg.block w.heap.size (by simp) (by simp)).trans (heap_alloc_new _ _)
  have hBX:=jh hbx
  have d2:=cell_of_one hI1.tod
  have hI1H:=jh hI1
  have hown:=jh hI1.own
  have hB:=hI1.grown.size
  clear hg hI1 hbx c1 c2 c3 HI
  go_wp2_with (at_builtin;refine appS w0.heap.size vs a l c w1 v rfl (.tmp 13) (.tmp 15) rfl rfl rfl rfl hown.out hB hlen ?_;intro g cap w2 ho2 hg2;have HO2:=jh ho2;have HG2:=jh hg2;clear ho2 hg2;have k3:=(HG2.out.block (lt_of_block hI1H.out.tod) (own_ne_type hI1H.out.own hI1H.out.tod (by decide))).trans hI1H.out.tod;have m3:=free_of_one k3;have m4:=cell_of_one k3;have HI3:=jh (hI1H.out.push HG2.out HO2.out);have m5:=cell_of_one HI3.out.fin;have m6:=c0q ((Below.heap_setCell _ ⟨tb,0,none⟩ (.slice (some ⟨g,0,none⟩) (vs.length + 1) cap) _ (ne_of_type ((HG2.out.block (lt_of_block hBX.out) (own_ne_type hI1H.out.own hBX.out (by decide))).trans hBX.out) k3 (by decide))).trans ((HG2.out.block (lt_of_block hBX.out) (own_ne_type hI1H.out.own hBX.out (by decide))).trans hBX.out));clear k3)
  refine (HF.out t _).mono ?_;rintro e w3 ⟨rfl,rfl⟩
  go_wp2_with fail
  go_ret
  exact ⟨rfl,_,HI3.out⟩
 ·have hW:∃ a' c',∀ W,(W = w.alloc (.cells #[.int .i64 t,.slice a l c] 24)) -> Calls Tryz.prog kw #[tyV t a l c] W fun e w'=>e = .returned (.slice a' 0 c') /\ W.grownBy w' none:=by
   have hW:=HW.out
   by_cases hi:inn t = true
   ·have : l = 0:=by
     by_cases h0:0 < l
     ·exact absurd ⟨hi,h0⟩ hA
     ·omega
    subst this
    rw [if_pos hi] at hW
    exact ⟨a,c,fun W e=>by subst e;exact hW⟩
   ·rw [if_neg hi] at hW
    exact ⟨none,0,fun W e=>by subst e;exact hW⟩
  obtain ⟨a',c',hW2⟩:=hW
  have HW2:=jh (hW2 _ rfl)
  rw [if_neg hA,List.append_nil]
  clear HW hW2 hA
  unfold tyV at HW2 ⊢
  go_enter Tryz.func78,Tryz.ntmps78
  go_wp2_with fail
  refine HW2.out.mono ?_;rintro e w1 ⟨rfl,hg⟩
  have hI1:=(HI.out.alloc (.cells #[.int .i64 t,.slice a l c] 24)).call hg
  have hbx:w1.heap[w.heap.size]? = some (.cells #[.int .i64 t,.slice a l c] 24 (0,0)):=(hg.block w.heap.size (by simp) (by simp)).trans (heap_alloc_new _ _)
  have m6:=c0q hbx
  have m5:=cell_of_one hI1.fin
  have hI1H:=jh hI1
  clear hg hI1 hbx c1 c2 c3 HI
  go_wp2_with fail
  refine (HF.out t _).mono ?_;rintro e w3 ⟨rfl,rfl⟩
  go_wp2_with fail
  go_ret
  exact ⟨rfl,_,hI1H.out⟩
theorem ent_all1:∀ args w,(callFunc 78 args).run Tryz.prog w = .ok (.enter 78 args) w:=fun args w=>by simp [go_sem]
def aw (w:World) (t:Int) (a:Option Addr) (l c kw kf:Nat):World :=
 (((((w.alloc (.cells #[.int .i64 t,.slice a l c] 24)).alloc (.cells #[.func (.func kw) #[] #[]] 98)).alloc (.cells #[.func (.func kf) #[] #[]] 42)).alloc
   (.cells #[.int .i64 t,.slice a l c] 24)).alloc (.cells #[.slice (some ⟨w.heap.size + 1 + 1 + 1,0,none⟩) 1 1] 22)).alloc (.cells #[.slice (some ⟨w.heap.size + 1 + 1 + 1 + 1,0,none⟩) 1 1] 111)
theorem aw_inv (w:World) (t:Int) (a:Option Addr) (l c kw kf:Nat):AInv w (aw w t a l c kw kf) (w.heap.size + 1) (w.heap.size + 1 + 1 + 1 + 1 + 1) (w.heap.size + 1 + 1) (w.heap.size + 1 + 1 + 1) kw kf #[.int .i64 t,.slice a l c]
 (.slice (some ⟨w.heap.size + 1 + 1 + 1 + 1,0,none⟩) 1 1) [.slice (some ⟨w.heap.size + 1 + 1 + 1,0,none⟩) 1 1]:=by
 have e1:=heap_alloc_new (w.alloc (.cells #[.int .i64 t,.slice a l c] 24)) (.cells #[.func (.func kw) #[] #[]] 98)
 have e2:=heap_alloc_new ((w.alloc (.cells #[.int .i64 t,.slice a l c] 24)).alloc (.cells #[.func (.func kw) #[] #[]] 98)) (.cells #[.func (.func kf) #[] #[]] 42)
 have e3:=heap_alloc_new (((w.alloc (.cells #[.int .i64 t,.slice a l c] 24)).alloc (.cells #[.func (.func kw) #[] #[]] 98)).alloc (.cells #[.func (.func kf) #[] #[]] 42)) (.cells #[.int .i64 t,.slice a l c] 24)
 have e4:=heap_alloc_new ((((w.alloc (.cells #[.int .i64 t,.slice a l c] 24)).alloc (.cells #[.func (.func kw) #[] #[]] 98)).alloc (.cells #[.func (.func kf) #[] #[]] 42)).alloc (.cells #[.int .i64 t,.slice a l c] 24))
  (.cells #[.slice (some ⟨w.heap.size + 1 + 1 + 1,0,none⟩) 1 1] 22)
 have e5:=heap_alloc_new (((((w.alloc (.cells #[.int .i64 t,.slice a l c] 24)).alloc (.cells #[.func (.func kw) #[] #[]] 98)).alloc (.cells #[.func (.func kf) #[] #[]] 42)).alloc (.cells #[.int .i64 t,.slice a l c] 24)).alloc
  (.cells #[.slice (some ⟨w.heap.size + 1 + 1 + 1,0,none⟩) 1 1] 22)) (.cells #[.slice (some ⟨w.heap.size + 1 + 1 + 1 + 1,0,none⟩) 1 1] 111)
 simp only [World.size_alloc] at e1 e2 e3 e4 e5
 refine ⟨gTq (gBq _) (gTq (gBq _) (gTq (gBq _) (gTq (gBq _) (gTq (gBq _) (gBq _))))),by omega,?_,?_,e5,?_,?_⟩
 ·exact heap_keep (heap_keep (heap_keep (heap_keep e1)))
 ·exact heap_keep (heap_keep (heap_keep e2))
 ·exact heap_keep (heap_keep e3)
 ·exact ⟨rfl,.inr ⟨w.heap.size + 1 + 1 + 1 + 1,1,#[.slice (some ⟨w.heap.size + 1 + 1 + 1,0,none⟩) 1 1],rfl,by omega,heap_keep e4,by simp,by simp [maxLen],rfl,rfl⟩⟩
def ARel (w0 W1:World) (kw kf:Nat) (rc:Array Value) (inn f:Int -> Bool) (T:Ty) (n:Nat) (wr:World):Prop :=
 ∃ (v:Value) (vs:List Value) (rows:List (List Ty)),AInv w0 wr (w0.heap.size + 1) (w0.heap.size + 1 + 1 + 1 + 1 + 1) (w0.heap.size + 1 + 1) (w0.heap.size + 1 + 1 + 1) kw kf rc v vs /\
  RowsOk (fun b=>b < w0.heap.size \/ b = w0.heap.size + 1 + 1 + 1) W1 rows vs /\ leftOf rows = n /\ n <= T.size + 1 /\ rows.all (allFs inn f) = allF inn f T
def fineAt (f:Int -> Bool) (r:List Ty) (i:Nat):Bool:=match r[i]? with
 | some x=>f x.t
 | none=>true
theorem add_none (g o x:Nat):(⟨g,o,none⟩:Addr).add x = ⟨g,o + x,none⟩:=by unfold Addr.add;split <;> simp_all
theorem own_empty {w:World} {B:Nat} {e:TypeId} {size n:Nat} {v:Value} {xs:List Value} (h:w.ownsRow B e size v n xs) (hn:n = 0):∃ a c,v = .slice a 0 c:=by
 rcases h.2 with ⟨rfl,_⟩ | ⟨g,cap,cur,rfl,_⟩
 ·exact ⟨_,_,rfl⟩
 ·exact ⟨_,_,by rw [hn]⟩
theorem oCq {w:World} {B:Nat} {e:TypeId} {size n g cap:Nat} {xs:List Value} (h:w.ownsRow B e size (.slice (some ⟨g,0,none⟩) n cap) n xs):n <= cap /\ cap <= maxLen:=by
 rcases h.2 with ⟨hx,_⟩ | ⟨g',cap',cur,hx,_,_,h3,h4,_⟩
 ·simp at hx
 ·simp only [Value.slice.injEq,true_and] at hx
  rw [hx.2];exact ⟨h3,h4⟩
theorem pushes_rows {ok:Nat -> Prop} {W:World} {rows:List (List Ty)} {vs:List Value} {inn:Int -> Bool} {x:Ty} {a:Option Addr} {c:Nat} {V:Nat -> Value} (h:RowsOk ok W rows vs) (hx:RowT ok W x.args a V) :
 RowsOk ok W (rows ++ pushes inn x) (vs ++ if inn x.t = true /\ 0 < x.args.length then [.slice a x.args.length c] else []):=by
 by_cases hA:inn x.t = true /\ 0 < x.args.length
 ·have e:pushes inn x = [x.args]:=by
   obtain ⟨t,args⟩:=x
   have h1:inn t = true:=hA.1
   have h2:0 < args.length:=hA.2
   cases args with
   | nil=>simp at h2
   | cons y l=>simp [pushes,rowOf,h1,Ty.args]
  rw [if_pos hA,e]
  exact h.snoc ⟨a,c,V,rfl,hx⟩
 ·have e:pushes inn x = []:=by
   obtain ⟨t,args⟩:=x
   cases args with
   | nil=>simp [pushes,rowOf]
   | cons y l =>
    have h1:¬ inn t = true:=fun h=>hA ⟨h,by simp [Ty.args]⟩
    simp [pushes,h1]
  rw [if_neg hA,e]
  simpa using h
theorem all_any {kw kf:Nat} {inn f:Int -> Bool} (hw:Within kw inn) (hf:Fine kf f) (ekw:∀ args w,(callFunc kw args).run Tryz.prog w = .ok (.enter kw args) w) (ekf:∀ args w,(callFunc kf args).run Tryz.prog w = .ok (.enter kf args) w)
 {w0:World} {T:Ty} {v:Value} (hL:LiesT (· < w0.heap.size) w0 T v) (hz:T.size <= 50000000) :
 Calls Tryz.prog 53 #[v,.func (.func kw) #[] #[],.func (.func kf) #[] #[]] w0 fun e w'=>e = .returned (.bool (allF inn f T)) /\ w0.grownBy w' none:=by
 obtain ⟨a,c,V,rfl,it,hR⟩:=hL.inv
 obtain ⟨μ,hμ⟩:=least_of (ARel w0 (aw w0 T.t a T.args.length c kw kf) kw kf #[.int .i64 T.t,.slice a T.args.length c] inn f T)
 have h0:ARel w0 (aw w0 T.t a T.args.length c kw kf) kw kf #[.int .i64 T.t,.slice a T.args.length c] inn f T (T.size + 1) (aw w0 T.t a T.args.length c kw kf):=by
  have hI:=aw_inv w0 T.t a T.args.length c kw kf
  refine ⟨_,_,[[T]],hI,⟨rfl,?_⟩,by simp [leftOf,tysizes],Nat.le_refl _,by simp [allFs]⟩
  intro i r u h1 h2
  cases i with
  | zero =>
   simp at h1 h2
   subst h1;subst h2
   refine ⟨some ⟨w0.heap.size + 1 + 1 + 1,0,none⟩,1,fun _=>tyV T.t a T.args.length c,rfl,by simp [maxLen],fun i hi=>?_,fun i hi=>?_⟩
   ·have : i = 0:=by simpa using hi
    subst this
    exact ⟨_,0,rfl,.inr rfl,T.t,a,T.args.length,c,rfl,c0q hI.row,c1q hI.row⟩
   ·have : i = 0:=by simpa using hi
    subst this
    have hs:Same (· < w0.heap.size) w0 (aw w0 T.t a T.args.length c kw kf):=fun b o hb _=>World.cell?_of_block (hI.grown.block b hb (by simp))
    exact (hL.same hs).okMono (fun b _ hb=>.inl hb)
  | succ i=>simp at h1
 have hrl:T.args.length <= maxLen:=hR.1
 unfold maxLen at hrl
 have H0:=jh h0
 have HM:=jh hμ
 clear h0 hμ hR hL it
 unfold tyV
 go_enter Tryz.func53,Tryz.ntmps53
 go_wp2_with fail
 go_loopw [9] (fun _ wr=>∃ n,ARel w0 (aw w0 T.t a T.args.length c kw kf) kw kf #[.int .i64 T.t,.slice a T.args.length c] inn f T n wr) (fun _ wr=>μ wr)
 case atStart=>exact ⟨_,H0.out⟩
 case round =>
  obtain ⟨n0,hn0⟩:=hrel
  obtain ⟨v1,vs,rows,hI,hRows,hn,hle,hall⟩:=(HM.out wr n0 hn0).1
  have c1:=cell_of_one hI.tod
  have f1:=free_of_one hI.tod
  by_cases hv:vs.length = 0
  ·obtain ⟨a0,cc0,rfl⟩:=own_empty hI.own hv
   have hres:allF inn f T = true:=by
    have h1:=hRows.1
    have h2:rows = []:=List.length_eq_zero_iff.1 (by omega)
    rw [h2] at hall
    exact hall.symm
   have HR:=jh hres
   have HI:=jh hI
   clear hI hRows hn hle hall hres hn0
   go_wp2_with fail
   go_ret
   exact ⟨by rw [HR.out];rfl,HI.out.grown⟩
  ·obtain ⟨rows',r,vs',u,rfl,rfl,hRows',ar,cr,Vr,rfl,hRT⟩:=hRows.last (by omega)
   have hlv:(vs' ++ [Value.slice ar r.length cr]).length = vs'.length + 1:=by simp
   have hform:=World.ownsRow.form hI.own (by omega)
   rw [hlv] at hform
   obtain ⟨g,cap,rfl,_,_⟩:=hform
   have hcap:vs'.length + 1 <= cap /\ cap <= maxLen:=by
    have ho:=hI.own
    unfold OwnsS at ho
    rw [hlv] at ho
    exact oCq ho
   have hcap1:vs'.length <= cap:=by omega
   have hcap2:¬ cap = 0:=by omega
   have hcell:wr.cell? ⟨g,vs'.length,none⟩ = some (.slice ar r.length cr):=by
    have:=World.ownsRow.cells hI.own (g:=g) rfl vs'.length (.slice ar r.length cr) (by simp)
    rw [add_none,Nat.zero_add] at this
    exact this
   have hI2:=hI.pop rfl
   have hb1:vs'.length + 1 <= 50000001:=by
    have h1:=hRows.1
    have h2:=len_left (rows' ++ [r])
    omega
   have hleft:leftOf rows' + (tysizes r + 1) = μ wr:=by rw [← hn,leftOf_append,leftOf_single]
   have hE:Calls Tryz.prog 75 #[.slice ar r.length cr,.func (.func 78) #[] #[.pointer (some ⟨w0.heap.size + 1,0,none⟩),.pointer (some ⟨w0.heap.size + 1 + 1 + 1 + 1 + 1,0,none⟩),.pointer (some ⟨w0.heap.size + 1 + 1,0,none⟩)]]
    (wr.setCell ⟨w0.heap.size + 1 + 1 + 1 + 1 + 1,0,none⟩ (.slice (some ⟨g,0,none⟩) vs'.length cap)) fun e w'=>(e = .returned (.bool true) /\ ∃ m,m < μ wr /\ ARel w0 (aw w0 T.t a T.args.length c kw kf) kw kf #[.int .i64 T.t,.slice a T.args.length c] inn f T m w') \/
     (e = .returned (.bool false) /\ allF inn f T = false /\ w0.grownBy w' none):=by
    refine (every_any 78 _ r.length ar cr Vr (fineAt f r) (fun i w=>∃ v2 vs2,AInv w0 w (w0.heap.size + 1) (w0.heap.size + 1 + 1 + 1 + 1 + 1) (w0.heap.size + 1 + 1) (w0.heap.size + 1 + 1 + 1) kw kf #[.int .i64 T.t,.slice a T.args.length c] v2 vs2 /\
     RowsOk (fun b=>b < w0.heap.size \/ b = w0.heap.size + 1 + 1 + 1) (aw w0 T.t a T.args.length c kw kf) (rows' ++ (r.take i).flatMap (pushes inn)) vs2) (fun w=>w0.grownBy w none) hRT.1 ent_all1 ?_ ?_ ?_ _ ⟨_,vs',hI2,by simpa using hRows'⟩).mono ?_
    ·rintro i w hi ⟨v2,vs2,hI3,_⟩
     exact ((hRT.2.1 i hi).same ((aw_inv w0 T.t a T.args.length c kw kf).same hI3)).okMono (fun _ _ _=>trivial)
    ·rintro i w o ⟨v2,vs2,hI3,h4⟩
     exact ⟨v2,vs2,hI3.alloc o,h4⟩
    ·rintro i w hi ⟨v2,vs2,hI3,h4⟩
     obtain ⟨ax,cx,Vx,hVx,_,hRx⟩:=(hRT.2.2 i hi).inv
     have hlen:vs2.length <= 100000000:=by
      have h5:=h4.1
      have h6:=len_left (rows' ++ (r.take i).flatMap (pushes inn))
      have h7:=flatPushes_left inn (r.take i)
      have h8:=tysizes_take_le r i
      rw [leftOf_append] at h6
      omega
     rw [hVx]
     refine (look_any hI3 hw hf hRx.1 hlen ekw ekf).mono ?_
     rintro e w' ⟨rfl,v',hI4⟩
     have hfa:fineAt f r i = f (r[i]).t:=by simp [fineAt,List.getElem?_eq_getElem hi]
     rw [hfa]
     refine ⟨rfl,fun _=>⟨v',_,hI4,?_⟩,fun _=>hI4.grown⟩
     rw [flatMap_take_succ _ _ _ hi,← List.append_assoc]
     exact pushes_rows h4 hRx
    ·rintro e w' (⟨rfl,⟨v2,vs2,hI3,h4⟩,hb⟩ | ⟨i,hi,hb,rfl,hg⟩)
     ·rw [List.take_length] at h4
      have hyes:∀ x ∈ r,f x.t = true:=by
       intro x hx
       obtain ⟨i,hi,rfl⟩:=List.getElem_of_mem hx
       have:=hb i hi
       simpa [fineAt,List.getElem?_eq_getElem hi] using this
      have h7:=flatPushes_left inn r
      refine .inl ⟨rfl,leftOf (rows' ++ r.flatMap (pushes inn)),?_,v2,vs2,_,hI3,h4,rfl,?_,?_⟩
      ·rw [leftOf_append];omega
      ·rw [leftOf_append];omega
      ·rw [← hall,List.all_append,List.all_append,← allFs_pushes inn f r hyes];simp
     ·refine .inr ⟨rfl,?_,hg⟩
      have hno:f (r[i]).t = false:=by simpa [fineAt,List.getElem?_eq_getElem hi] using hb
      rw [← hall,List.all_append]
      simp [allFs_no inn f r i hi hno]
   have HE:=jh hE
   have hvv:(vs'.length:Int) <= 4611686018427387904:=by omega
   clear hz hb1 hv hcap hE hI2 hI hRows hRows' hRT hn hle hall hn0 hlv hleft
   go_wp2_with fail
   refine HE.out.mono ?_
   rintro e w2 (⟨rfl,hm⟩ | ⟨rfl,hno,hg⟩)
   ·have HM2:=jh hm
    clear hm
    go_wp2_with fail
    obtain ⟨m,h1,h2⟩:=HM2.out
    go_roundw
    case rel=>exact ⟨m,h2⟩
    case measure=>exact Nat.lt_of_le_of_lt (HM.out _ m h2).2 h1
   ·have HN:=jh hno
    have HG:=jh hg
    clear hno hg
    go_wp2_with fail
    go_ret
    exact ⟨by rw [HN.out];rfl,HG.out⟩
theorem LiesT.grow {w w':World} {T:Ty} {v:Value} (h:LiesT (· < w.heap.size) w T v) (hg:w.grownBy w' none):LiesT (· < w'.heap.size) w' T v :=
 (h.same (w':=w') (fun b o hb _=>World.cell?_of_block (hg.block b hb (by simp)))).okMono (fun b hb _=>hb)
theorem comparable_any {w:World} {T:Ty} {v:Value} (hL:LiesT (· < w.heap.size) w T v) (hz:T.size <= 50000000) :
 Calls Tryz.prog 77 #[v] w fun e w'=>e = .returned (.bool (compT T)) /\ w.grownBy w' none:=by
 obtain ⟨a,c,V,rfl,it,hR⟩:=hL.inv
 have HA:=jh (all_any made_any comp1_any (fun args w=>by simp [go_sem]) (fun args w=>by simp [go_sem]) (hL.grow (gBq (.cells #[.int .i64 T.t,.slice a T.args.length c] 24))) hz)
 clear hL hR it hz
 unfold tyV at HA ⊢
 go_enter Tryz.func77,Tryz.ntmps77
 go_wp2_with fail
 refine HA.out.mono ?_;rintro e w1 ⟨rfl,hg⟩
 have HG:=jh hg
 clear hg
 go_wp2_with fail
 go_ret
 exact ⟨rfl,gTq (gBq _) HG.out⟩
theorem copied_any {w:World} {T:Ty} {v:Value} (hL:LiesT (· < w.heap.size) w T v) (hz:T.size <= 50000000) :
 Calls Tryz.prog 109 #[v] w fun e w'=>e = .returned (.bool (copyT T)) /\ w.grownBy w' none:=by
 obtain ⟨a,c,V,rfl,it,hR⟩:=hL.inv
 have HA:=jh (all_any held_any copy1_any (fun args w=>by simp [go_sem]) (fun args w=>by simp [go_sem]) (hL.grow (gBq (.cells #[.int .i64 T.t,.slice a T.args.length c] 24))) hz)
 clear hL hR it hz
 unfold tyV at HA ⊢
 go_enter Tryz.func109,Tryz.ntmps109
 go_wp2_with fail
 refine HA.out.mono ?_;rintro e w1 ⟨rfl,hg⟩
 have HG:=jh hg
 clear hg
 go_wp2_with fail
 go_ret
 exact ⟨rfl,gTq (gBq _) HG.out⟩
theorem packed_any {w:World} {T:Ty} {v:Value} (hL:LiesT (· < w.heap.size) w T v) (hz:T.size <= 50000000) :
 Calls Tryz.prog 116 #[v] w fun e w'=>e = .returned (.bool (packT T)) /\ w.grownBy w' none:=by
 obtain ⟨a,c,V,rfl,it,hR⟩:=hL.inv
 have HA:=jh (all_any made_any pack1_any (fun args w=>by simp [go_sem]) (fun args w=>by simp [go_sem]) (hL.grow (gBq (.cells #[.int .i64 T.t,.slice a T.args.length c] 24))) hz)
 clear hL hR it hz
 unfold tyV at HA ⊢
 go_enter Tryz.func116,Tryz.ntmps116
 go_wp2_with fail
 refine HA.out.mono ?_;rintro e w1 ⟨rfl,hg⟩
 have HG:=jh hg
 clear hg
 go_wp2_with fail
 go_ret
 exact ⟨rfl,gTq (gBq _) HG.out⟩
theorem stored_any {w:World} {T:Ty} {v:Value} (hL:LiesT (· < w.heap.size) w T v) (hz:T.size <= 50000000) :
 Calls Tryz.prog 38 #[v] w fun e w'=>e = .returned (.bool (storeT T)) /\ w.grownBy w' none:=by
 obtain ⟨a,c,V,rfl,it,hR⟩:=hL.inv
 have HA:=jh (all_any held_any store1_any (fun args w=>by simp [go_sem]) (fun args w=>by simp [go_sem]) (hL.grow (gBq (.cells #[.int .i64 T.t,.slice a T.args.length c] 24))) hz)
 clear hL hR it hz
 unfold tyV at HA ⊢
 go_enter Tryz.func38,Tryz.ntmps38
 go_wp2_with fail
 refine HA.out.mono ?_;rintro e w1 ⟨rfl,hg⟩
 have HG:=jh hg
 clear hg
 go_wp2_with fail
 go_ret
 exact ⟨rfl,gTq (gBq _) HG.out⟩
def keyedAt (args:List Ty) (i:Nat):Bool:=match args[i]? with
 | some x=>keyedF x
 | none=>true
theorem keyed_all {args:List Ty} (h:∀ i,i < args.length -> keyedAt args i = true):keyedFs args = true:=by
 rw [keyedFs_all,List.all_eq_true]
 intro x hx
 obtain ⟨i,hi,rfl⟩:=List.getElem_of_mem hx
 simpa [keyedAt,List.getElem?_eq_getElem hi] using h i hi
theorem keyed_no {args:List Ty} {i:Nat} (hi:i < args.length) (h:keyedAt args i = false):keyedFs args = false:=by
 cases hq:keyedFs args with
 | false=>rfl
 | true =>
  rw [keyedFs_all,List.all_eq_true] at hq
  have:=hq args[i] (List.getElem_mem hi)
  simp [keyedAt,List.getElem?_eq_getElem hi,this] at h
theorem keyed_any {w:World} {T:Ty} {v:Value} (hL:LiesT (· < w.heap.size) w T v):∀ (d:Nat) (w2:World),w.grownBy w2 none -> fBq d T = true -> T.size <= 50000000 ->
 Calls Tryz.prog 52 #[v] w2 fun e w'=>e = .returned (.bool (keyedF T)) /\ w2.grownBy w' none:=by
 induction hL with
 | @mk t args a c V hl hlc it hc hr ih =>
  intro d w2 hg0 hfm hz
  simp only [fBq,Bool.and_eq_true,decide_eq_true_eq] at hfm
  obtain ⟨⟨_,_,hpa⟩,hfs⟩:=hfm
  rw [formedBs_all,List.all_eq_true] at hfs
  rw [Ty.size] at hz
  have hE:∀ w3,w2.grownBy w3 none -> Calls Tryz.prog 75 #[.slice a args.length c,.func (.func 52) #[] #[]] w3 fun e w'=>e = .returned (.bool (keyedFs args)) /\ w2.grownBy w' none:=by
   intro w3 hg3
   refine (every_any 52 #[] args.length a c V (keyedAt args) (fun _ wr=>w2.grownBy wr none) (fun wr=>w2.grownBy wr none) hl ent_keyed ?_ ?_ ?_ _ hg3).mono ?_
   ·intro i wr hi hI
    exact ((hc i hi).same (w':=wr) (fun b o hb _=>World.cell?_of_block ((gTq hg0 hI).block b hb (by simp)))).okMono (fun _ _ _=>trivial)
   ·intro i wr o hI
    exact gTq hI (gBq _)
   ·intro i wr hi hI
    rw [Array.append_empty]
    refine (ih i hi (d + 1) wr (gTq hg0 hI) (hfs _ (List.getElem_mem hi)) (by have:=tysize_mem (List.getElem_mem hi);omega)).mono ?_
    rintro e w' ⟨rfl,hg⟩
    have e1:keyedAt args i = keyedF args[i]:=by simp [keyedAt,List.getElem?_eq_getElem hi]
    rw [e1]
    exact ⟨rfl,fun _=>gTq hI hg,fun _=>gTq hI hg⟩
   ·rintro e w' (⟨rfl,hI,hb⟩ | ⟨i,hi,hb,rfl,hg⟩)
    ·rw [keyed_all hb];exact ⟨rfl,hI⟩
    ·rw [keyed_no hi hb];exact ⟨rfl,hg⟩
  unfold maxLen at hl
  have HE:=jh hE
  by_cases hk:t = 13 \/ t = 15
  ·have hlen:0 < args.length:=by
    unfold partsF at hpa
    rcases hk with rfl | rfl <;> simp at hpa <;> omega
   obtain ⟨b0,o0,t0,a0,l0,c0,rfl,hb0,hv0,e0,e1⟩:=(hc 0 hlen).cells
   have hL0:=hr 0 hlen
   have hC:∀ w3,w.grownBy w3 none -> Calls Tryz.prog 77 #[V 0] w3 fun e w'=>e = .returned (.bool (compT args[0])) /\ w3.grownBy w' none:=fun w3 hg3=>comparable_any (hL0.grow hg3) (by have:=tysize_mem (List.getElem_mem hlen);omega)
   rw [hv0] at hC
   unfold tyV at hC
   have hkF:keyedF (.nd t args) = (compT args[0] && keyedFs args):=by
    have e2:headComp args = compT args[0]:=by
     cases args with
     | nil=>simp at hlen
     | cons x l=>rfl
    simp [keyedF,keyHere,hk,e2]
   have hs0:(w2.alloc (.cells #[.int .i64 t,.slice (some ⟨b0,o0,none⟩) args.length c] 24)).cell? ⟨b0,o0,none⟩ = some (.int .i64 t0):=by
    rw [World.cell?_of_block ((gTq hg0 (gBq _)).block b0 hb0 (by simp))];simpa using e0
   have hs1:(w2.alloc (.cells #[.int .i64 t,.slice (some ⟨b0,o0,none⟩) args.length c] 24)).cell? ⟨b0,o0 + 1,none⟩ = some (.slice a0 l0 c0):=by
    rw [World.cell?_of_block ((gTq hg0 (gBq _)).block b0 hb0 (by simp))];simpa using e1
   have hlen':(0:Int) < (args.length:Int):=by omega
   have HC:=jh (hC _ (gTq hg0 (gBq (.cells #[.int .i64 t,.slice (some ⟨b0,o0,none⟩) args.length c] 24))))
   have HK:=jh hkF
   clear hC hE ih hc hr hfs hL0 hkF e0 e1 hv0 hpa hz
   unfold tyV
   generalize compT args[0] = cmp at *
   rcases hk with rfl | rfl
   all_goals
    cases cmp
    all_goals
     go_enter Tryz.func52,Tryz.ntmps52
     go_wp2_with fail
     refine HC.out.mono ?_;rintro e w3 ⟨rfl,hg3⟩
     have hbx:=(hg3.block w2.heap.size (by simp) (by simp)).trans (heap_alloc_new _ _)
     have x1:=c1q hbx
     have HG3:=jh hg3
     clear hg3 hbx
     go_wp2_with fail
   all_goals first
    | (go_ret;exact ⟨by rw [HK.out];rfl,gTq (gBq _) HG3.out⟩)
    | (refine (HE.out _ (gTq (gBq _) HG3.out)).mono ?_;rintro e w4 ⟨rfl,hg4⟩
       have HG4:=jh hg4
       clear hg4
       go_wp2_with fail
       go_ret
       exact ⟨by rw [HK.out];simp,HG4.out⟩)
  ·have hkF:keyedF (.nd t args) = keyedFs args:=by simp [keyedF,keyHere,hk]
   have HK:=jh hkF
   have k1:(t == 13) = false:=by simp;omega
   have k2:(t == 15) = false:=by simp;omega
   clear hE ih hc hr hfs hkF hpa hz
   unfold tyV
   go_enter Tryz.func52,Tryz.ntmps52
   go_wp2_with fail
   refine (HE.out _ (gBq _)).mono ?_;rintro e w4 ⟨rfl,hg4⟩
   have HG4:=jh hg4
   clear hg4
   go_wp2_with fail
   go_ret
   exact ⟨by rw [HK.out];rfl,HG4.out⟩
theorem grow_fresh {w W w':World} {b:Nat} (h:w.grownBy W none) (hb:w.heap.size <= b) (hg:W.grownBy w' (some b)):w.grownBy w' none :=
 ⟨hg.os.trans h.os,hg.tape.trans h.tape,hg.output.trans h.output,Nat.le_trans h.size hg.size,fun i hi hr=>(hg.block i (Nat.lt_of_lt_of_le hi h.size) (by simp;omega)).trans (h.block i hi hr)⟩
theorem goodTy_formed {T:Ty} (h:gYq T = true):fBq 1 T = true /\ T.size <= 300 /\ keyedF T = true:=by
 simp only [gYq,Bool.and_eq_true,decide_eq_true_eq] at h
 exact ⟨h.1.1,h.1.2,h.2⟩
theorem kgood_any {w:World} {T:Ty} {v:Value} (hL:LiesT (· < w.heap.size) w T v) :
 Calls Tryz.prog 37 #[v] w fun e w'=>e = .returned (.bool (gYq T)) /\ w.grownBy w' none:=by
 obtain ⟨a,c,V,rfl,it,hR⟩:=hL.inv
 have hgW:w.grownBy ((w.alloc (.cells #[.int .i64 T.t,.slice a T.args.length c] 24)).alloc (.cells #[.int .i64 0] 3)) none:=gTq (gBq _) (gBq _)
 have hcnt:CountAt ((w.alloc (.cells #[.int .i64 T.t,.slice a T.args.length c] 24)).alloc (.cells #[.int .i64 0] 3)) (w.heap.size + 1) 0:=by
  have:=heap_alloc_new (w.alloc (.cells #[.int .i64 T.t,.slice a T.args.length c] 24)) (.cells #[.int .i64 0] 3)
  rw [World.size_alloc] at this
  exact this
 have hL2:LiesT (· ≠ w.heap.size + 1) ((w.alloc (.cells #[.int .i64 T.t,.slice a T.args.length c] 24)).alloc (.cells #[.int .i64 0] 3)) T (tyV T.t a T.args.length c) :=
  (hL.same (fun b o hb _=>World.cell?_of_block (hgW.block b hb (by simp)))).okMono (fun b _ hb=>by have : b < w.heap.size:=hb;show b ≠ _;omega)
 have hF:=formed_any hL2 1 0 _ (Same.refl _ _) (Nat.le_refl _) hcnt (by omega) (by omega)
 have HK:Hid (formedAt 1 0 T = true -> ∀ w3,w.grownBy w3 none -> Calls Tryz.prog 52 #[tyV T.t a T.args.length c] w3 fun e w'=>e = .returned (.bool (keyedF T)) /\ w3.grownBy w' none):=by
  intro h w3 hg3
  simp only [formedAt,Bool.and_eq_true,decide_eq_true_eq] at h
  exact keyed_any hL 1 w3 hg3 h.1 (by omega)
 have hgood:gYq T = (formedAt 1 0 T && keyedF T):=by simp [gYq,formedAt]
 have HGD:=jh hgood
 have HGW:=jh hgW
 clear hL hR it hcnt hL2 hgood hgW
 unfold FormedPost at hF
 rw [show (((1:Nat)):Int) = 1 from rfl] at hF
 generalize formedAt 1 0 T = fa at *
 cases fa with
 | false =>
  have HF:=jh hF
  clear hF HK
  unfold tyV at HF ⊢
  go_enter Tryz.func37,Tryz.ntmps37
  go_wp2_with fail
  refine HF.out.mono ?_;rintro e w1 ⟨rfl,hg,_⟩
  have HG:=jh (grow_fresh HGW.out (by omega) hg)
  clear hg
  go_wp2_with fail
  go_ret
  exact ⟨by rw [HGD.out];rfl,HG.out⟩
 | true =>
  have HF:=jh hF
  have HK2:=jh (HK.out rfl)
  clear hF HK
  unfold tyV at HF HK2 ⊢
  go_enter Tryz.func37,Tryz.ntmps37
  go_wp2_with fail
  refine HF.out.mono ?_;rintro e w1 ⟨rfl,hg,_⟩
  have hbx:w1.heap[w.heap.size]? = some (.cells #[.int .i64 T.t,.slice a T.args.length c] 24 (0,0)):=(hg.block w.heap.size (by simp;omega) (by simp)).trans (heap_keep (heap_alloc_new _ _))
  have x0:=c0q hbx
  have x1:=c1q hbx
  have HG:=jh (grow_fresh HGW.out (by omega) hg)
  clear hg hbx
  go_wp2_with fail
  refine (HK2.out _ HG.out).mono ?_;rintro e w2 ⟨rfl,hg2⟩
  have HG2:=jh hg2
  clear hg2
  go_wp2_with fail
  go_ret
  exact ⟨by rw [HGD.out];simp,gTq HG.out HG2.out⟩
theorem info_ty:(Tryz.prog.info? 24).map (fun i=>(i.zero,i.size,i.bytes)) = some (some (.agg #[.int .i64 0,.slice none 0 0]),2,32):=by kernel_rfl
def tyCells:Value -> List Value
 | .agg xs=>xs.toList
 | _=>[]
def flatT (vs:List Value):List Value:=vs.flatMap tyCells
def OTq (B:Nat) (w:World) (v:Value) (vs:List Value):Prop:=w.ownsRow B 24 2 v vs.length (flatT vs)
theorem flatT_append (a b:List Value):flatT (a ++ b) = flatT a ++ flatT b:=by simp [flatT]
theorem appT {ops:Array Oper} {rest:List Oper} {o:Oper} {a:Act} {Q:Exit -> Act -> World -> Prop} (B:Nat) (vs:List Value) (k:Int) (sa:Option Addr) (sl sc:Nat) (w0:World) (v:Value) (hgd:o.guard = none) (s x:Operand)
 (ho:o.op = .call { callee:=.builtin .append,args:=#[s,x],argTypes:=#[22,22] }) (hs:a.eval s = v) {H:Nat} (hx:a.eval x = .slice (some ⟨H,0,none⟩) 1 1) (hH:w0.heap.size = H)
 (hown:OTq B w0 v vs) (hB:B <= w0.heap.size) (hlen:vs.length <= 1000000000000)
 (h:∀ g cap w',OTq B w' (.slice (some ⟨g,0,none⟩) (vs.length + 1) cap) (vs ++ [tyV k sa sl sc]) -> Gr w0 v w' (.slice (some ⟨g,0,none⟩) (vs.length + 1) cap) -> wpList Tryz.prog ops Q rest (a.put o.dst (.slice (some ⟨g,0,none⟩) (vs.length + 1) cap)) w') :
 wpList Tryz.prog ops Q (o :: rest) a (w0.alloc (.cells #[.int .i64 k,.slice sa sl sc] 24)):=by
 obtain ⟨i0,hi,hz0,hz1,hz2⟩:=info_parts info_ty
 subst hH
 refine wpList_append_lies _ hgd s x 22 ho B 24 i0 _ 2 32 Tryz.underlying22 hi hz0 hz1 hz2 rfl (by decide) v vs.length (flatT vs) hs (World.ownsRow.alloc hown _) ⟨w0.heap.size,0,none⟩ 1 1 [.int .i64 k,.slice sa sl sc] hx rfl ?_ ?_ (by decide) ?_ ?_ ?_ _ rfl ?_
 ·exact World.news_of_block (w:=w0.alloc _) (B:=w0.heap.size) (cs:=#[.int .i64 k,.slice sa sl sc]) (heap_alloc_new _ _)
 ·intro u hu;simp at hu;rcases hu with rfl | rfl <;> rfl
 ·unfold maxLen;omega
 ·omega
 ·simp;omega
 ·intro g cap w' h1 h2 h3 _
  refine h g cap w' ?_ ?_
  ·unfold OTq;rw [flatT_append,List.length_append];exact h1
  ·refine Gr.trans (Gr.alloc (Gr.refl w0 v) _) ⟨h2,?_⟩
   rcases h3 with h3 | h3
   ·exact .inl h3.symm
   ·exact .inr ⟨g,rfl,by omega⟩
theorem step_appT {ops:Array Oper} {o:Oper} {a:Act} {K:Act -> World -> Prop} {Q:Exit -> Act -> World -> Prop} {E:Prop} (B:Nat) (vs:List Value) (k:Int) (sa:Option Addr) (sl sc:Nat) (w0:World) (v:Value) (hgd:o.guard = none) (s x:Operand)
 (ho:o.op = .call { callee:=.builtin .append,args:=#[s,x],argTypes:=#[22,22] }) (hs:a.eval s = v) {H:Nat} (hx:a.eval x = .slice (some ⟨H,0,none⟩) 1 1) (hH:w0.heap.size = H)
 (hown:OTq B w0 v vs) (hB:B <= w0.heap.size) (hlen:vs.length <= 1000000000000)
 (h:∀ g cap w',OTq B w' (.slice (some ⟨g,0,none⟩) (vs.length + 1) cap) (vs ++ [tyV k sa sl sc]) -> Gr w0 v w' (.slice (some ⟨g,0,none⟩) (vs.length + 1) cap) -> K (a.put o.dst (.slice (some ⟨g,0,none⟩) (vs.length + 1) cap)) w') :
 if Region.wanted o (yielded ops a.tmps) = true then Oper.wp Tryz.prog o a (w0.alloc (.cells #[.int .i64 k,.slice sa sl sc] 24)) K Q else E:=by
 have hw:Region.wanted o (yielded ops a.tmps) = true:=by simp [Region.wanted,hgd]
 rw [if_pos hw]
 obtain ⟨i0,hi,hz0,hz1,hz2⟩:=info_parts info_ty
 subst hH
 refine wp_append_lies _ s x 22 ho B 24 i0 _ 2 32 Tryz.underlying22 hi hz0 hz1 hz2 rfl (by decide) v vs.length (flatT vs) hs (World.ownsRow.alloc hown _) ⟨w0.heap.size,0,none⟩ 1 1 [.int .i64 k,.slice sa sl sc] hx rfl ?_ ?_ (by decide) ?_ ?_ ?_ _ rfl ?_
 ·exact World.news_of_block (w:=w0.alloc _) (B:=w0.heap.size) (cs:=#[.int .i64 k,.slice sa sl sc]) (heap_alloc_new _ _)
 ·intro u hu;simp at hu;rcases hu with rfl | rfl <;> rfl
 ·unfold maxLen;omega
 ·omega
 ·simp;omega
 ·intro g cap w' h1 h2 h3 _
  refine h g cap w' ?_ ?_
  ·unfold OTq;rw [flatT_append,List.length_append];exact h1
  ·refine Gr.trans (Gr.alloc (Gr.refl w0 v) _) ⟨h2,?_⟩
   rcases h3 with h3 | h3
   ·exact .inl h3.symm
   ·exact .inr ⟨g,rfl,by omega⟩
structure ListOkT (H:Nat) (w:World) (v:Value) (ts:List Ty) (vs:List Value):Prop where
 own:OTq H w v vs
 len:vs.length = ts.length
 lies:∀ (i:Nat) (t:Ty) (u:Value),ts[i]? = some t -> vs[i]? = some u -> LiesT (fun b=>H <= b /\ some b ≠ v.ownBlock) w t u
theorem ListOkT.nil (H:Nat) (w:World):ListOkT H w (.slice none 0 0) [] []:=⟨World.ownsRow_nil _ _ _ _,rfl,fun i t u h=>by simp at h⟩
theorem ListOkT.keep {H:Nat} {w w':World} {v:Value} {ts:List Ty} {vs:List Value} {rb:Nat} (h:ListOkT H w v ts vs) (hg:w.grownBy w' (some rb)) (hrb:rb < H):ListOkT H w' v ts vs:=by
 refine ⟨World.ownsRow.kept h.own hg ?_,h.len,fun i t u ht hu=>(h.lies i t u ht hu).same ?_⟩
 ·cases hv:v.ownBlock with
  | none=>exact .inl rfl
  | some k=>right;have:=(World.ownsRow.lt h.own k hv).1;simp;omega
 ·intro b o hb hlt
  exact World.cell?_of_block (hg.block b hlt (by simp;have:=hb.1;omega))
theorem ListOkT.push {H:Nat} {w w':World} {v v' u:Value} {ts:List Ty} {vs:List Value} {t:Ty} {S:Nat} (h:ListOkT H w v ts vs) (hS:H <= S) (hvS:∀ k,v.ownBlock = some k -> k < S) (hL:LiesT (S <= ·) w t u) (hg:Gr w v w' v') (ho:OTq H w' v' (vs ++ [u])):ListOkT H w' v' (ts ++ [t]) (vs ++ [u]):=by
 have key:∀ t u,LiesT (fun b=>H <= b /\ some b ≠ v.ownBlock) w t u -> LiesT (fun b=>H <= b /\ some b ≠ v'.ownBlock) w' t u:=by
  intro t u hl
  have h1:=hl.okMono (ok':=fun b=>H <= b /\ some b ≠ v.ownBlock /\ some b ≠ v'.ownBlock) (fun b hb hk=>⟨hk.1,hk.2,by
   rcases hg.2 with e | ⟨g,e,hge⟩
   ·rw [e];exact hk.2
   ·rw [e];simp;omega⟩)
  refine (h1.same (w':=w') ?_).okMono (fun b _ hb=>⟨hb.1,hb.2.2⟩)
  intro b o hb hlt
  exact World.cell?_of_block (hg.block hlt hb.2.1)
 refine ⟨ho,by simp [h.len],fun i t' u' ht hu=>key t' u' ?_⟩
 by_cases hi:i < ts.length
 ·rw [List.getElem?_append_left hi] at ht
  rw [List.getElem?_append_left (by rw [h.len];exact hi)] at hu
  exact h.lies i t' u' ht hu
 ·have hi':i = ts.length:=by
   have:=(List.getElem?_eq_some_iff.1 ht).1
   simp at this;omega
  subst hi'
  rw [List.getElem?_append_right (Nat.le_refl _)] at ht
  rw [← h.len,List.getElem?_append_right (Nat.le_refl _)] at hu
  simp at ht hu
  subst ht;subst hu
  exact hL.okMono (fun b _ hb=>⟨by have : S <= b:=hb;omega,fun e=>by have h2:=hvS b e.symm;have : S <= b:=hb;omega⟩)
theorem flatT_get:∀ (vs:List Value),(∀ u ∈ vs,(tyCells u).length = 2) -> ∀ (i j:Nat) (u:Value),vs[i]? = some u -> j < 2 -> (flatT vs)[i * 2 + j]? = (tyCells u)[j]?
 | [],_,i,j,u,h,_=>by simp at h
 | x :: vs,hx,0,j,u,h,hj=>by
  simp at h;subst h
  have:=hx x (by simp)
  simp only [flatT,List.flatMap_cons]
  rw [List.getElem?_append_left (by omega)];simp
 | x :: vs,hx,i + 1,j,u,h,hj=>by
  have h2x:=hx x (by simp)
  have:=flatT_get vs (fun u hu=>hx u (by simp [hu])) i j u (by simpa using h) hj
  simp only [flatT,List.flatMap_cons] at this ⊢
  rw [List.getElem?_append_right (by omega),h2x,show (i + 1) * 2 + j - 2 = i * 2 + j from by omega]
  exact this
theorem LiesT.tyV {ok:Nat -> Prop} {w:World} {t:Ty} {u:Value} (h:LiesT ok w t u):∃ k a l c,u = tyV k a l c:=by cases h;exact ⟨_,_,_,_,rfl⟩
theorem ListOkT.done {H:Nat} {w:World} {v:Value} {ts:List Ty} {vs:List Value} (h:ListOkT H w v ts vs) :
 ∃ (a:Option Addr) (c:Nat) (V:Nat -> Value),v = .slice a ts.length c /\ (∀ i,i < ts.length -> TyAt (H <= ·) w a i (V i)) /\ (∀ i (hi:i < ts.length),LiesT (H <= ·) w ts[i] (V i)):=by
 have hl:=h.len
 have each:∀ i (hi:i < ts.length),∃ u,vs[i]? = some u /\ LiesT (H <= ·) w ts[i] u:=by
  intro i hi
  have hv:i < vs.length:=by omega
  exact ⟨vs[i],List.getElem?_eq_getElem hv,(h.lies i ts[i] vs[i] (List.getElem?_eq_getElem hi) (List.getElem?_eq_getElem hv)).okMono (fun b _ hb=>hb.1)⟩
 have h2x:∀ u ∈ vs,(tyCells u).length = 2:=by
  intro u hu
  obtain ⟨i,hi,rfl⟩:=List.getElem_of_mem hu
  obtain ⟨u,e,hL⟩:=each i (by omega)
  rw [List.getElem?_eq_getElem hi] at e
  simp at e
  obtain ⟨k,a,l,c,e2⟩:=hL.tyV
  rw [e,e2];rfl
 have ho:=h.own
 unfold OTq at ho
 rcases ho.2 with ⟨rfl,h0⟩ | ⟨g,cap,cur,rfl,hbg,hg,hnc,hcm,hcs,htake⟩
 ·have h00:ts.length = 0:=by omega
  exact ⟨none,0,fun _=>.int .i64 0,by rw [h00],fun i hi=>by omega,fun i hi=>by omega⟩
 ·refine ⟨some ⟨g,0,none⟩,cap,fun i=>(vs[i]?).getD (.int .i64 0),by rw [hl],fun i hi=>?_,fun i hi=>?_⟩
  ·obtain ⟨u,e,hL⟩:=each i hi
   obtain ⟨k,a,l,c,e2⟩:=hL.tyV
   have hcell:∀ j x,j < 2 -> (tyCells u)[j]? = some x -> w.cell? ⟨g,i * 2 + j,none⟩ = some x:=by
    intro j x hj hx
    have:=World.ownsRow.cells ho (g:=g) rfl (i * 2 + j) x (by rw [flatT_get vs h2x i j u e hj];exact hx)
    have hadd:(⟨g,0,none⟩:Addr).add (i * 2 + j) = ⟨g,i * 2 + j,none⟩:=by unfold Addr.add;split <;> simp_all
    rwa [hadd] at this
   rw [e2] at hcell
   refine ⟨g,0,rfl,hbg,k,a,l,c,by show (vs[i]?).getD _ = _;rw [e];exact e2,?_,?_⟩
   ·have:=hcell 0 _ (by omega) rfl;simpa using this
   ·have:=hcell 1 _ (by omega) rfl;simpa using this
  ·obtain ⟨u,e,hL⟩:=each i hi
   show LiesT _ _ _ ((vs[i]?).getD _)
   rw [e];exact hL
mutual
def sameT:Ty -> Ty -> Bool
 | .nd t xs,.nd u ys=>decide (t = u) && sameTs xs ys
def sameTs:List Ty -> List Ty -> Bool
 | [],[]=>true
 | a :: xs,b :: ys=>sameT a b && sameTs xs ys
 | [],_ :: _=>false
 | _ :: _,[]=>false
end
theorem sameTs_len:∀ {a b:List Ty},sameTs a b = true -> a.length = b.length
 | [],[],_=>rfl
 | _ :: _,[],h=>by simp [sameTs] at h
 | [],_ :: _,h=>by simp [sameTs] at h
 | a :: xs,b :: ys,h=>by
  simp only [sameTs,Bool.and_eq_true] at h
  simp [sameTs_len h.2]
def argsOf (p:Ty × Ty):List Ty × List Ty:=(p.1.args,p.2.args)
def sameRow (r:List Ty × List Ty):Bool:=sameTs r.1 r.2
theorem sameT_split (x y:Ty):sameT x y = (decide (x.t = y.t) && sameRow (x.args,y.args)):=by
 obtain ⟨t,xs⟩:=x
 obtain ⟨u,ys⟩:=y
 rw [sameT];rfl
theorem sameTs_zip:∀ (x y:List Ty),x.length = y.length -> (∀ p ∈ x.zip y,p.1.t = p.2.t) -> sameTs x y = ((x.zip y).map argsOf).all sameRow
 | [],[],_,_=>by simp [sameTs]
 | _ :: _,[],h,_=>by simp at h
 | [],_ :: _,h,_=>by simp at h
 | a :: xs,b :: ys,h,hp=>by
  have ih:=sameTs_zip xs ys (by simpa using h) (fun p hm=>hp p (by simp [hm]))
  have h1:=hp (a,b) (by simp)
  rw [sameTs,ih,sameT_split]
  simp [argsOf,show a.t = b.t from h1]
theorem sameTs_no (x y:List Ty) (i:Nat) (h1:i < x.length) (h2:i < y.length) (hne:(x[i]).t ≠ (y[i]).t):sameTs x y = false:=by
 induction x generalizing y i with
 | nil=>simp at h1
 | cons a xs ih =>
  cases y with
  | nil=>simp [sameTs]
  | cons b ys =>
   cases i with
   | zero =>
    have : a.t ≠ b.t:=hne
    simp [sameTs,sameT_split,this]
   | succ i =>
    have:=ih ys i (by simpa using h1) (by simpa using h2) (by simpa using hne)
    simp [sameTs,this]
def leftOf2 (rows:List (List Ty × List Ty)):Nat:=(rows.map fun r=>tysizes r.1 + 1).sum
theorem leftOf2_append (a b:List (List Ty × List Ty)):leftOf2 (a ++ b) = leftOf2 a + leftOf2 b:=by simp [leftOf2]
theorem leftOf2_single (r:List Ty × List Ty):leftOf2 [r] = tysizes r.1 + 1:=by simp [leftOf2]
theorem len_left2 (rows:List (List Ty × List Ty)):rows.length <= leftOf2 rows:=by
 induction rows with
 | nil=>simp
 | cons r l ih=>simp only [leftOf2,List.map_cons,List.sum_cons,List.length_cons] at ih ⊢;omega
theorem zip_left:∀ (x y:List Ty),leftOf2 ((x.zip y).map argsOf) <= tysizes x
 | [],_=>by simp [leftOf2]
 | _ :: _,[]=>by simp [leftOf2]
 | a :: xs,b :: ys=>by
  have ih:=zip_left xs ys
  have h:leftOf2 (((a :: xs).zip (b :: ys)).map argsOf) = (tysizes a.args + 1) + leftOf2 ((xs.zip ys).map argsOf):=by simp [leftOf2,argsOf]
  have h2:a.size = tysizes a.args + 1:=by obtain ⟨t,l⟩:=a;simp [Ty.size,Ty.args]
  rw [h,tysizes];omega
theorem equal_any (k:Nat) (cap:Array Value) (n:Nat) (a a2:Option Addr) (c c2:Nat) (V V2:Nat -> Value) (b:Nat -> Bool) (I:Nat -> World -> Prop) (J:World -> Prop) (hn:n <= maxLen) (eg:∀ args w,(callFunc k args).run Tryz.prog w = .ok (.enter k args) w)
 (hrow:∀ i w,i < n -> I i w -> TyAt (fun _=>True) w a i (V i)) (hrow2:∀ i w,i < n -> I i w -> TyAt (fun _=>True) w a2 i (V2 i)) (hall:∀ i w o,I i w -> I i (w.alloc o))
 (hcall:∀ i w,i < n -> I i w -> Calls Tryz.prog k (#[V i,V2 i] ++ cap) w fun e w'=>e = .returned (.bool (b i)) /\ (b i = true -> I (i + 1) w') /\ (b i = false -> J w')) (w:World) (h0:I 0 w) :
 Calls Tryz.prog 22 #[.slice a n c,.slice a2 n c2,.func (.func k) #[] cap] w fun e w'=>(e = .returned (.bool true) /\ I n w' /\ ∀ i,i < n -> b i = true) \/ (∃ i,i < n /\ b i = false /\ e = .returned (.bool false) /\ J w'):=by
 unfold maxLen at hn
 have HR:=jh hrow
 have HR2:=jh hrow2
 have HA:=jh hall
 have HC:=jh hcall
 have H0:=jh h0
 clear hrow hrow2 hall hcall h0
 go_enter Tryz.func22,Tryz.ntmps22
 go_wp2_with fail
 go_loopw [17] (fun i wr=>∃ j:Nat,j <= n /\ i = .int .i64 j /\ I j wr /\ ∀ m,m < j -> b m = true) (fun i _=>n - (intOf i).toNat)
 case atStart=>exact ⟨0,Nat.zero_le _,rfl,H0.out,fun m hm=>by omega⟩
 case round =>
  obtain ⟨j,hj,rfl,hI,hb⟩:=hrel
  have HB:=jh hb
  clear hb
  by_cases hlt:j < n
  ·obtain ⟨bb,o,t,a',l,c',rfl,_,hv,d0,d1⟩:=(HR.out j wr hlt hI).cells
   have hI1:=HA.out j wr (.cells #[.int .i64 t,.slice a' l c'] 24) hI
   obtain ⟨bb2,o2,t2,a2',l2,c2',rfl,_,hv2,g0,g1⟩:=(HR2.out j _ hlt hI1).cells
   have hI2:=HA.out j _ (.cells #[.int .i64 t2,.slice a2' l2 c2'] 24) hI1
   have hC:=HC.out j _ hlt hI2
   rw [hv,hv2] at hC
   unfold tyV at hC
   have HK:=jh hC
   clear hC hI1 hI2 hI hv hv2 HR HR2 HA HC H0
   go_wp2_with fail
   refine HK.out.mono ?_;rintro e w' ⟨rfl,h1,h2⟩
   cases hbj:b j with
   | true =>
    have HI:=jh (h1 hbj)
    have HBJ:=jh hbj
    clear h1 h2 hbj
    go_wp2_with fail
    go_roundw
    case rel=>exact ⟨j + 1,by omega,by go_num,HI.out,fun m hm=>by
     by_cases e:m = j
     ·subst e;exact HBJ.out
     ·exact HB.out m (by omega)⟩
    case measure=>simp [intOf];omega
   | false =>
    have HJ:=jh (h2 hbj)
    have HBJ:=jh hbj
    clear h1 h2 hbj
    go_wp2_with fail
    go_ret
    exact .inr ⟨j,hlt,HBJ.out,rfl,HJ.out⟩
  ·have hje:j = n:=by omega
   have HI:=jh hI
   have HJ:=jh hje
   clear hI hje
   go_wp2_with fail
   go_ret
   have hI:=HI.out
   have hb:=HB.out
   rw [HJ.out] at hI hb
   exact .inl ⟨rfl,hI,hb⟩
theorem equal_len (f:Value) (n n2:Nat) (a a2:Option Addr) (c c2:Nat) (hne:n ≠ n2) (h1:n <= maxLen) (h2:n2 <= maxLen) (w:World) :
 Calls Tryz.prog 22 #[.slice a n c,.slice a2 n2 c2,f] w fun e w'=>e = .returned (.bool false) /\ w' = w:=by
 have h:((n:Int) == (n2:Int)) = false:=by simp;omega
 unfold maxLen at h1 h2
 go_enter Tryz.func22,Tryz.ntmps22
 go_wp2_with fail
 go_ret
 exact ⟨rfl,rfl⟩
theorem info_cp:(Tryz.prog.info? 53).map (fun i=>(i.zero,i.size,i.bytes)) = some (some (.agg #[.slice none 0 0,.slice none 0 0]),2,48):=by kernel_rfl
def cpV (a1:Option Addr) (l1 c1:Nat) (a2:Option Addr) (l2 c2:Nat):Value:=.agg #[.slice a1 l1 c1,.slice a2 l2 c2]
def OwnsC (B:Nat) (w:World) (v:Value) (vs:List Value):Prop:=w.ownsRow B 53 2 v vs.length (flatT vs)
theorem appC {ops:Array Oper} {rest:List Oper} {o:Oper} {a:Act} {Q:Exit -> Act -> World -> Prop} (B:Nat) (vs:List Value) (a1:Option Addr) (l1 c1:Nat) (a2:Option Addr) (l2 c2:Nat) (w0:World) (v:Value) (hgd:o.guard = none) (s x:Operand)
 (ho:o.op = .call { callee:=.builtin .append,args:=#[s,x],argTypes:=#[54,54] }) (hs:a.eval s = v) {H:Nat} (hx:a.eval x = .slice (some ⟨H,0,none⟩) 1 1) (hH:w0.heap.size = H)
 (hown:OwnsC B w0 v vs) (hB:B <= w0.heap.size) (hlen:vs.length <= 100000000)
 (h:∀ g cap w',OwnsC B w' (.slice (some ⟨g,0,none⟩) (vs.length + 1) cap) (vs ++ [cpV a1 l1 c1 a2 l2 c2]) -> Gr w0 v w' (.slice (some ⟨g,0,none⟩) (vs.length + 1) cap) -> wpList Tryz.prog ops Q rest (a.put o.dst (.slice (some ⟨g,0,none⟩) (vs.length + 1) cap)) w') :
 wpList Tryz.prog ops Q (o :: rest) a (w0.alloc (.cells #[.slice a1 l1 c1,.slice a2 l2 c2] 53)):=by
 obtain ⟨i0,hi,hz0,hz1,hz2⟩:=info_parts info_cp
 subst hH
 refine wpList_append_lies _ hgd s x 54 ho B 53 i0 _ 2 48 Tryz.underlying54 hi hz0 hz1 hz2 rfl (by decide) v vs.length (flatT vs) hs (World.ownsRow.alloc hown _) ⟨w0.heap.size,0,none⟩ 1 1 [.slice a1 l1 c1,.slice a2 l2 c2] hx rfl ?_ ?_ (by decide) ?_ ?_ ?_ _ rfl ?_
 ·exact World.news_of_block (w:=w0.alloc _) (B:=w0.heap.size) (cs:=#[.slice a1 l1 c1,.slice a2 l2 c2]) (heap_alloc_new _ _)
 ·intro u hu;simp at hu;rcases hu with rfl | rfl <;> rfl
 ·unfold maxLen;omega
 ·omega
 ·simp;omega
 ·intro g cap w' h1 h2 h3 _
  refine h g cap w' ?_ ?_
  ·unfold OwnsC;rw [flatT_append,List.length_append];exact h1
  ·refine Gr.trans (Gr.alloc (Gr.refl w0 v) _) ⟨h2,?_⟩
   rcases h3 with h3 | h3
   ·exact .inl h3.symm
   ·exact .inr ⟨g,rfl,by omega⟩
structure SInv (w0 w:World) (tb r1 r2:Nat) (q1 q2:Array Value) (v:Value) (vs:List Value):Prop where
 grown:w0.grownBy w none
 tlt:w0.heap.size <= tb
 tod:w.heap[tb]? = some (.cells #[v] 54 (0,0))
 row1:w.heap[r1]? = some (.cells q1 24 (0,0))
 row2:w.heap[r2]? = some (.cells q2 24 (0,0))
 own:OwnsC w0.heap.size w v vs
theorem SInv.alloc {w0 w:World} {tb r1 r2:Nat} {q1 q2:Array Value} {v:Value} {vs:List Value} (h:SInv w0 w tb r1 r2 q1 q2 v vs) (o:Obj):SInv w0 (w.alloc o) tb r1 r2 q1 q2 v vs :=
 ⟨gTq h.grown (gBq _),h.tlt,heap_keep h.tod,heap_keep h.row1,heap_keep h.row2,World.ownsRow.alloc h.own _⟩
theorem SInv.push {w0 w w':World} {tb r1 r2:Nat} {q1 q2:Array Value} {v v' u:Value} {vs:List Value} (h:SInv w0 w tb r1 r2 q1 q2 v vs) (hg:Gr w v w' v') (ho:OwnsC w0.heap.size w' v' (vs ++ [u])):SInv w0 (w'.setCell ⟨tb,0,none⟩ v') tb r1 r2 q1 q2 v' (vs ++ [u]):=by
 have k1:w'.heap[r1]? = _:=(hg.block (lt_of_block h.row1) (own_ne_type h.own h.row1 (by decide))).trans h.row1
 have k2:w'.heap[r2]? = _:=(hg.block (lt_of_block h.row2) (own_ne_type h.own h.row2 (by decide))).trans h.row2
 have k3:w'.heap[tb]? = _:=(hg.block (lt_of_block h.tod) (own_ne_type h.own h.tod (by decide))).trans h.tod
 refine ⟨grow_setNew (grow_own h.grown h.own (Nat.le_refl _) hg.1) h.tlt _ _ _,h.tlt,one_setCell k3,?_,?_,ownsRow_setCell_other ho (fun e=>own_ne_type ho k3 (by decide) e.symm) _⟩
 ·rw [Below.heap_setCell _ _ _ _ (ne_of_type k1 k3 (by decide))];exact k1
 ·rw [Below.heap_setCell _ _ _ _ (ne_of_type k2 k3 (by decide))];exact k2
theorem own_cut2 {w:World} {B:Nat} {e:TypeId} {g cap n:Nat} {vs:List Value} {u:Value} (h:w.ownsRow B e 2 (.slice (some ⟨g,0,none⟩) (n + 1) cap) (n + 1) (flatT (vs ++ [u]))) (hu:(tyCells u).length = 2):w.ownsRow B e 2 (.slice (some ⟨g,0,none⟩) n cap) n (flatT vs):=by
 have e1:flatT [u] = tyCells u:=by simp [flatT]
 rw [flatT_append,e1] at h
 have hl:=h.1
 rw [List.length_append,hu] at hl
 refine ⟨by omega,?_⟩
 rcases h.2 with ⟨hx,_⟩ | ⟨g',cap',cur,hx,h1,h2,h3,h4,h5,h6⟩
 ·simp at hx
 ·simp only [Value.slice.injEq,Option.some.injEq,Addr.mk.injEq,and_true,true_and] at hx
  obtain ⟨rfl,rfl⟩:=hx
  refine .inr ⟨g,cap,cur,rfl,h1,h2,by omega,h4,h5,?_⟩
  have h7:=congrArg (List.take (n * 2)) h6
  rw [List.take_take,show min (n * 2) ((n + 1) * 2) = n * 2 from by omega] at h7
  rw [h7,List.take_append_of_le_length (by omega),List.take_of_length_le (by omega)]
theorem own_last2 {w:World} {B:Nat} {e:TypeId} {g cap n:Nat} {vs:List Value} {x y:Value} (h:w.ownsRow B e 2 (.slice (some ⟨g,0,none⟩) (n + 1) cap) (n + 1) (flatT (vs ++ [.agg #[x,y]]))):w.cell? ⟨g,n * 2,none⟩ = some x /\ w.cell? ⟨g,n * 2 + 1,none⟩ = some y:=by
 have e1:flatT [.agg #[x,y]] = [x,y]:=by simp [flatT,tyCells]
 rw [flatT_append,e1] at h
 have hl:=h.1
 rw [List.length_append] at hl
 simp only [List.length_cons,List.length_nil] at hl
 have hl2:(flatT vs).length = n * 2:=by omega
 have k0:=World.ownsRow.cells h (g:=g) rfl (n * 2) x (by rw [List.getElem?_append_right (by omega),hl2];simp)
 have k1:=World.ownsRow.cells h (g:=g) rfl (n * 2 + 1) y (by rw [List.getElem?_append_right (by omega),hl2];simp)
 rw [add_none,Nat.zero_add] at k0 k1
 exact ⟨k0,k1⟩
theorem SInv.pop {w0 w:World} {tb r1 r2 g n cap:Nat} {q1 q2:Array Value} {u:Value} {vs:List Value} (h:SInv w0 w tb r1 r2 q1 q2 (.slice (some ⟨g,0,none⟩) (n + 1) cap) (vs ++ [u])) (hn:vs.length = n) (hu:(tyCells u).length = 2):SInv w0 (w.setCell ⟨tb,0,none⟩ (.slice (some ⟨g,0,none⟩) n cap)) tb r1 r2 q1 q2 (.slice (some ⟨g,0,none⟩) n cap) vs:=by
 have ho:=h.own
 unfold OwnsC at ho
 rw [List.length_append,hn] at ho
 have h2:=own_cut2 ho hu
 refine ⟨grow_setNew h.grown h.tlt _ _ _,h.tlt,one_setCell h.tod,?_,?_,?_⟩
 ·rw [Below.heap_setCell _ _ _ _ (ne_of_type h.row1 h.tod (by decide))];exact h.row1
 ·rw [Below.heap_setCell _ _ _ _ (ne_of_type h.row2 h.tod (by decide))];exact h.row2
 ·unfold OwnsC
  rw [hn]
  exact ownsRow_setCell_other h2 (fun e=>own_ne_type h2 h.tod (by decide) e.symm) _
theorem SInv.same {w0 w w':World} {tb r1 r2:Nat} {q1 q2:Array Value} {v v':Value} {vs vs':List Value} (h:SInv w0 w tb r1 r2 q1 q2 v vs) (h':SInv w0 w' tb r1 r2 q1 q2 v' vs'):Same (fun b=>b < w0.heap.size \/ b = r1 \/ b = r2) w w':=by
 intro b o hb _
 refine World.cell?_of_block ?_
 rcases hb with hb | rfl | rfl
 ·exact (h'.grown.block b hb (by simp)).trans (h.grown.block b hb (by simp)).symm
 ·exact h'.row1.trans h.row1.symm
 ·exact h'.row2.trans h.row2.symm
def RowV2 (ok:Nat -> Prop) (w:World) (r:List Ty × List Ty) (u:Value):Prop:=∃ a1 c1 V1 a2 c2 V2,u = cpV a1 r.1.length c1 a2 r.2.length c2 /\ RowT ok w r.1 a1 V1 /\ RowT ok w r.2 a2 V2
def RowsOk2 (ok:Nat -> Prop) (w:World) (rows:List (List Ty × List Ty)) (vs:List Value):Prop:=rows.length = vs.length /\ ∀ (i:Nat) (r:List Ty × List Ty) (u:Value),rows[i]? = some r -> vs[i]? = some u -> RowV2 ok w r u
theorem RowsOk2.snoc {ok:Nat -> Prop} {w:World} {rows:List (List Ty × List Ty)} {vs:List Value} {r:List Ty × List Ty} {u:Value} (h:RowsOk2 ok w rows vs) (hr:RowV2 ok w r u):RowsOk2 ok w (rows ++ [r]) (vs ++ [u]):=by
 refine ⟨by simp [h.1],fun i r' u' h1 h2=>?_⟩
 by_cases hi:i < rows.length
 ·rw [List.getElem?_append_left hi] at h1
  rw [List.getElem?_append_left (by rw [← h.1];exact hi)] at h2
  exact h.2 i r' u' h1 h2
 ·have hi':i = rows.length:=by
   have:=(List.getElem?_eq_some_iff.1 h1).1
   simp at this;omega
  subst hi'
  rw [List.getElem?_append_right (Nat.le_refl _)] at h1
  rw [h.1,List.getElem?_append_right (Nat.le_refl _)] at h2
  simp at h1 h2
  subst h1;subst h2
  exact hr
theorem RowsOk2.unsnoc {ok:Nat -> Prop} {w:World} {rows:List (List Ty × List Ty)} {vs:List Value} {r:List Ty × List Ty} {u:Value} (h:RowsOk2 ok w (rows ++ [r]) (vs ++ [u])):RowsOk2 ok w rows vs /\ RowV2 ok w r u:=by
 have hl:rows.length = vs.length:=by have:=h.1;simp at this;exact this
 refine ⟨⟨hl,fun i r' u' h1 h2=>?_⟩,?_⟩
 ·have k1:=(List.getElem?_eq_some_iff.1 h1).1
  have k2:=(List.getElem?_eq_some_iff.1 h2).1
  exact h.2 i r' u' (by rw [List.getElem?_append_left k1];exact h1) (by rw [List.getElem?_append_left k2];exact h2)
 ·exact h.2 rows.length r u (by rw [List.getElem?_append_right (Nat.le_refl _)];simp) (by rw [hl,List.getElem?_append_right (Nat.le_refl _)];simp)
theorem RowsOk2.last {ok:Nat -> Prop} {w:World} {rows:List (List Ty × List Ty)} {vs:List Value} (h:RowsOk2 ok w rows vs) (hn:0 < vs.length):∃ rows' r vs' u,rows = rows' ++ [r] /\ vs = vs' ++ [u] /\ RowsOk2 ok w rows' vs' /\ RowV2 ok w r u:=by
 have h1:rows ≠ []:=by intro e;rw [e] at h;have:=h.1;simp at this;omega
 have h2:vs ≠ []:=by intro e;rw [e] at hn;simp at hn
 have e1:=(List.dropLast_concat_getLast h1).symm
 have e2:=(List.dropLast_concat_getLast h2).symm
 rw [e1,e2] at h
 obtain ⟨a,b⟩:=h.unsnoc
 exact ⟨_,_,_,_,e1,e2,a,b⟩
theorem look2_any {w0 w:World} {tb r1 r2:Nat} {q1 q2:Array Value} {v:Value} {vs:List Value} {t:Int} {a:Option Addr} {l c:Nat} {t2:Int} {a2:Option Addr} {l2 c2:Nat} (hI:SInv w0 w tb r1 r2 q1 q2 v vs) (hlen:vs.length <= 100000000) :
 Calls Tryz.prog 21 #[tyV t a l c,tyV t2 a2 l2 c2,.pointer (some ⟨tb,0,none⟩)] w fun e w'=>e = .returned (.bool (decide (t = t2))) /\ ∃ v',SInv w0 w' tb r1 r2 q1 q2 v' (vs ++ [cpV a l c a2 l2 c2]):=by
 have hI1:=(hI.alloc (.cells #[.int .i64 t,.slice a l c] 24)).alloc (.cells #[.int .i64 t2,.slice a2 l2 c2] 24)
 have HI1:=jh hI1
 have c2':=cell_of_one hI.tod
 have l2':=lt_of_block hI.tod
 have l3':tb < w.heap.size + 1:=by omega
 have hbx1:((w.alloc (.cells #[.int .i64 t,.slice a l c] 24)).alloc (.cells #[.int .i64 t2,.slice a2 l2 c2] 24)).heap[w.heap.size]? = some (.cells #[.int .i64 t,.slice a l c] 24 (0,0)):=heap_keep (heap_alloc_new _ _)
 have hbx2:((w.alloc (.cells #[.int .i64 t,.slice a l c] 24)).alloc (.cells #[.int .i64 t2,.slice a2 l2 c2] 24)).heap[w.heap.size + 1]? = some (.cells #[.int .i64 t2,.slice a2 l2 c2] 24 (0,0)):=by
  have:=heap_alloc_new (w.alloc (.cells #[.int .i64 t,.slice a l c] 24)) (.cells #[.int .i64 t2,.slice a2 l2 c2] 24)
  rw [World.size_alloc] at this
  exact this
 have HBX1:=jh hbx1
 have HBX2:=jh hbx2
 have HB:=jh hI1.grown.size
 clear hI hI1 hbx1 hbx2
 unfold tyV
 go_enter Tryz.func21,Tryz.ntmps21
 go_wp2_with (at_builtin;refine appC w0.heap.size vs a l c a2 l2 c2 ((w.alloc (.cells #[.int .i64 t,.slice a l c] 24)).alloc (.cells #[.int .i64 t2,.slice a2 l2 c2] 24)) v rfl (.tmp 6) (.tmp 12) rfl rfl rfl (by simp) HI1.out.own HB.out hlen ?_;intro g cap w2 ho2 hg2;have HO2:=jh ho2;have HG2:=jh hg2;clear ho2 hg2;have k3:=(HG2.out.block (lt_of_block HI1.out.tod) (own_ne_type HI1.out.own HI1.out.tod (by decide))).trans HI1.out.tod;have m3:=free_of_one k3;have m4:=cell_of_one k3;have HI3:=jh (HI1.out.push HG2.out HO2.out);have kx1:=(HG2.out.block (lt_of_block HBX1.out) (own_ne_type HI1.out.own HBX1.out (by decide))).trans HBX1.out;have kx2:=(HG2.out.block (lt_of_block HBX2.out) (own_ne_type HI1.out.own HBX2.out (by decide))).trans HBX2.out;have m5:=c0q ((Below.heap_setCell _ ⟨tb,0,none⟩ (.slice (some ⟨g,0,none⟩) (vs.length + 1) cap) _ (ne_of_type kx1 k3 (by decide))).trans kx1);have m6:=c0q ((Below.heap_setCell _ ⟨tb,0,none⟩ (.slice (some ⟨g,0,none⟩) (vs.length + 1) cap) _ (ne_of_type kx2 k3 (by decide))).trans kx2);clear k3 kx1 kx2)
 go_ret
 exact ⟨rfl,_,HI3.out⟩
theorem ent_same1:∀ args w,(callFunc 21 args).run Tryz.prog w = .ok (.enter 21 args) w:=fun args w=>by simp [go_sem]
def sw (w:World) (t:Int) (a:Option Addr) (l c:Nat) (t2:Int) (a2:Option Addr) (l2 c2:Nat):World :=
 (((((w.alloc (.cells #[.int .i64 t,.slice a l c] 24)).alloc (.cells #[.int .i64 t2,.slice a2 l2 c2] 24)).alloc (.cells #[.int .i64 t,.slice a l c] 24)).alloc (.cells #[.int .i64 t2,.slice a2 l2 c2] 24)).alloc
   (.cells #[.slice (some ⟨w.heap.size + 1 + 1,0,none⟩) 1 1,.slice (some ⟨w.heap.size + 1 + 1 + 1,0,none⟩) 1 1] 53)).alloc (.cells #[.slice (some ⟨w.heap.size + 1 + 1 + 1 + 1,0,none⟩) 1 1] 54)
theorem sw_inv (w:World) (t:Int) (a:Option Addr) (l c:Nat) (t2:Int) (a2:Option Addr) (l2 c2:Nat):SInv w (sw w t a l c t2 a2 l2 c2) (w.heap.size + 1 + 1 + 1 + 1 + 1) (w.heap.size + 1 + 1) (w.heap.size + 1 + 1 + 1) #[.int .i64 t,.slice a l c] #[.int .i64 t2,.slice a2 l2 c2]
 (.slice (some ⟨w.heap.size + 1 + 1 + 1 + 1,0,none⟩) 1 1) [cpV (some ⟨w.heap.size + 1 + 1,0,none⟩) 1 1 (some ⟨w.heap.size + 1 + 1 + 1,0,none⟩) 1 1]:=by
 have e2:=heap_alloc_new ((w.alloc (.cells #[.int .i64 t,.slice a l c] 24)).alloc (.cells #[.int .i64 t2,.slice a2 l2 c2] 24)) (.cells #[.int .i64 t,.slice a l c] 24)
 have e3:=heap_alloc_new (((w.alloc (.cells #[.int .i64 t,.slice a l c] 24)).alloc (.cells #[.int .i64 t2,.slice a2 l2 c2] 24)).alloc (.cells #[.int .i64 t,.slice a l c] 24)) (.cells #[.int .i64 t2,.slice a2 l2 c2] 24)
 have e4:=heap_alloc_new ((((w.alloc (.cells #[.int .i64 t,.slice a l c] 24)).alloc (.cells #[.int .i64 t2,.slice a2 l2 c2] 24)).alloc (.cells #[.int .i64 t,.slice a l c] 24)).alloc (.cells #[.int .i64 t2,.slice a2 l2 c2] 24))
  (.cells #[.slice (some ⟨w.heap.size + 1 + 1,0,none⟩) 1 1,.slice (some ⟨w.heap.size + 1 + 1 + 1,0,none⟩) 1 1] 53)
 have e5:=heap_alloc_new (((((w.alloc (.cells #[.int .i64 t,.slice a l c] 24)).alloc (.cells #[.int .i64 t2,.slice a2 l2 c2] 24)).alloc (.cells #[.int .i64 t,.slice a l c] 24)).alloc (.cells #[.int .i64 t2,.slice a2 l2 c2] 24)).alloc
  (.cells #[.slice (some ⟨w.heap.size + 1 + 1,0,none⟩) 1 1,.slice (some ⟨w.heap.size + 1 + 1 + 1,0,none⟩) 1 1] 53)) (.cells #[.slice (some ⟨w.heap.size + 1 + 1 + 1 + 1,0,none⟩) 1 1] 54)
 simp only [World.size_alloc] at e2 e3 e4 e5
 refine ⟨gTq (gBq _) (gTq (gBq _) (gTq (gBq _) (gTq (gBq _) (gTq (gBq _) (gBq _))))),by omega,e5,?_,?_,?_⟩
 ·exact heap_keep (heap_keep (heap_keep e2))
 ·exact heap_keep (heap_keep e3)
 ·exact ⟨rfl,.inr ⟨w.heap.size + 1 + 1 + 1 + 1,1,#[.slice (some ⟨w.heap.size + 1 + 1,0,none⟩) 1 1,.slice (some ⟨w.heap.size + 1 + 1 + 1,0,none⟩) 1 1],rfl,by omega,heap_keep e4,by simp,by simp [maxLen],rfl,rfl⟩⟩
def SRel (w0 W1:World) (q1 q2:Array Value) (T U:Ty) (n:Nat) (wr:World):Prop :=
 ∃ (v:Value) (vs:List Value) (rows:List (List Ty × List Ty)),SInv w0 wr (w0.heap.size + 1 + 1 + 1 + 1 + 1) (w0.heap.size + 1 + 1) (w0.heap.size + 1 + 1 + 1) q1 q2 v vs /\
  RowsOk2 (fun b=>b < w0.heap.size \/ b = w0.heap.size + 1 + 1 \/ b = w0.heap.size + 1 + 1 + 1) W1 rows vs /\ leftOf2 rows = n /\ n <= T.size + 1 /\ rows.all sameRow = sameT T U
def sameAt (x y:List Ty) (i:Nat):Bool:=match x[i]?,y[i]? with
 | some p,some q=>decide (p.t = q.t)
 | _,_=>true
theorem sameAt_eq {x y:List Ty} {i:Nat} (h1:i < x.length) (h2:i < y.length):sameAt x y i = decide ((x[i]).t = (y[i]).t):=by
 simp [sameAt,List.getElem?_eq_getElem h1,List.getElem?_eq_getElem h2]
theorem zip_take_succ (x y:List Ty) (i:Nat) (h1:i < x.length) (h2:i < y.length):((x.zip y).map argsOf).take (i + 1) = ((x.zip y).map argsOf).take i ++ [((x[i]).args,(y[i]).args)]:=by
 rw [List.take_succ_eq_append_getElem (by simp;omega)]
 simp [argsOf]
theorem zip_all {x y:List Ty} (hl:x.length = y.length) (h:∀ i,i < x.length -> sameAt x y i = true):∀ p ∈ x.zip y,p.1.t = p.2.t:=by
 intro p hp
 obtain ⟨i,hi,rfl⟩:=List.getElem_of_mem hp
 rw [List.length_zip] at hi
 have h1:i < x.length:=by omega
 have:=h i h1
 rw [sameAt_eq h1 (by omega)] at this
 simpa using this
theorem rowOne {w0 W:World} {t:Int} {a:Option Addr} {c r:Nat} {T:Ty} {ok:Nat -> Prop} (hok:ok r) (hr:W.heap[r]? = some (.cells #[.int .i64 T.t,.slice a T.args.length c] 24 (0,0))) (hL:LiesT ok W T (tyV T.t a T.args.length c)):RowT ok W [T] (some ⟨r,0,none⟩) (fun _=>tyV T.t a T.args.length c):=by
 refine ⟨by simp [maxLen],fun i hi=>?_,fun i hi=>?_⟩
 ·have : i = 0:=by simpa using hi
  subst this
  exact ⟨_,0,rfl,hok,T.t,a,T.args.length,c,rfl,c0q hr,c1q hr⟩
 ·have : i = 0:=by simpa using hi
  subst this
  exact hL
theorem same_any {w0:World} {T U:Ty} {v v2:Value} (hL:LiesT (· < w0.heap.size) w0 T v) (hL2:LiesT (· < w0.heap.size) w0 U v2) (hz:T.size <= 50000000) :
 Calls Tryz.prog 16 #[v,v2] w0 fun e w'=>e = .returned (.bool (sameT T U)) /\ w0.grownBy w' none:=by
 obtain ⟨a,c,V,rfl,it,hR⟩:=hL.inv
 obtain ⟨a2,c2,V2,rfl,it2,hR2⟩:=hL2.inv
 have hsw:=sw_inv w0 T.t a T.args.length c U.t a2 U.args.length c2
 obtain ⟨W1,hW1⟩:∃ W,W = sw w0 T.t a T.args.length c U.t a2 U.args.length c2:=⟨_,rfl⟩
 rw [← hW1] at hsw
 obtain ⟨μ,hμ⟩:=least_of (SRel w0 W1 #[.int .i64 T.t,.slice a T.args.length c] #[.int .i64 U.t,.slice a2 U.args.length c2] T U)
 have h0:SRel w0 W1 #[.int .i64 T.t,.slice a T.args.length c] #[.int .i64 U.t,.slice a2 U.args.length c2] T U (T.size + 1) W1:=by
  refine ⟨_,_,[([T],[U])],hsw,⟨rfl,?_⟩,by simp [leftOf2,tysizes],Nat.le_refl _,by simp [sameRow,sameTs]⟩
  intro i r u h1 h2
  cases i with
  | zero =>
   simp at h1 h2
   subst h1;subst h2
   have hs:Same (· < w0.heap.size) w0 W1:=fun b o hb _=>World.cell?_of_block (hsw.grown.block b hb (by simp))
   exact ⟨_,1,_,_,1,_,rfl,rowOne (w0:=w0) (t:=T.t) (.inr (.inl rfl)) hsw.row1 ((hL.same hs).okMono (fun b _ hb=>.inl hb)),rowOne (w0:=w0) (t:=T.t) (.inr (.inr rfl)) hsw.row2 ((hL2.same hs).okMono (fun b _ hb=>.inl hb))⟩
  | succ i=>simp at h1
 have hrl:T.args.length <= maxLen:=hR.1
 have hrl2:U.args.length <= maxLen:=hR2.1
 unfold maxLen at hrl hrl2
 have H0:=jh h0
 have HM:=jh hμ
 have HSW:=jh hsw
 have HW1:=jh hW1
 clear h0 hμ hR hR2 hL hL2 it it2 hsw hW1
 unfold tyV
 go_enter Tryz.func16,Tryz.ntmps16
 go_wp2_with fail
 go_loopw [7] (fun _ wr=>∃ n,SRel w0 W1 #[.int .i64 T.t,.slice a T.args.length c] #[.int .i64 U.t,.slice a2 U.args.length c2] T U n wr) (fun _ wr=>μ wr)
 case atStart =>
  have h:=H0.out
  rw [HW1.out] at h ⊢
  exact ⟨_,h⟩
 case round =>
  obtain ⟨n0,hn0⟩:=hrel
  obtain ⟨v1,vs,rows,hI,hRows,hn,hle,hall⟩:=(HM.out wr n0 hn0).1
  have d1:=cell_of_one hI.tod
  have f1:=free_of_one hI.tod
  have lt1:=lt_of_block hI.tod
  by_cases hv:vs.length = 0
  ·obtain ⟨a0,cc0,rfl⟩:=own_empty hI.own hv
   have hres:sameT T U = true:=by
    have h1:=hRows.1
    have h2:rows = []:=List.length_eq_zero_iff.1 (by omega)
    rw [h2] at hall
    exact hall.symm
   have HR:=jh hres
   have HI:=jh hI
   clear hI hRows hn hle hall hres hn0
   go_wp2_with fail
   go_ret
   exact ⟨by rw [HR.out];rfl,HI.out.grown⟩
  ·obtain ⟨rows',r,vs',u,rfl,rfl,hRows',a3,c3,V3,a4,c4,V4,rfl,hRT,hRT2⟩:=hRows.last (by omega)
   obtain ⟨x,y⟩:=r
   simp only at hRT hRT2
   have hlv:(vs' ++ [cpV a3 x.length c3 a4 y.length c4]).length = vs'.length + 1:=by simp
   have hform:=World.ownsRow.form hI.own (by simp)
   rw [hlv] at hform
   obtain ⟨g,cap,rfl,_,_⟩:=hform
   have hown:wr.ownsRow w0.heap.size 53 2 (.slice (some ⟨g,0,none⟩) (vs'.length + 1) cap) (vs'.length + 1) (flatT (vs' ++ [cpV a3 x.length c3 a4 y.length c4])):=by
    have ho:=hI.own
    unfold OwnsC at ho
    rw [hlv] at ho
    exact ho
   have hcap:=oCq hown
   have hcap1:vs'.length <= cap:=by omega
   have hcap2:¬ cap = 0:=by omega
   obtain ⟨hc0,hc1⟩:=own_last2 hown
   have hI2:=(hI.pop rfl rfl).alloc (.cells #[.slice a3 x.length c3,.slice a4 y.length c4] 53)
   have hb1:vs'.length + 1 <= 50000001:=by
    have h1:rows'.length + 1 = vs'.length + 1:=by have:=hRows.1;simpa using this
    have h2:=len_left2 (rows' ++ [(x,y)])
    rw [List.length_append,List.length_singleton] at h2
    omega
   have hleft:leftOf2 rows' + (tysizes x + 1) = μ wr:=by rw [← hn,leftOf2_append,leftOf2_single]
   have hE:Calls Tryz.prog 22 #[.slice a3 x.length c3,.slice a4 y.length c4,.func (.func 21) #[] #[.pointer (some ⟨w0.heap.size + 1 + 1 + 1 + 1 + 1,0,none⟩)]]
    ((wr.setCell ⟨w0.heap.size + 1 + 1 + 1 + 1 + 1,0,none⟩ (.slice (some ⟨g,0,none⟩) vs'.length cap)).alloc (.cells #[.slice a3 x.length c3,.slice a4 y.length c4] 53)) fun e w'=>(e = .returned (.bool true) /\ ∃ m,m < μ wr /\ SRel w0 W1 #[.int .i64 T.t,.slice a T.args.length c] #[.int .i64 U.t,.slice a2 U.args.length c2] T U m w') \/
      (e = .returned (.bool false) /\ sameT T U = false /\ w0.grownBy w' none):=by
    by_cases hxy:x.length = y.length
    ·rw [← hxy] at hI2 ⊢
     refine (equal_any 21 _ x.length a3 a4 c3 c4 V3 V4 (sameAt x y) (fun i w=>∃ v2 vs2,SInv w0 w (w0.heap.size + 1 + 1 + 1 + 1 + 1) (w0.heap.size + 1 + 1) (w0.heap.size + 1 + 1 + 1) #[.int .i64 T.t,.slice a T.args.length c] #[.int .i64 U.t,.slice a2 U.args.length c2] v2 vs2 /\
      RowsOk2 (fun b=>b < w0.heap.size \/ b = w0.heap.size + 1 + 1 \/ b = w0.heap.size + 1 + 1 + 1) W1 (rows' ++ ((x.zip y).map argsOf).take i) vs2) (fun w=>w0.grownBy w none) hRT.1 ent_same1 ?_ ?_ ?_ ?_ _ ⟨_,vs',hI2,by simpa using hRows'⟩).mono ?_
     ·rintro i w hi ⟨v2,vs2,hI3,_⟩
      exact ((hRT.2.1 i hi).same (HSW.out.same hI3)).okMono (fun _ _ _=>trivial)
     ·rintro i w hi ⟨v2,vs2,hI3,_⟩
      exact ((hRT2.2.1 i (by omega)).same (HSW.out.same hI3)).okMono (fun _ _ _=>trivial)
     ·rintro i w o ⟨v2,vs2,hI3,h4⟩
      exact ⟨v2,vs2,hI3.alloc o,h4⟩
     ·rintro i w hi ⟨v2,vs2,hI3,h4⟩
      have hi2:i < y.length:=by omega
      obtain ⟨ax,cx,Vx,hVx,_,hRx⟩:=(hRT.2.2 i hi).inv
      obtain ⟨ay,cy,Vy,hVy,_,hRy⟩:=(hRT2.2.2 i hi2).inv
      have hlen:vs2.length <= 100000000:=by
       have h5:=h4.1
       have h6:(((x.zip y).map argsOf).take i).length <= x.length:=by simp;omega
       have h7:=tylength_le x
       have h8:=hRows'.1
       rw [List.length_append] at h5
       omega
      rw [hVx,hVy]
      refine (look2_any hI3 hlen).mono ?_
      rintro e w' ⟨rfl,v',hI4⟩
      rw [sameAt_eq hi hi2]
      refine ⟨rfl,fun _=>⟨v',_,hI4,?_⟩,fun _=>hI4.grown⟩
      rw [zip_take_succ x y i hi hi2,← List.append_assoc]
      exact h4.snoc ⟨ax,cx,Vx,ay,cy,Vy,rfl,hRx,hRy⟩
     ·rintro e w' (⟨rfl,⟨v2,vs2,hI3,h4⟩,hb⟩ | ⟨i,hi,hb,rfl,hg⟩)
      ·rw [List.take_of_length_le (by simp;omega)] at h4
       have h7:=zip_left x y
       refine .inl ⟨rfl,leftOf2 (rows' ++ (x.zip y).map argsOf),?_,v2,vs2,_,hI3,h4,rfl,?_,?_⟩
       ·rw [leftOf2_append];omega
       ·rw [leftOf2_append];omega
       ·rw [← hall,List.all_append,List.all_append,← sameTs_zip x y hxy (zip_all hxy hb)];simp [sameRow]
      ·refine .inr ⟨rfl,?_,hg⟩
       have hi2:i < y.length:=by omega
       rw [sameAt_eq hi hi2] at hb
       rw [← hall,List.all_append]
       simp [sameRow,sameTs_no x y i hi hi2 (by simpa using hb)]
    ·refine (equal_len _ _ _ _ _ _ _ hxy hRT.1 hRT2.1 _).mono ?_
     rintro e w' ⟨rfl,rfl⟩
     refine .inr ⟨rfl,?_,hI2.grown⟩
     have : sameTs x y = false:=by
      cases h:sameTs x y with
      | false=>rfl
      | true=>exact absurd (sameTs_len h) hxy
     rw [← hall,List.all_append]
     simp [sameRow,this]
   have HE:=jh hE
   have hvv:(vs'.length:Int) <= 4611686018427387904:=by omega
   clear hE hI2 hI hRows hRows' hRT hRT2 hn hle hall hn0 hlv hleft hz hb1 hv hcap hown
   unfold cpV at *
   go_wp2_with fail
   refine HE.out.mono ?_
   rintro e w2 (⟨rfl,hm⟩ | ⟨rfl,hno,hg⟩)
   ·have HM2:=jh hm
    clear hm
    go_wp2_with fail
    obtain ⟨m,h1,h2⟩:=HM2.out
    go_roundw
    case rel=>exact ⟨m,h2⟩
    case measure=>exact Nat.lt_of_le_of_lt (HM.out _ m h2).2 h1
   ·have HN:=jh hno
    have HG:=jh hg
    clear hno hg
    go_wp2_with fail
    go_ret
    exact ⟨by rw [HN.out];rfl,HG.out⟩
def cmpI (a b:Int):Int:=if a < b then -1 else if b < a then 1 else 0
def cmpS (s t:ByteArray):Int:=if Op.bytesLess s.toList t.toList = true then -1 else if s.toList = t.toList then 0 else 1
mutual
def sbsV (c:Va -> Va -> Int):Va -> Va -> Int
 | .mk k n a s args ty co,y=>if c (.mk k n a s args ty co) y ≠ 0 then c (.mk k n a s args ty co) y else sbsVs c args y.args
def sbsVs (c:Va -> Va -> Int):List Va -> List Va -> Int
 | [],[]=>0
 | [],_ :: _=>-1
 | _ :: _,[]=>1
 | x :: xs,y :: ys=>if sbsV c x y ≠ 0 then sbsV c x y else sbsVs c xs ys
end
theorem sbsV_eq (c:Va -> Va -> Int) (x y:Va):sbsV c x y = if c x y ≠ 0 then c x y else sbsVs c x.args y.args:=by
 cases x;rw [sbsV];rfl
theorem sbsVs_one (c:Va -> Va -> Int) (x y:Va):sbsVs c [x] [y] = sbsV c x y:=by
 rw [sbsVs,sbsVs]
 by_cases h:sbsV c x y = 0
 ·rw [if_neg (by simpa using h),h]
 ·rw [if_pos h]
def stkT (c:Va -> Va -> Int):List (List Va × List Va) -> Int
 | []=>0
 | r :: R=>if sbsVs c r.1 r.2 ≠ 0 then sbsVs c r.1 r.2 else stkT c R
def stk (c:Va -> Va -> Int) (rows:List (List Va × List Va)):Int:=stkT c rows.reverse
theorem stk_snoc (c:Va -> Va -> Int) (rows:List (List Va × List Va)) (r:List Va × List Va):stk c (rows ++ [r]) = if sbsVs c r.1 r.2 ≠ 0 then sbsVs c r.1 r.2 else stk c rows:=by
 simp [stk,stkT]
theorem stk_one (c:Va -> Va -> Int) (r:List Va × List Va):stk c [r] = sbsVs c r.1 r.2:=by
 have:=stk_snoc c [] r
 rw [List.nil_append] at this
 rw [this]
 by_cases h:sbsVs c r.1 r.2 = 0
 ·rw [if_neg (by simpa using h),h];rfl
 ·rw [if_pos h]
theorem stk_pop (c:Va -> Va -> Int) (rows:List (List Va × List Va)):stk c (rows ++ [([],[])]) = stk c rows:=by
 rw [stk_snoc];simp [sbsVs]
theorem stk_end (c:Va -> Va -> Int) (rows:List (List Va × List Va)) (x y:List Va) (h:x = [] \/ y = []) (hne:¬ (x = [] /\ y = [])):stk c (rows ++ [(x,y)]) = cmpI x.length y.length:=by
 rw [stk_snoc]
 cases x with
 | nil=>cases y with
  | nil=>simp at hne
  | cons b y =>
   have h1:sbsVs c [] (b :: y) = -1:=by rw [sbsVs]
   have h2:cmpI (([]:List Va).length:Nat) ((b :: y).length:Nat) = -1:=by rw [cmpI,if_pos (by simp)]
   rw [h2];simp [h1]
 | cons a x=>cases y with
  | nil =>
   have h1:sbsVs c (a :: x) [] = 1:=by rw [sbsVs]
   have h2:cmpI ((a :: x).length:Nat) (([]:List Va).length:Nat) = 1:=by rw [cmpI,if_neg (by simp;omega),if_pos (by simp)]
   rw [h2];simp [h1]
  | cons b y=>simp at h
theorem stk_ret (c:Va -> Va -> Int) (rows:List (List Va × List Va)) (x y:Va) (xs ys:List Va) (h:c x y ≠ 0):stk c (rows ++ [(x :: xs,y :: ys)]) = c x y:=by
 have h1:sbsV c x y = c x y:=by rw [sbsV_eq,if_pos h]
 have h2:sbsVs c (x :: xs) (y :: ys) = c x y:=by rw [sbsVs,h1,if_pos h]
 rw [stk_snoc];simp only [h2];rw [if_pos h]
theorem stk_push (c:Va -> Va -> Int) (rows:List (List Va × List Va)) (x y:Va) (xs ys:List Va) (h:c x y = 0):stk c (rows ++ [(x :: xs,y :: ys)]) = stk c (rows ++ [(xs,ys)] ++ [(x.args,y.args)]):=by
 have h1:sbsV c x y = sbsVs c x.args y.args:=by rw [sbsV_eq,if_neg (by simpa using h)]
 rw [stk_snoc,stk_snoc,stk_snoc]
 simp only
 rw [sbsVs,h1]
 by_cases h2:sbsVs c x.args y.args = 0
 ·simp [h2]
 ·rw [if_pos h2,if_pos h2];simp [h2]
def leftV (rows:List (List Va × List Va)):Nat:=(rows.map fun r=>2 * vsizes r.1 + 1).sum
theorem leftV_append (a b:List (List Va × List Va)):leftV (a ++ b) = leftV a + leftV b:=by simp [leftV]
theorem leftV_one (r:List Va × List Va):leftV [r] = 2 * vsizes r.1 + 1:=by simp [leftV]
theorem len_leftV (rows:List (List Va × List Va)):rows.length <= leftV rows:=by
 induction rows with
 | nil=>simp
 | cons r l ih=>simp only [leftV,List.map_cons,List.sum_cons,List.length_cons] at ih ⊢;omega
def ordC (x y:Va):Int:=if cmpI x.n y.n ≠ 0 then cmpI x.n y.n else cmpS x.s y.s
def ordV (x y:Va):Int:=sbsV ordC x y
def zeroVa:Va:=.mk 0 0 0 ⟨#[]⟩ [] [] []
def keyF (v:Va):Va:=match v.args with
 | []=>zeroVa
 | x :: _=>x
def risesF:List Va -> Bool
 | []=>true
 | [_]=>true
 | x :: y :: l=>decide (ordV (keyF x) (keyF y) < 0) && risesF (y :: l)
theorem risesF_iff (l:List Va):risesF l = true ↔ ∀ i (h:i + 1 < l.length),ordV (keyF l[i]) (keyF l[i + 1]) < 0:=by
 induction l with
 | nil=>simp [risesF]
 | cons x l ih=>cases l with
  | nil=>simp [risesF]
  | cons y l =>
   simp only [risesF,Bool.and_eq_true,decide_eq_true_eq,ih]
   constructor
   ·rintro ⟨h1,h2⟩ i hi
    cases i with
    | zero=>exact h1
    | succ i=>exact h2 i (by simpa using hi)
   ·intro h
    exact ⟨h 0 (by simp),fun i hi=>h (i + 1) (by simpa using hi)⟩
theorem risesF_no (l:List Va) (i:Nat) (h:i + 1 < l.length) (hn:¬ ordV (keyF l[i]) (keyF l[i + 1]) < 0):risesF l = false:=by
 cases hq:risesF l with
 | false=>rfl
 | true=>exact absurd ((risesF_iff l).1 hq i h) hn
def inB (n:Int):Bool:=decide (-1152921504606846976 <= n /\ n <= 1152921504606846976)
def amountB (n:Int):Bool:=decide (0 <= n /\ n <= 1152921504606846976)
def addrB (n:Int):Bool:=decide (0 <= n /\ n < 12)
def fitsNF (t n:Int):Bool :=
 if t = 2 \/ t = 12 then decide (n = 0 \/ n = 1) else if t = 3 then inB n else if t = 4 \/ t = 5 \/ t = 8 then amountB n
 else if t = 15 then amountB n && decide (n ≠ 0) else if t = 7 then addrB n else decide (n = 0)
def oneGood:List Ty -> Bool
 | []=>false
 | [u]=>gYq u
 | _ :: _ :: _=>false
theorem oneGood_no {l:List Ty} (h:l.length ≠ 1):oneGood l = false:=by
 match l,h with
 | [],_=>rfl
 | [_],h=>simp at h
 | _ :: _ :: _,_=>rfl
def fitsTF (T:Ty) (types:List Ty):Bool :=
 if T.t = 8 then oneGood types else if T.t = 14 then sameTs types T.args else decide (types.length = 0)
def fitsF (T:Ty) (v:Va):Bool :=
 decide (v.k = T.t) && fitsNF T.t v.n && (decide (v.a = 0) || decide (T.t = 8 \/ T.t = 15) && addrB v.a) && (decide (v.s.size = 0) || decide (T.t = 6) && decide (v.s.size <= 200)) &&
 fitsTF T v.types && (decide (v.code.length = 0) || decide (T.t = 14))
def tAq (l:List Ty) (i:Nat):Ty:=(l[i]?).getD (.nd 0 [])
def argTys (T:Ty) (v:Va):Option (List Ty) :=
 let l:=v.args.length
 if T.t = 8 then (if l = v.types.length then some v.types else none)
 else if T.t = 9 /\ l = 0 then some []
 else if T.t = 10 then (if l <= 24 then some (List.replicate l (tAq T.args 0)) else none)
 else if T.t = 13 then (if l <= 24 then some (List.replicate l (.nd 11 T.args)) else none)
 else if T.t = 12 then (if l = 1 then some [tAq T.args v.n.toNat] else none)
 else if T.t = 14 then (if l = 0 then some [] else none)
 else if l = T.args.length then some T.args else none
mutual
def hasV:Va -> Ty -> Bool
 | .mk k n a s args types code,T=>fitsF T (.mk k n a s args types code) && (match argTys T (.mk k n a s args types code) with
  | none=>false
  | some ts=>hasVs args ts) && (!decide (T.t = 13) || risesF args)
def hasVs:List Va -> List Ty -> Bool
 | [],[]=>true
 | v :: vs,T :: ts=>hasV v T && hasVs vs ts
 | [],_ :: _=>false
 | _ :: _,[]=>false
end
def hasF (T:Ty) (v:Va):Bool:=gYq T && hasV v T
def hasP (p:Ty × Va):Bool:=hasV p.2 p.1
def partsOf (T:Ty) (v:Va):Option (List (Ty × Va)):=(argTys T v).map fun ts=>ts.zip v.args
theorem hasVs_zip:∀ (vs:List Va) (ts:List Ty),vs.length = ts.length -> hasVs vs ts = (ts.zip vs).all hasP
 | [],[],_=>by simp [hasVs]
 | _ :: _,[],h=>by simp at h
 | [],_ :: _,h=>by simp at h
 | v :: vs,T :: ts,h=>by
  have ih:=hasVs_zip vs ts (by simpa using h)
  simp [hasVs,ih,hasP]
theorem argTys_len {T:Ty} {v:Va} {ts:List Ty} (h:argTys T v = some ts):v.args.length = ts.length:=by
 unfold argTys at h
 simp only at h
 repeat' split at h
 all_goals first | (simp at h;done) | (simp only [Option.some.injEq] at h;subst h;simp_all)
theorem hasV_eq (T:Ty) (v:Va):hasV v T = (fitsF T v && (match partsOf T v with
 | none=>false
 | some ps=>ps.all hasP) && (!decide (T.t = 13) || risesF v.args)):=by
 cases v with
 | mk k n a s args types code =>
  rw [hasV,partsOf]
  cases h:argTys T (.mk k n a s args types code) with
  | none=>rfl
  | some ts =>
   have:=argTys_len h
   simp only [Option.map_some]
   rw [hasVs_zip args ts this]
   rfl
def pairSize (p:Ty × Va):Nat:=p.2.size
def leftP (C:List (Ty × Va)):Nat:=(C.map pairSize).sum
theorem leftP_append (a b:List (Ty × Va)):leftP (a ++ b) = leftP a + leftP b:=by simp [leftP]
theorem leftP_one (p:Ty × Va):leftP [p] = p.2.size:=by simp [leftP,pairSize]
theorem len_leftP (C:List (Ty × Va)):C.length <= leftP C:=by
 induction C with
 | nil=>simp
 | cons r l ih=>have:=vsize_pos r.2;simp only [leftP,List.map_cons,List.sum_cons,List.length_cons,pairSize] at ih ⊢;omega
theorem leftP_zip:∀ (ts:List Ty) (vs:List Va),ts.length = vs.length -> leftP (ts.zip vs) = vsizes vs
 | [],[],_=>by simp [leftP,vsizes]
 | _ :: _,[],h=>by simp at h
 | [],_ :: _,h=>by simp at h
 | T :: ts,v :: vs,h=>by
  have ih:=leftP_zip ts vs (by simpa using h)
  have e:leftP ((T :: ts).zip (v :: vs)) = v.size + leftP (ts.zip vs):=by simp [leftP,pairSize]
  rw [e,ih,vsizes]
inductive Plain:Va -> Prop
 | mk {k n a:Int} {s:ByteArray} {args:List Va} (h:∀ x ∈ args,Plain x):Plain (.mk k n a s args [] [])
theorem Plain.args {x:Va} (h:Plain x):∀ y ∈ x.args,Plain y:=by cases h with | mk h=>exact h
theorem formed_args2 {d:Nat} {T:Ty} (h:fBq d T = true):(T.args.length:Int) = partsF T.t /\ ∀ y ∈ T.args,fBq (d + 1) y = true:=by
 obtain ⟨t,args⟩:=T
 simp only [fBq,Bool.and_eq_true,decide_eq_true_eq] at h
 refine ⟨h.1.2.2,fun y hy=>?_⟩
 have:=h.2
 rw [formedBs_all,List.all_eq_true] at this
 exact this y hy
theorem zeros_own {P:Program} (w:World) (t tn ty e:TypeId) (k kn:IntKind) (z:Value) (size bytes:Nat) (hinfo:(P.info? e).map (fun i=>(i.zero,i.size,i.bytes)) = some (some z,size,bytes)) (ht:P.underlying t = some (.slice e)) (htn:P.underlying tn = some (.int kn))
 (n:Nat) (h0:0 < n) (hs:0 < size) (hzs:z.cells.size = size) (hn:n <= 1000000000) (hb:bytes <= 1000) :
 ∃ g cap w',(Builtin.append_ #[t,tn] ty #[.slice none 0 0,.int k n]).run P w = .ok (.slice (some ⟨g,0,none⟩) n cap) w' /\ w'.ownsRow w.heap.size e size (.slice (some ⟨g,0,none⟩) 0 cap) 0 [] /\ w.grownBy w' none /\ n <= cap /\ cap <= 9223372036854775807:=by
 obtain ⟨i0,hi,hz0,hz1,hz2⟩:=info_parts hinfo
 have hbb:n * i0.bytes <= 1000000000 * 1000:=by rw [hz2];exact Nat.mul_le_mul hn hb
 have hr:=Lib.run_append_nil_zeros w t tn ty e i0 z k kn ht htn hi hz0 n h0 (by omega) (by omega) (by omega)
 have hge:=grownCap_ge w n 0 e
 have hcm:grownCap w n 0 e <= maxLen:=grownCap_le_maxLen w n 0 e (by unfold maxLen;omega)
 refine ⟨_,_,_,hr,⟨by simp,.inr ⟨w.heap.size,_,_,rfl,Nat.le_refl _,heap_alloc_new w.drew _,Nat.zero_le _,hcm,?_,by simp⟩⟩,⟨rfl,rfl,rfl,by simp,fun k hk _=>heap_alloc_old w.drew _ hk⟩,hge,by unfold maxLen at hcm;omega⟩
 simp only [Array.size_append,size_zeroCells,hzs,← Nat.add_mul]
 congr 1
 omega
theorem info_vaG:(Tryz.prog.info? 28).map (fun i=>(i.zero,i.size,i.bytes)) = some (some (.agg #[.int .i64 0,.int .i64 0,.int .i64 0,.string ⟨#[]⟩,.slice none 0 0,.slice none 0 0,.slice none 0 0]),7,112):=by kernel_rfl
theorem growV_any (n:Nat) (hn:n <= 20000000) (W:World) :
 Calls Tryz.prog 135 #[.slice none 0 0,.int .i64 n] W fun e w'=>∃ v,e = .returned v /\ w'.ownsRow W.heap.size 28 7 v 0 [] /\ W.grownBy w' none:=by
 have h63:(n:Int) <= 20000000:=by omega
 have h0n:¬ (n:Int) < 0:=by omega
 by_cases h:n = 0
 ·subst h
  go_enter Tryz.func135,Tryz.ntmps135
  go_wp2_with fail
  go_ret
  exact ⟨_,rfl,World.ownsRow_nil _ _ _ _,gRf _ _⟩
 ·obtain ⟨g,cap,w1,hr,ho,hg,hc,hc2⟩:=zeros_own W 26 3 26 28 .i64 .i64 _ 7 112 info_vaG Tryz.underlying26 Tryz.underlying3 n (by omega) (by decide) rfl (by omega) (by decide)
  have hpos:(n:Int) > 0:=by omega
  have HO:=jh ho
  have HG:=jh hg
  clear ho hg
  go_enter Tryz.func135,Tryz.ntmps135
  go_wp2_with (at_builtin;refine Lib.wpList_append_run _ rfl _ _ _ _ rfl _ _ rfl rfl _ _ hr ?_)
  go_ret
  exact ⟨_,rfl,HO.out,HG.out⟩
end Go.Proofs.YtkglnoimbekhhaaGreat
