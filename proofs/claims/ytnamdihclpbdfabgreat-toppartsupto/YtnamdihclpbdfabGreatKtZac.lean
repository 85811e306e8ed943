import Derived.Test.YtnamdihclpbdfabGreatKtZ0
import Derived.OpenShut
import Derived.Deep.QuietTactic
import Derived.BigQuiet
import Derived.Deep.RegionLaw
import Derived.Maps.AppendAt
import Derived.Lib.Mul64
import Derived.Laws.Bits64b
import Derived.Laws.CopyRow
import Derived.Laws.MakeOwn
import Derived.Laws.OwnMore
import Derived.Deep.RegionHeld3
import Derived.Deep.DeepCutAuto
namespace Go.Proofs.YtnamdihclpbdfabGreat.Lf
set_option linter.all false
open Go.Proofs.Tryz
set_option maxRecDepth 100000
set_option maxHeartbeats 4000000
open Go.ChangeShapes Go.WideShapes Go.ChangeAt Go.RowKit
variable {p:Prop}{w:cg}
def Au(s:bp):s.toList=[] ↔ s.size=0:=by rw[jc5];exact (List.length_eq_zero_iff (l:=s.data.toList)).symm.trans (by rw[qg7];rfl)
def kZ{a b:Bool}(h:a=b)(c:p):Ending.returned (.bool a) =.returned (.bool b)/\p:=by rw[h];exact⟨rfl,c⟩
def lX{k:IntKind}{a b:Int}(h:a=b)(c:p):Ending.returned (.int k a) =.returned (.int k b)/\p:=by rw[h];exact⟨rfl,c⟩
def hide(h:p):Hid p:=h
def gb(o:Obj):cq w (w.alloc o) none:=je2 w o none
def Zt{a b c:cg}(h:cq a b none)(k:cq b c none):cq a c none :=
 ⟨k.os.trans h.os,k.tape.trans h.tape,k.output.trans h.output,xo h.size k.size,λi d _=>(k.block i (kh d h.size) oe).trans (h.block i d oe)⟩
def Qr{w':cg}(h:cq w w' none):∀b o,b<w.heap.size->w'.cell? ⟨b,o,none⟩=w.cell? ⟨b,o,none⟩ :=
 λb o a=>kd (h.block b a oe)
end Go.Proofs.YtnamdihclpbdfabGreat.Lf
namespace Go.Proofs.YtnamdihclpbdfabGreat
set_option linter.all false
open Go.Proofs.Tryz
set_option maxRecDepth 100000
set_option maxHeartbeats 4000000
open Go.ChangeShapes Go.WideShapes Go.ChangeAt Go.RowKit
variable {K:Act->cg->Prop}{ops:Array Oper}{Q:Exit->Act->cg->Prop}{xs:bo}{B base c g i y:Nat}{ok ok':br}{V:bt}{o:Oper}{p:bj}{r:Option Nat}{T U e:TypeId}{v v1 x0 x1 x2 x3 x4 z:cm}{w w' w1 w2:cg}
def aI{a b:Prop}(x:a)(y:b):a ∧ b:=⟨x,y⟩
def jh{p:Prop}(h:p):Hid p:=h
def aK(o:Obj):cq w (w.alloc o) none:=Go.Proofs.YtnamdihclpbdfabGreat.Lf.gb o
def aJ{a b c:cg}(h:cq a b none)(k:cq b c none):cq a c none:=Go.Proofs.YtnamdihclpbdfabGreat.Lf.Zt h k
def gAq{a b:cg}(h:cq a b none):cq a b r:=⟨h.os,h.tape,h.output,h.size,λk c _=>h.block k c oe⟩
def K6{a b c:cg}(h:cq a b r)(k:cq b c r):cq a c r :=
 ⟨k.os.trans h.os,k.tape.trans h.tape,k.output.trans h.output,xo h.size k.size,λi d e=>(k.block i (kh d h.size) e).trans (h.block i d e)⟩
def bf(a:cg)(r:Option Nat):cq a a r:=⟨rfl,rfl,rfl,jn _,λ_ _ _=>rfl⟩
def eF{a b:cg}(h:cq a b (some g))(o:Nat)(d:Option Nat)(v:cm):cq a (b.setCell ⟨g,o,d⟩ v) (some g) :=
 K6 h ⟨rfl,rfl,rfl,by simp[World.setCell],λk e c=>Below.heap_setCell _ _ _ _ (by simpa using c)⟩
inductive Tr where
 | nd (k n p:Int) (s:ByteArray) (args:List Tr)
abbrev aE:=List Tr
mutual
def Tr.size:Tr->Nat
 | .nd _ _ _ _ args=>sizes args+1
def sizes:aE->Nat
 | []=>0
 | t::ts=>t.size+sizes ts
end
def sK(a b:aE):sizes (a++b)=sizes a+sizes b:=by
 induction a with
 | nil=>simp[sizes]
 | cons t d c=>simp[sizes,c];omega
def size_pos(t:Tr):1<=t.size:=by cases t;simp[Tr.size]
def gH(l:aE)(i:Nat)(h:i<l.length):sizes (l.take (i+1))=sizes (l.take i)+(l[i]).size:=by rw[qg0 h,sK];simp[sizes]
def jF(l:aE)(i:Nat):sizes (l.take i)<=sizes l:=by have h:=sK (l.take i) (l.drop i);rw[qd1]at h;omega
def cB(l:aE):l.length<=sizes l:=by
 induction l with
 | nil=>simp
 | cons t b a=>have:=size_pos t;simp[sizes];omega
def af (k n p:Int) (s:bp) (a:bj) (l c:Nat):cm:=.agg #[.i k,.i n,.i p,.string s,.slice a l c]
def ky (ok:br) (w:cg) (a:bj) (i:Nat) (v:cm):Prop :=
 ∃b o,a=some ⟨b,o,none⟩/\ok b/\∃k n p s a' l c,v=af k n p s a' l c/\w.cell? ⟨b,o+i*5,none⟩=some (.i k)/\w.cell? ⟨b,o+i*5+1,none⟩=some (.i n) /\
  w.cell? ⟨b,o+i*5+2,none⟩=some (.i p)/\w.cell? ⟨b,o+i*5+3,none⟩=some (.string s)/\w.cell? ⟨b,o+i*5+4,none⟩=some (.slice a' l c)
def bD (n:Int):Prop:=-9223372036854775808<=n/\n<=9223372036854775807
inductive bI (ok:Nat->Prop) (w:World):Tr->Value->Prop
 | mk {k n p:Int} {s:ByteArray} {args:List Tr} {a:Option Addr} {c:Nat} {hk:args.length<=c} (V:Nat->Value) (hl:args.length<=maxLen) (hs:s.size<=maxLen) (ik:bD k) (iN:bD n) (ip:bD p)
  (hc:∀i,i<args.length->ky ok w a i (V i)) (hr:∀i (h:i<args.length),bI ok w args[i] (V i)):bI ok w (.nd k n p s args) (af k n p s a args.length c)
def Same (ok:br) (w w':cg):Prop:=∀b o,ok b->b<w.heap.size->w'.cell? ⟨b,o,none⟩=w.cell? ⟨b,o,none⟩
def Same.below(h:Below B w w1):Same (· < B) w w1:=λb o a _=>h.cell (p:=⟨b,o,none⟩) a
def ky.same{a:bj}(h:ky ok w a i v)(f:Same ok w w'):ky ok w' a i v:=by have⟨b,o,u,e,k,n,p,s,j,l,c,x,g,m,q,r,t⟩:=h;have d:b<w.heap.size:=qc0 w _ g;exact⟨b,o,u,e,k,n,p,s,j,l,c,x,(f _ _ e d).trans g,(f _ _ e d).trans m,(f _ _ e d).trans q,(f _ _ e d).trans r,(f _ _ e d).trans t⟩
def bI.same{t:Tr}(h:bI ok w t v)(e:Same ok w w'):bI ok w' t v:=by
 induction h with
 | mk V d a j f k b _ g=>exact .mk (hk:=by assumption) V d a j f k (λi c=>(b i c).same e) g
def bI.ae{t:Tr}(h:bI ok w t v)(hm:∀b,b<w.heap.size->ok b->ok' b):bI ok' w t v:=by
 induction h with
 | mk V q e y u z j _ x =>
  refine .mk (hk:=by assumption) V q e y u z (λi m=>?_) x;have⟨b,o,f,g,k,n,p,s,a,l,c,r,h0,d⟩:=j i m;exact⟨b,o,f,hm b (qc0 w _ h0) g,k,n,p,s,a,l,c,r,h0,d⟩
def Gr (w:cg) (vb:cm) (w':cg) (v':cm):Prop:=cq w w' vb.ownBlock/\(v'.ownBlock=vb.ownBlock\/∃g,v'.ownBlock=some g/\w.heap.size<=g)
def Gr.refl(w:cg)(v:cm):Gr w v w v:=⟨bf _ _,.inl rfl⟩
def Gr.trans{l:cm}(h:Gr w v w1 v1)(k:Gr w1 v1 w2 l):Gr w v w2 l:=by
 have⟨b,a⟩:=h;have⟨d,c⟩:=k;refine⟨⟨d.os.trans b.os,d.tape.trans b.tape,d.output.trans b.output,xo b.size d.size,λi f j=>?_⟩,?_⟩
 .refine (d.block i (kh f b.size) ?_).trans (b.block i f j);rcases a with a|⟨g,a,e⟩
  .rw[a];exact j
  .rw[a];simp;omega
 .rcases c with c|⟨g,c,e⟩
  .rcases a with a|⟨g,a,e⟩
   .exact .inl (c.trans a)
   .exact .inr ⟨g,c.trans a,e⟩
  .exact .inr ⟨g,c,xo b.size e⟩
def Gr.QY(h:Gr w.drew v w1 v1):Gr w v w1 v1:=⟨⟨h.1.os,h.1.tape,h.1.output,h.1.size,h.1.block⟩,h.2⟩
def Gr.alloc(h:Gr w v w1 v1)(o:Obj):Gr w v (w1.alloc o) v1:=h.trans ⟨je2 _ _ _,.inl rfl⟩
def Gr.block(h:Gr w v w1 v1){k:Nat}(hk:k<w.heap.size)(a:some k≠v.ownBlock):w1.heap[k]?=w.heap[k]?:=h.1.block k hk a
def bE(h:w.heap[g]?=some (.cells #[x0,x1,x2,x3,x4] T (0,0))) :
 w.cell? ⟨g,0,none⟩=some x0/\w.cell? ⟨g,1,none⟩=some x1/\w.cell? ⟨g,2,none⟩=some x2/\w.cell? ⟨g,3,none⟩=some x3/\w.cell? ⟨g,4,none⟩=some x4:=by
 simp[World.cell?,h]
def aG{b:cg}(h:cq w w2 r)(k:cq w2 b (some g))(d:w.heap.size<=g):cq w b r :=
 ⟨k.os.trans h.os,k.tape.trans h.tape,k.output.trans h.output,xo h.size k.size,λi a c=>(k.block i (kh a h.size) ot).trans (h.block i a c)⟩
def rNw(w:cg)(o a:Obj):((w.alloc o).alloc a).heap[w.heap.size]?=some o:=by rw[ka4 (h:=by simp)];exact xF _ _
def kY(h:cq w w' r):cq w w'.drew r:=⟨h.os,h.tape,h.output,h.size,h.block⟩
def iW{n:Nat}(h:cq w w' r):cq w (w'.drewN n) r:=⟨h.os,h.tape,h.output,h.size,h.block⟩
def aB{k:Nat}{o x:Obj}(h:w.heap[k]?=some x):(w.alloc o).heap[k]?=some x:=by rw[ka4 (h:=(kj.1 h).1)];exact h
inductive Ty where
 | nd (t:Int) (args:List Ty)
abbrev aw:=List Ty
def Ty.t:Ty->Int
 | .nd t _=>t
def Ty.args:Ty->aw
 | .nd _ l=>l
mutual
def Ty.size:Ty->Nat
 | .nd _ args=>tysizes args+1
def tysizes:aw->Nat
 | []=>0
 | t::ts=>t.size+tysizes ts
end
def Cz(t:Ty):1<=t.size:=by cases t;simp[Ty.size]
def pW(l:aw):l.length<=tysizes l:=by
 induction l with
 | nil=>simp
 | cons t b a=>have:=Cz t;simp[tysizes];omega
def jS{l:aw}{x:Ty}(h:x∈l):x.size<=tysizes l:=by
 induction l with
 | nil=>simp at h
 | cons t b a =>
  simp[tysizes];rcases ke.1 h with rfl|h
  .omega
  .have:=a h;omega
def bY (t:Int) (a:bj) (l c:Nat):cm:=.agg #[.i t,.slice a l c]
def rC (ok:br) (w:cg) (a:bj) (i:Nat) (v:cm):Prop :=
 ∃b o,a=some ⟨b,o,none⟩/\ok b/\∃t a' l c,v=bY t a' l c/\w.cell? ⟨b,o+i*2,none⟩=some (.i t)/\w.cell? ⟨b,o+i*2+1,none⟩=some (.slice a' l c)
inductive aH (ok:Nat->Prop) (w:World):Ty->Value->Prop
 | mk {t:Int} {args:List Ty} {a:Option Addr} {c:Nat} (V:Nat->Value) (hl:args.length<=maxLen) (hlc:args.length<=c) (it:bD t)
  (hc:∀i,i<args.length->rC ok w a i (V i)) (hr:∀i (h:i<args.length),aH ok w args[i] (V i)):aH ok w (.nd t args) (bY t a args.length c)
def dw (ok:br) (w:cg) (ts:aw) (a:bj) (V:bt):Prop :=
 ts.length<=maxLen/\(∀i,i<ts.length->rC ok w a i (V i))/\∀i (h:i<ts.length),aH ok w ts[i] (V i)
def rC.same{a:bj}(h:rC ok w a i v)(g:Same ok w w'):rC ok w' a i v:=by have⟨b,o,m,e,t,j,l,c,n,f,k⟩:=h;have d:b<w.heap.size:=qc0 w _ f;exact⟨b,o,m,e,t,j,l,c,n,(g _ _ e d).trans f,(g _ _ e d).trans k⟩
def rC.ae{a:bj}(h:rC ok w a i v)(hm:∀b,b<w.heap.size->ok b->ok' b):rC ok' w a i v:=by have⟨b,o,g,j,t,e,l,c,k,d,f⟩:=h;exact⟨b,o,g,hm b (qc0 w _ d) j,t,e,l,c,k,d,f⟩
def aH.same{t:Ty}(h:aH ok w t v)(e:Same ok w w'):aH ok w' t v:=by
 induction h with
 | mk V d a g b _ f=>exact .mk V d a g (λi c=>(b i c).same e) f
def aH.ae{t:Ty}(h:aH ok w t v)(hm:∀b,b<w.heap.size->ok b->ok' b):aH ok' w t v:=by
 induction h with
 | mk V e a g c _ f=>exact .mk V e a g (λi d=>(c i d).ae hm) f
def dw.same{ts:aw}{a:bj}(h:dw ok w ts a V)(c:Same ok w w'):dw ok w' ts a V :=
 ⟨h.1,λi b=>(h.2.1 i b).same c,λi b=>(h.2.2 i b).same c⟩
def dw.ae{ts:aw}{a:bj}(h:dw ok w ts a V)(hm:∀b,b<w.heap.size->ok b->ok' b):dw ok' w ts a V :=
 ⟨h.1,λi c=>(h.2.1 i c).ae hm,λi c=>(h.2.2 i c).ae hm⟩
def dw.nil(ok:br)(w:cg)(a:bj)(V:bt):dw ok w [] a V :=
 ⟨by simp[maxLen],λi b=>by simp at b,λi b=>by simp at b⟩
def aH.inv{t:Ty}(h:aH ok w t v):∃a c V,v=bY t.t a t.args.length c/\bD t.t/\dw ok w t.args a V:=by
 cases h with
 | mk V d e g b f=>exact⟨_,_,V,rfl,g,d,b,f⟩
def qP{size n:Nat}(h:w.ownsRow B e size v n xs){a:bj}{l:Nat}(j:v =.slice a l c):l<=c:=by
 subst j;rcases h.2 with⟨b,_⟩|⟨g,d,f,b,_,_,i,_⟩
 .simp only[ye]at b;omega
 .simp only[ye]at b;omega
def aH.of{t:Int}{ts:aw}{a:bj}(d:bD t)(h:dw ok w ts a V)(b:ts.length<=c):aH ok w (.nd t ts) (bY t a ts.length c) :=
 .mk V h.1 b d h.2.1 h.2.2
inductive Va where
 | mk (k n a:Int) (s:ByteArray) (args:List Va) (types:List Ty) (code:List Tr)
abbrev ao:=List Va
def Va.k:Va->Int
 | .mk k _ _ _ _ _ _=>k
def Va.n:Va->Int
 | .mk _ n _ _ _ _ _=>n
def Va.a:Va->Int
 | .mk _ _ a _ _ _ _=>a
def Va.s:Va->bp
 | .mk _ _ _ s _ _ _=>s
def Va.args:Va->ao
 | .mk _ _ _ _ l _ _=>l
def Va.types:Va->aw
 | .mk _ _ _ _ _ t _=>t
def Va.code:Va->aE
 | .mk _ _ _ _ _ _ c=>c
mutual
def Va.size:Va->Nat
 | .mk _ _ _ _ args types code=>vsizes args+tysizes types+sizes code+1
def vsizes:ao->Nat
 | []=>0
 | t::ts=>t.size+vsizes ts
end
def kK(a b:ao):vsizes (a++b)=vsizes a+vsizes b:=by
 induction a with
 | nil=>simp[vsizes]
 | cons t d c=>simp[vsizes,c];omega
def qZ(t:Va):1<=t.size:=by cases t;simp[Va.size]
def eP(v:Va):v.size=vsizes v.args+tysizes v.types+sizes v.code+1:=by cases v;simp[Va.size,Va.args,Va.types,Va.code]
def kS(l:ao):l.length<=vsizes l:=by
 induction l with
 | nil=>simp
 | cons t b a=>have:=qZ t;simp[vsizes];omega
def fO{l:ao}{x:Va}(h:x∈l):x.size<=vsizes l:=by
 induction l with
 | nil=>simp at h
 | cons t b a =>
  simp[vsizes];rcases ke.1 h with rfl|h
  .omega
  .have:=a h;omega
def cK (ok:br) (w:cg) (ts:aE) (a:bj) (V:bt):Prop :=
 ts.length<=maxLen/\(∀i,i<ts.length->ky ok w a i (V i))/\∀i (h:i<ts.length),bI ok w ts[i] (V i)
def ky.ae{a:bj}(h:ky ok w a i v)(hm:∀b,b<w.heap.size->ok b->ok' b):ky ok' w a i v:=by have⟨b,o,g,j,k,n,p,s,e,l,c,m,d,f⟩:=h;exact⟨b,o,g,hm b (qc0 w _ d) j,k,n,p,s,e,l,c,m,d,f⟩
def cK.same{ts:aE}{a:bj}(h:cK ok w ts a V)(c:Same ok w w'):cK ok w' ts a V :=
 ⟨h.1,λi b=>(h.2.1 i b).same c,λi b=>(h.2.2 i b).same c⟩
def cK.ae{ts:aE}{a:bj}(h:cK ok w ts a V)(hm:∀b,b<w.heap.size->ok b->ok' b):cK ok' w ts a V :=
 ⟨h.1,λi c=>(h.2.1 i c).ae hm,λi c=>(h.2.2 i c).ae hm⟩
def cK.nil(ok:br)(w:cg)(a:bj)(V:bt):cK ok w [] a V :=
 ⟨by simp[maxLen],λi b=>by simp at b,λi b=>by simp at b⟩
def bg (k n a:Int) (s:bp) (aa:bj) (al ac:Nat) (ta:bj) (tl tc:Nat) (na:bj) (nl nc:Nat):cm :=
 .agg #[.i k,.i n,.i a,.string s,.slice aa al ac,.slice ta tl tc,.slice na nl nc]
def AX (ok:br) (w:cg) (p:bj) (i:Nat) (v:cm):Prop :=
 ∃b o,p=some ⟨b,o,none⟩/\ok b/\∃k n a s aa al ac ta tl tc na nl nc,v=bg k n a s aa al ac ta tl tc na nl nc/\w.cell? ⟨b,o+i*7,none⟩=some (.i k)/\w.cell? ⟨b,o+i*7+1,none⟩=some (.i n) /\
  w.cell? ⟨b,o+i*7+2,none⟩=some (.i a)/\w.cell? ⟨b,o+i*7+3,none⟩=some (.string s)/\w.cell? ⟨b,o+i*7+4,none⟩=some (.slice aa al ac)/\w.cell? ⟨b,o+i*7+5,none⟩=some (.slice ta tl tc)/\w.cell? ⟨b,o+i*7+6,none⟩=some (.slice na nl nc)
inductive aA (ok:Nat->Prop) (w:World):Va->Value->Prop
 | mk {k n a:Int} {s:ByteArray} {args:List Va} {types:List Ty} {code:List Tr} {aa ta na:Option Addr} {ac tc nc:Nat} {hnk:code.length<=nc/\types.length<=tc} (V VT VN:Nat->Value) (hl:args.length<=maxLen) (hlc:args.length<=ac) (hs:s.size<=maxLen) (ik:bD k) (iN:bD n) (ia:bD a)
  (hT:dw ok w types ta VT) (hN:cK ok w code na VN)
  (hc:∀i,i<args.length->AX ok w aa i (V i)) (hr:∀i (h:i<args.length),aA ok w args[i] (V i)):aA ok w (.mk k n a s args types code) (bg k n a s aa args.length ac ta types.length tc na code.length nc)
def aT (ok:br) (w:cg) (ts:ao) (a:bj) (V:bt):Prop :=
 ts.length<=maxLen/\(∀i,i<ts.length->AX ok w a i (V i))/\∀i (h:i<ts.length),aA ok w ts[i] (V i)
def AX.same(h:AX ok w p i v)(e:Same ok w w'):AX ok w' p i v:=by have⟨b,o,x,d,k,n,a,s,g,al,j,C,tl,D,z,B,A,y,f,l,m,q,r,t,u⟩:=h;have c:b<w.heap.size:=qc0 w _ f;exact⟨b,o,x,d,k,n,a,s,g,al,j,C,tl,D,z,B,A,y,(e _ _ d c).trans f,(e _ _ d c).trans l,(e _ _ d c).trans m,(e _ _ d c).trans q,(e _ _ d c).trans r,(e _ _ d c).trans t,(e _ _ d c).trans u⟩
def AX.ae(h:AX ok w p i v)(hm:∀b,b<w.heap.size->ok b->ok' b):AX ok' w p i v:=by have⟨b,o,j,g,k,n,a,s,d,al,e,t,tl,u,m,r,q,l,c,f⟩:=h;exact⟨b,o,j,hm b (qc0 w _ c) g,k,n,a,s,d,al,e,t,tl,u,m,r,q,l,c,f⟩
def aA.same{t:Va}(h:aA ok w t v)(b:Same ok w w'):aA ok w' t v:=by
 induction h with
 | mk V d c l a f p m n g e j _ o=>exact .mk (hnk:=by assumption) V d c l a f p m n (g.same b) (e.same b) (λi k=>(j i k).same b) o
def aA.ae{t:Va}(h:aA ok w t v)(hm:∀b,b<w.heap.size->ok b->ok' b):aA ok' w t v:=by
 induction h with
 | mk V d c l a f p m n g e j _ o=>exact .mk (hnk:=by assumption) V d c l a f p m n (g.ae hm) (e.ae hm) (λi k=>(j i k).ae hm) o
def aT.same{ts:ao}{a:bj}(h:aT ok w ts a V)(c:Same ok w w'):aT ok w' ts a V :=
 ⟨h.1,λi b=>(h.2.1 i b).same c,λi b=>(h.2.2 i b).same c⟩
def aT.ae{ts:ao}{a:bj}(h:aT ok w ts a V)(hm:∀b,b<w.heap.size->ok b->ok' b):aT ok' w ts a V :=
 ⟨h.1,λi c=>(h.2.1 i c).ae hm,λi c=>(h.2.2 i c).ae hm⟩
def aT.nil(ok:br)(w:cg)(a:bj)(V:bt):aT ok w [] a V :=
 ⟨by simp[maxLen],λi b=>by simp at b,λi b=>by simp at b⟩
def aA.inv{x:Va}(h:aA ok w x v):∃c ac ta tc na nc V VT VN,v=bg x.k x.n x.a x.s c x.args.length ac ta x.types.length tc na x.code.length nc/\(bD x.k/\bD x.n/\bD x.a/\x.s.size<=maxLen/\x.args.length<=ac)/\aT ok w x.args c V/\dw ok w x.types ta VT/\cK ok w x.code na VN:=by
 cases h with
 | mk V VT VN g b j o l m e d f i=>exact⟨_,_,_,_,_,_,V,VT,VN,rfl,⟨o,l,m,j,b⟩,⟨g,f,i⟩,e,d⟩
def aA.of{k n a:Int}{s:bp}{args:ao}{types:aw}{code:aE}{c ta na:bj}{d tc nc:Nat}{VT VN:bt}(b:args.length<=d)(e:s.size<=maxLen)(i:bD k)(f:bD n)(g:bD a)
 (h:aT ok w args c V) (hT:dw ok w types ta VT) (hN:cK ok w code na VN) (hnk:code.length<=nc/\types.length<=tc:=by simp):aA ok w (.mk k n a s args types code) (bg k n a s c args.length d ta types.length tc na code.length nc) :=
 .mk (hnk:=hnk) V VT VN h.1 b e i f g hT hN h.2.1 h.2.2
def aA.bg{t:Va}{u:cm}(h:aA ok w t u):∃k n a s b al c ta tl tc na d nc,u=bg k n a s b al c ta tl tc na d nc:=by cases h;exact⟨_,_,_,_,_,_,_,_,_,_,_,_,_,rfl⟩
def cO{a b:cm}(h:w.heap[g]?=some (.cells #[x0,x1,x2,x3,x4,a,b] T (0,0))) :
 w.cell? ⟨g,0,none⟩=some x0/\w.cell? ⟨g,1,none⟩=some x1/\w.cell? ⟨g,2,none⟩=some x2/\w.cell? ⟨g,3,none⟩=some x3/\w.cell? ⟨g,4,none⟩=some x4/\w.cell? ⟨g,5,none⟩=some a/\w.cell? ⟨g,6,none⟩=some b:=by
 simp[World.cell?,h]
def sAl(h:cq w w' none):Same (λ_=>True) w w':=λb o _ a=>kd (h.block b a oe)
def gCq{a b c:cg}(h:Hid (cq a b none))(g:cq b c none):Hid (cq a c none):=aJ h g
def tCq{t:Ty}(h:Hid (aH (λ_=>True) w t v))(g:cq w w' none):Hid (aH (λ_=>True) w' t v):=h.out.same (sAl g)
def gZ (w:cg) (xv:cm) (m:Nat) (news:bo):Prop :=
 (∃c,xv =.slice none 0 c/\m=0/\news=[])\/∃ad c,xv =.slice (some ad) m c/\∀j u,news[j]?=some u->w.cell? (ad.add j)=some u
def gZ.new(w:cg)(e:TypeId)(cs:Array cm)(m c:Nat):gZ (w.alloc (.cells cs e)) (.o (w.heap.size) m c) m cs.toList :=
 .inr ⟨_,_,rfl,λj u a=>World.news_of_block (w:=w.alloc _) (B:=w.heap.size) (cs:=cs) (xF _ _) j u a⟩
def U9(w:cg)(d:Nat)(t ty e:TypeId)(i:TypeInfo)(z:cm)(a b:Nat)(k:prog.underlying t=some (.slice e))(hi:prog.info? e=some i)(y:i.zero=some z)
 (hsize:i.size=a) (hby:i.bytes=b) (hzs:z.cells.size=a) (hsz:0<a) (v:cm) (n:Nat) (xs:bo) (hown:w.ownsRow d e a v n xs)
 (xv:cm) (m:Nat) (news:bo) (hl:news.length=m*a) (hsrc:gZ w xv m news) (h1:∀u∈news,u.oneCell') (h63:n+m<=maxLen) (hbytes:(n+m)*b<=140737488355328) (hbase:d<=w.heap.size) :
 ∃v' w',(Builtin.append_ #[t,t] ty #[v,xv]).run prog w =.ok v' w'/\w'.ownsRow d e a v' (n+m) (xs++news)/\Gr w v w' v'/\(v' =.n0 ↔ v =.n0/\m=0):=by
 rcases hsrc with⟨c,rfl,rfl,rfl⟩|⟨l,c,rfl,f⟩
 .refine⟨v,w,?_,by simpa using hown,Gr.refl _ _,oe⟩;rcases hown.2 with⟨rfl,rfl⟩|⟨g,o,p,rfl,_,A,j,_⟩
  .simp[Builtin.append_,qa7 k,sizeOf,typeInfo,hi,Builtin.lenOf,Builtin.firstCells]
  .simp[Builtin.append_,qa7 k,sizeOf,typeInfo,hi,Builtin.lenOf,Builtin.firstCells,j,storeCells]
 .have⟨v',w',x,q,r,s,h⟩:=run_append_own_at (P:=prog) w d t ty e i z a b k hi y hsize hby hzs hsz v n xs hown l m c news hl f h1 h63 hbytes hbase;refine⟨v',w',x,q,⟨r,?_⟩,s⟩;rcases h with h|h
  .exact .inl h
  .exact .inr ⟨_,h,jn _⟩
def Sl{a:Act}(s x:Operand)(t:TypeId)
 (ho:o.op =.call { callee:=.builtin .append,args:=#[s,x],argTypes:=#[t,t] })
 (base:Nat) (e:TypeId) (i:TypeInfo) (z:cm) (size bytes:Nat) (ht:prog.underlying t=some (.slice e)) (hi:prog.info? e=some i) (hz:i.zero=some z)
 (hsize:i.size=size) (hby:i.bytes=bytes) (hzs:z.cells.size=size) (hsz:0<size) (v:cm) (n:Nat) (xs:bo) (hs:a.eval s=v) (hown:w.ownsRow base e size v n xs)
 (xv:cm) (m:Nat) (news:bo) (hx:a.eval x=xv) (hl:news.length=m*size) (hsrc:gZ w xv m news) (h1:∀u∈news,u.oneCell') (h63:n+m<=maxLen) (hbytes:(n+m)*bytes<=140737488355328) (hbase:base<=w.heap.size)
 (h:∀v' w',w'.ownsRow base e size v' (n+m) (xs++news)->Gr w v w' v'->(v' =.n0 ↔ v =.n0/\m=0)->K (a.put o.dst v') w'):o.wp prog a w K Q:=by
 have⟨v',w',f,b,c,d⟩:=U9 w base t o.type e i z size bytes ht hi hz hsize hby hzs hsz v n xs hown xv m news hl hsrc h1 h63 hbytes hbase;unfold Oper.wp execOp;simp only[ho,resolve,invoke,builtin,qc1,je3,Result.andThen_ok,List.map_toArray,qb2,qg6,hs,hx,f];exact h v' w' b c d
def ed{b:List Oper}{a:Act}(c:o.guard=none)(s x:Operand)(t:TypeId)
 (ho:o.op =.call { callee:=.builtin .append,args:=#[s,x],argTypes:=#[t,t] })
 (base:Nat) (e:TypeId) {size bytes:Nat} (ht:prog.underlying t=some (.slice e)) (hinf:(prog.info? e).map (λi=>(i.zero,i.size,i.bytes))=some (some z,size,bytes))
 (hzs:z.cells.size=size) (hsz:0<size) (v:cm) (n:Nat) (xs:bo) (hs:a.eval s=v) (hown:w.ownsRow base e size v n xs)
 (xv:cm) (m:Nat) (news:bo) (hx:a.eval x=xv) (hl:news.length=m*size) (hsrc:gZ w xv m news) (h1:∀u∈news,u.oneCell') (h63:n+m<=maxLen) (hbytes:(n+m)*bytes<=140737488355328) (hbase:base<=w.heap.size)
 (h:∀v' w',w'.ownsRow base e size v' (n+m) (xs++news)->Gr w v w' v'->(v' =.n0 ↔ v =.n0/\m=0)->wpList prog ops Q b (a.put o.dst v') w'):wpList prog ops Q (o::b) a w:=by
 have⟨q,p,d,f,g⟩:=jg1 hinf;exact wpList_plain c λ_ hK=>Sl s x t ho base e q z size bytes ht p d f g hzs hsz v n xs hs hown xv m news hx hl hsrc h1 h63 hbytes hbase λv' w' j k l=>hK _ _ (h v' w' j k l)
def yx{a:Act}{E:Prop}(b:o.guard=none)(s x:Operand)(t:TypeId)
 (ho:o.op =.call { callee:=.builtin .append,args:=#[s,x],argTypes:=#[t,t] })
 (base:Nat) (e:TypeId) {size bytes:Nat} (ht:prog.underlying t=some (.slice e)) (hinf:(prog.info? e).map (λi=>(i.zero,i.size,i.bytes))=some (some z,size,bytes))
 (hzs:z.cells.size=size) (hsz:0<size) (v:cm) (n:Nat) (xs:bo) (hs:a.eval s=v) (hown:w.ownsRow base e size v n xs)
 (xv:cm) (m:Nat) (news:bo) (hx:a.eval x=xv) (hl:news.length=m*size) (hsrc:gZ w xv m news) (h1:∀u∈news,u.oneCell') (h63:n+m<=maxLen) (hbytes:(n+m)*bytes<=140737488355328) (hbase:base<=w.heap.size)
 (h:∀v' w',w'.ownsRow base e size v' (n+m) (xs++news)->Gr w v w' v'->(v' =.n0 ↔ v =.n0/\m=0)->K (a.put o.dst v') w') :
 if Region.wanted o (yielded ops a.tmps)then Oper.wp prog o a w K Q else E:=by
 have j:Region.wanted o (yielded ops a.tmps):=by simp[Region.wanted,b]
 rw[if_pos j];have⟨k,g,c,d,f⟩:=jg1 hinf;exact Sl s x t ho base e k z size bytes ht g c d f hzs hsz v n xs hs hown xv m news hx hl hsrc h1 h63 hbytes hbase h
def BO{size n:Nat}(h:w.ownsRow base e size v n xs)(a:v ≠ .n0):∃g cap,v =.o g n cap/\base<=g/\g<w.heap.size:=by
 rcases h.2 with⟨rfl,_⟩|⟨g,cap,b,rfl,c,d,_⟩
 .exact absurd rfl a
 .exact⟨g,cap,rfl,c,(kj.1 d).1⟩
def Fe{size n:Nat}(h:w.ownsRow base e size v n xs):gZ w v n xs:=by
 rcases h.2 with⟨rfl,rfl⟩|⟨g,a,b,rfl,c,d,_⟩
 .exact .inl ⟨0,rfl,rfl,jx (by simpa using h.1)⟩
 .exact .inr ⟨_,_,rfl,qd4 h (g:=g) rfl⟩
def dC{x:Nat}{cs ds:Array cm}(c:w.heap[x]?=some (.cells cs T (0,0)))(a:w.heap[y]?=some (.cells ds U (0,0)))(h:T≠U):x≠y:=by intro e;subst e;rw[c]at a;injection a with a;injection a with d b;exact h b
def aD{size n:Nat}(h:w.ownsRow B e size v n xs){ds:Array cm}(f:w.heap[y]?=some (.cells ds U (0,0)))(c:e≠U):some y≠v.ownBlock:=by
 rcases h.2 with⟨rfl,_⟩|⟨g,a,b,rfl,_,d,_⟩
 .simp[Value.ownBlock]
 .have:=dC d f c;simp[Value.ownBlock];omega
def dX{c:cg}{b n:Nat}(h:cq c w none)(f:w.ownsRow B e b v n xs)(j:c.heap.size<=B)(a:cq w w' v.ownBlock):cq c w' none :=
 ⟨a.os.trans h.os,a.tape.trans h.tape,a.output.trans h.output,xo h.size a.size,λi d g=>(a.block i (kh d h.size) (λe=>by have:=(qb5 f i e.symm).1;omega)).trans (h.block i d g)⟩
namespace Halves
set_option maxRecDepth 100000
set_option maxHeartbeats 4000000
def low{a:Nat}(h:a<18446744073709551616):bits .and .u64 (a:Int) 4294967295=((a % 4294967296:Nat):Int):=by have e:=bits_and_u64_nat a 4294967295 h od;rw[show a &&& 4294967295=a % 4294967296 from jg6 a 32]at e;exact e
def high(a:Nat):(a:Int) / 4294967296=((a / 4294967296:Nat):Int):=od
def prod(a b:Nat):(a:Int)*(b:Int)=((a*b:Nat):Int):=(Int.natCast_mul a b).symm
def sum(a b:Nat):(a:Int)+(b:Int)=((a+b:Nat):Int):=(je1 a b).symm
def stays{a:Nat}(h:a<18446744073709551616):IntKind.u64.wrap (a:Int)=(a:Int):=by rw[IntKind.wrap_u64];omega
def turns(a:Nat):IntKind.u64.wrap (a:Int)=((a % 18446744073709551616:Nat):Int):=by rw[IntKind.wrap_u64];omega
end Halves
def DX(x y:Nat)(f:x<18446744073709551616)(g:y<18446744073709551616)(w:cg) :
 Calls prog 93 #[.int .u64 x,.int .u64 y] w λe w'=>e =.returned (.tuple #[.int .u64 ((x*y / 18446744073709551616:Nat):Int),.int .u64 ((x*y % 18446744073709551616:Nat):Int)])/\w'=w:=by
 have⟨i,d,j,c⟩:=Lib.mul64_hi x y f g;have p:=Lib.half_mul_le (a:=x / 4294967296) (b:=y / 4294967296) od od;have p2:=Lib.half_mul_le (a:=x / 4294967296) (b:=y % 4294967296) od od;have q:=Lib.half_mul_le (a:=x % 4294967296) (b:=y / 4294967296) od od;have k:x / 4294967296*(y / 4294967296)<18446744073709551616:=od
 have l:x / 4294967296*(y % 4294967296)<18446744073709551616:=od
 have m:x % 4294967296*(y / 4294967296)<18446744073709551616:=od
 have n:x / 4294967296*(y / 4294967296)+(x / 4294967296*(y % 4294967296)+x % 4294967296*(y % 4294967296) / 4294967296) / 4294967296<18446744073709551616:=od
 have o:x / 4294967296*(y / 4294967296)+(x / 4294967296*(y % 4294967296)+x % 4294967296*(y % 4294967296) / 4294967296) / 4294967296+((x / 4294967296*(y % 4294967296)+x % 4294967296*(y % 4294967296) / 4294967296) % 4294967296+x % 4294967296*(y / 4294967296)) / 4294967296<18446744073709551616:=od
 have h:Hid (_=_):=c;clear c;go_enter func93,ntmps93
 go_wp2
 simp only[Halves.low f,Halves.low g,Halves.high,Halves.prod,Halves.sum,Halves.stays i,Halves.stays l,Halves.stays d,Halves.low d,Halves.stays m,Halves.stays j,Halves.stays k,Halves.stays n,Halves.stays o,Halves.turns (x*y)];rw[h.out];go_ret2;exact⟨rfl,rfl⟩
def P6(n:Nat)(hn:n<1000000)(w:cg) :
 Calls prog 76 #[.int .u64 1,.int .u64 n] w λe w'=>e =.returned (.tuple #[.int .u64 0,.int .u64 n])/\w'=w:=by
 have h:=DX 1 n od od;have a:1*n / 18446744073709551616=0:=od
 have b:1*n % 18446744073709551616=n:=od
 rw[a,b]at h;have H:=jh h;clear h a b;go_enter func76,ntmps76;go_wp2_with fail;refine (H _).mono ?_;rintro e w' ⟨rfl,rfl⟩;go_wp2_with fail;go_ret2;exact⟨rfl,rfl⟩
end Go.Proofs.YtnamdihclpbdfabGreat
namespace Go.Proofs.YtnamdihclpbdfabGreat
set_option linter.all false
open Go.Proofs.Tryz
set_option maxRecDepth 100000
set_option maxHeartbeats 4000000
open Go.ChangeShapes Go.WideShapes Go.ChangeAt Go.RowKit
variable {vs:bo}{u:cm}{w:cg}
def Om(w:cg)(k n ty elem:TypeId)(i:TypeInfo)(m:prog.underlying k=some (.slice elem))(hi:prog.info? elem=some i)(g o b d:Nat)(f:Addr)(c e:Nat)(a:Array cm)(t:TypeId)(cs:bo)
 (hg:w.heap[g]?=some (.cells a t (0,0))) (hn:cs.length=Nat.min c b*i.size) (hsrc:∀j v,cs[j]?=some v->w.cell? (f.add j)=some v) (hfit:o+cs.length<=a.size) (h1:∀v∈cs,v.oneCell') :
 (Builtin.copy_ #[k,n] ty #[.slice (some ⟨g,o,none⟩) b d,.slice (some f) c e]).run prog w =
  .ok (goInt (Nat.min c b)) (w.setRow g (a.toList.take o++cs++a.toList.drop (o+cs.length)).toArray):=by
 have l:=run_loadCells_list (P:=prog) w f cs hsrc;have h:=run_storeCells_at prog g o t cs 0 a w hg (by simpa using hfit) h1;simp[Builtin.copy_,qa7 m,Builtin.lenOf,Builtin.firstCells,sizeOf,typeInfo,hi,<-hn,l,h]
def tN (w:cg) (g n m:Nat) (u0 u1:cm):Prop:=∃cur:Array cm,w.heap[g]?=some (.cells cur 25 (0,0))/\cur.size=n*2/\m<=n/\∀j,j<m->cur[j*2]?=some u0/\cur[j*2+1]?=some u1
def GK:(prog.info? 25).map (λi=>(i.zero,i.size,i.bytes))=some (some (.agg #[.i 0,.n0]),2,32):=oA
def Ic{g n m:Nat}{u0 u1:cm}(h:tN w g n m u0 u1)(S:u0.oneCell')(T:u1.oneCell')(k:Nat)(r:Addr)(c I z s:Nat)(hk:k=Nat.min z s)(l:m+k<=n)
 (hsrc:∀j,j<k->w.cell? (r.add (j*2))=some u0/\w.cell? (r.add (j*2+1))=some u1) :
 ∃w2,(∀ty,(Builtin.copy_ #[23,23] ty #[.slice (some ⟨g,m*2,none⟩) s c,.slice (some r) z I]).run prog w =.ok (.i (k:Nat)) w2)/\tN w2 g n (m+k) u0 u1/\cq w w2 (some g):=by
 have⟨a,C,x,N,L⟩:=h;have⟨R,M,P,y,Q⟩:=jg1 GK
 let cs:bo:=(List.range (k*2)).map λj=>if j % 2=0 then u0 else u1
 have b:cs.length=k*2:=by simp[cs]
 have d:∀j v,cs[j]?=some v->j<k*2/\v=if j % 2=0 then u0 else u1:=by
  intro j v e;have f:j<k*2:=by rw[<-b];exact (qS.1 e).1
  refine⟨f,?_⟩;simp[cs,f]at e;exact e.symm
 have O:∀ty,_:=λty=>Om w 23 23 ty 25 R underlying23 M g (m*2) s c r z I a 25 cs C (by rw[b,y,hk]) (by
  intro j v e;obtain⟨f,rfl⟩:=d j v e;have⟨G,H⟩:=hsrc (j / 2) od
  by_cases o:j % 2=0
  .rw[if_pos o];rw[show j / 2*2=j from by omega]at G;exact G
  .rw[if_neg o];rw[show j / 2*2+1=j from by omega]at H;exact H) (by rw[b,x];omega) (by
  intro v e;obtain⟨j,f,rfl⟩:=qc3 e;have⟨_,K⟩:=d j _ (qt f);rw[K];split<;>assumption)
 refine⟨w.setRow g (a.toList.take (m*2)++cs++a.toList.drop (m*2+cs.length)).toArray,λty=>?_,⟨_,setRow_heap w g a _ _ _ C,?_,l,λj f=>?_⟩,?_⟩
 .rw[O ty,<-hk];rfl
 .simp[b];omega
 .have p:∀q,q<(m+k)*2->(a.toList.take (m*2)++cs++a.toList.drop (m*2+cs.length)).toArray[q]?=some (if q % 2=0 then u0 else u1):=by
   intro q D;rw[List.getElem?_toArray,qa6]
   by_cases J:q<m*2
   .rw[kO ot,qe3,if_pos J,qg3];have⟨A,B⟩:=L (q / 2) od
    by_cases o:q % 2=0
    .rw[if_pos o];rw[show q / 2*2=q from by omega]at A;exact A
    .rw[if_neg o];rw[show q / 2*2+1=q from by omega]at B;exact B
   .have t:(a.toList.take (m*2)).length=m*2:=by simp;omega
    rw[zE od,t,kO od];have u:q - m*2<k*2:=od
    simp only[cs,qa5,List.getElem?_range u,qf4];rw[show (q - m*2) % 2=q % 2 from by omega]
  have E:=p (j*2) od;have F:=p (j*2+1) od;rw[oc]at E;rw[oa]at F;exact⟨E,F⟩
 .exact⟨rfl,rfl,rfl,by simp[World.setRow],λq _ D=>setRow_other w g q _ (by simpa using D)⟩
def Rw(t:Int)(a:bj)(l c:Nat)(b o n Y:Nat)(hn:n<1000)(W:cg)(N:W.cell? ⟨b,o,none⟩=some (.i t))(Z:W.cell? ⟨b,o+1,none⟩=some (.slice a l c)) :
 Calls prog 53 #[.slice (some ⟨b,o,none⟩) 1 Y,.i n] W λe w'=>∃g,e =.returned (.o g n n)/\W.heap.size<=g/\tN w' g n n (.i t) (.slice a l c)/\cq W w' none:=by
 have HM:=jh (P6 n od);have⟨i0,hi,G,H,I⟩:=jg1 GK;have u:=run_make (P:=prog) W 23 25 i0 _ underlying23 hi G .i64 .i64 n n od (qd2 _) (by rw[I];omega) od;simp only[jg0,H]at u;have y:(madeCells (Value.agg #[.i 0,.n0]).cells (n*2)).size=n*2:=size_madeCells _ _;generalize madeCells (Value.agg #[.i 0,.n0]).cells (n*2)=M at *;have z:tN (W.alloc (.cells M 25)) W.heap.size n 0 (.i t) (.slice a l c):=⟨M,xF _ _,y,yb _,λj O=>od⟩;have B:b<W.heap.size:=qc0 W _ N;have⟨w2,s,r,C⟩:=Ic z rfl rfl (Nat.min 1 n) ⟨b,o,none⟩ n Y 1 n rfl (by rw[qb4];exact Nat.min_le_right _ _) (λj O=>by
  obtain rfl:j=0:=by have : Nat.min 1 n<=1:=Nat.min_le_left _ _;omega
  have L:(W.alloc (.cells M 25)).cell? ⟨b,o,none⟩=some (.i t):=(kd (ka4 (w:=W) (o:=_) (h:=B))).trans N;have e2:(W.alloc (.cells M 25)).cell? ⟨b,o+1,none⟩=some (.slice a l c):=(kd (ka4 (w:=W) (o:=_) (h:=B))).trans Z;have f:∀x,(⟨b,o,none⟩:Addr).add x=⟨b,o+x,none⟩:=λx=>ZS
  rw[f,f];exact⟨L,e2⟩)
 have D:cq W w2 none:=aG (aK _) C (jn _);rw[jh2]at s;rw[qb4]at r;have q:=jh r;have p:=jh D;clear N Z z r C D y G H I hi;go_enter func53,ntmps53;go_wp2_with fail;refine (HM _).mono ?_;rintro e v ⟨rfl,rfl⟩;go_wp2_with fail;go_loopw [8] (λV wr=>∃m:Nat,V =.i m/\m<=n/\(m=n\/1<=m)/\tN wr v.heap.size n m (.i t) (.slice a l c)/\cq v wr none) (λV _=>n - (intOf V).toNat)
 case atStart =>
  refine⟨Nat.min 1 n,?_,Nat.min_le_right _ _,?_,q,p⟩
  .first|rfl|simp
  .by_cases h:n=0
   .left;subst h;rfl
   .right;exact Nat.le_min.2 ⟨jn _,od⟩
 case round =>
  obtain⟨m,rfl,U,aj,d,k⟩:=hrel
  by_cases ah:m<n
  .have S:1<=m:=by omega
   have hk:m+Nat.min m (n - m)<=n:=by have : Nat.min m (n - m)<=n - m:=Nat.min_le_right _ _;omega
   have ae:1<=Nat.min m (n - m):=Nat.le_min.2 ⟨S,od⟩;have⟨w3,ad,A,E⟩:=Ic (w:=wr.drew) d rfl rfl (Nat.min m (n - m)) ⟨v.heap.size,0,none⟩ (n - m) n m (n - m) rfl hk (λj O=>by
    have⟨ab,q1,q2,q3,q4⟩:=d;have Q:j<m:=kh O (Nat.min_le_left _ _);have⟨e0,L⟩:=q4 j Q;have f:∀x,(⟨v.heap.size,0,none⟩:Addr).add x=⟨v.heap.size,x,none⟩:=λx=>ZS
    rw[f,f];constructor
    .show wr.cell? _=_;simp[World.cell?,q1,e0]
    .show wr.cell? _=_;simp[World.cell?,q1,L])
   have F:(m:Int)<(n:Int):=od
   have ak:¬n - m=0:=od
   generalize R:Nat.min m (n - m)=X at *;have K:=jh A;have J:=jh (aG (kY k) E (jn _));clear A E d k R u s q p HM;have an:IntKind.i64.wrap ((m:Int)+(X:Int))=(m:Int)+(X:Int):=vf
   have aa:m<=n:=U;go_wp2_with fail;go_region_held3 (λ_=>True) (first|trivial) (fail)
   all_goals
    go_wp2_with fail;refine⟨⟨m+X,by first|rfl|simp,hk,.inr od,K,J⟩,?_⟩;simp[intOf];omega
  .have T:m=n:=by omega
   subst T;have F:¬(m:Int)<(m:Int):=od
   have HR:=jh d;have HG:=jh k;clear d k u s q p HM;go_wp2;go_ret;exact⟨_,rfl,jn _,HR,HG⟩
def JD:(prog.info? 51).map (λi=>(i.zero,i.size,i.bytes))=some (some (.agg #[.i 0,.i 0,.i 0,.string ⟨#[]⟩,.n0]),5,64):=oA
def nodeCells:cm->bo
 | .agg xs=>xs.toList
 | _=>[]
def flat (vs:bo):bo:=vs.flatMap nodeCells
def lh (B:Nat) (w:cg) (v:cm) (vs:bo):Prop:=w.ownsRow B 51 5 v vs.length (flat vs)
def bV(a b:bo):flat (a++b)=flat a++flat b:=by simp[flat]
structure kQ (H:Nat) (w:cg) (v:cm) (ts:aE) (vs:bo):Prop where
 own:lh H w v vs
 len:vs.length=ts.length
 lies:∀(i:Nat) (t:Tr) (u:cm),ts[i]?=some t->vs[i]?=some u->bI (λb=>H<=b/\some b≠v.ownBlock) w t u
def flat_get:∀(vs:bo),(∀u∈vs,(nodeCells u).length=5)->∀(i j:Nat) (u:cm),vs[i]?=some u->j<5->(flat vs)[i*5+j]?=(nodeCells u)[j]?
 | [],_,i,j,u,h,_=>by simp at h
 | x::vs,a,0,j,u,h,b=>by simp at h;subst h;have:=a x oe;simp only[flat,qd0];rw[kO od];simp
 | x::vs,a,i+1,j,u,h,b=>by have c:=a x oe;have:=flat_get vs (λu d=>a u (by simp[d])) i j u (by simpa using h) b;simp only[flat,qd0]at this|-;rw[zE od,c,show (i+1)*5+j - 5=i*5+j from by omega];exact this
def bI.af{ok:br}{t:Tr}(h:bI ok w t u):∃k n p s a l c,u=af k n p s a l c:=by cases h;exact⟨_,_,_,_,_,_,_,rfl⟩
def kQ.done{H:Nat}{v:cm}{ts:aE}(h:kQ H w v ts vs) :
 ∃(a:bj) (c:Nat) (V:bt),v =.slice a ts.length c/\(∀i,i<ts.length->ky (H <= ·) w a i (V i))/\(∀i (hi:i<ts.length),bI (H <= ·) w ts[i] (V i)):=by
 have J:=h.len;have f:∀i (hi:i<ts.length),∃u,vs[i]?=some u/\bI (H <= ·) w ts[i] u:=by
  intro i hi;have B:i<vs.length:=od
  exact⟨vs[i],qt B,(h.lies i ts[i] vs[i] (qt hi) (qt B)).ae (λb _ E=>E.1)⟩
 have D:∀u∈vs,(nodeCells u).length=5:=by intro u L;obtain⟨i,hi,rfl⟩:=qc3 L;have⟨u,e,m⟩:=f i od;rw[qt hi]at e;simp at e;have⟨k,n,p,s,a,l,c,q⟩:=m.af;rw[e,q];rfl
 have z:=h.own;unfold lh at z;rcases z.2 with⟨rfl,h0⟩|⟨g,r,C,rfl,y,N,K,F,G,A⟩
 .have t:ts.length=0:=by omega
  exact⟨none,0,λ_=>.i 0,by rw[t],λi hi=>od,λi hi=>od⟩
 .refine⟨some ⟨g,0,none⟩,r,λi=>(vs[i]?).getD (.i 0),by rw[J],λi hi=>?_,λi hi=>?_⟩
  .have⟨u,e,m⟩:=f i hi;have⟨k,n,p,s,a,l,c,q⟩:=m.af;have d:∀j x,j<5->(nodeCells u)[j]?=some x->w.cell? ⟨g,i*5+j,none⟩=some x:=by
    intro j x I M;have:=qd4 z (g:=g) rfl (i*5+j) x (by rw[flat_get vs D i j u e I];exact M);have o:(⟨g,0,none⟩:Addr).add (i*5+j)=⟨g,i*5+j,none⟩:=ZS
    rwa [o]at this
   rw[q]at d;refine⟨g,0,rfl,y,k,n,p,s,a,l,c,by show (vs[i]?).getD _=_;rw[e];exact q,?_,?_,?_,?_,?_⟩
   .have:=d 0 _ od rfl;simpa using this
   .have:=d 1 _ od rfl;simpa using this
   .have:=d 2 _ od rfl;simpa using this
   .have:=d 3 _ od rfl;simpa using this
   .have:=d 4 _ od rfl;simpa using this
  .have⟨u,e,m⟩:=f i hi;show bI _ _ _ ((vs[i]?).getD _);rw[e];exact m
def jH (t:Int):Bool:=decide (1<=t/\t<=15)
def bT (t:Int):Int:=if t=9\/t=10\/t=15 then 1 else if t=11\/t=12\/t=13\/t=14 then 2 else 0
mutual
def j5 (d:Nat):Ty->Bool
 | .nd t args=>decide (d<=24)&&(jH t&&decide ((args.length:Int)=bT t))&&ig (d+1) args
def ig (d:Nat):aw->Bool
 | []=>true
 | t::ts=>j5 d t&&ig d ts
end
mutual
def sW (inn f:Int->Bool):Ty->Bool
 | .nd t args=>f t&&(!inn t||ow inn f args)
def ow (inn f:Int->Bool):aw->Bool
 | []=>true
 | t::ts=>sW inn f t&&ow inn f ts
end
def Qd (t:Int):Bool:=decide (1<=t/\t<=15/\t≠8/\t≠10/\t≠13/\t≠14/\t≠15)
def LU (t:Int):Bool:=decide (t≠8/\t≠14/\t≠15)
def Qe (t:Int):Bool:=decide (t≠15/\t≠8)
def Kz (t:Int):Bool:=decide (t≠8)
def Bq (_:Int):Bool:=true
def Ap (t:Int):Bool:=decide (t≠14)
def oF (t:Ty):Bool:=sW Bq Qd t
def eB (t:Ty):Bool:=sW Bq LU t
def A7 (t:Ty):Bool:=sW Ap Qe t
def storeT (t:Ty):Bool:=sW Ap Kz t
def headComp:aw->Bool
 | []=>true
 | t::_=>oF t
def uZ (t:Int) (args:aw):Bool:=!decide (t=13\/t=15)||headComp args
mutual
def keyedF:Ty->Bool
 | .nd t args=>uZ t args&&keyedFs args
def keyedFs:aw->Bool
 | []=>true
 | t::ts=>keyedF t&&keyedFs ts
end
def au (t:Ty):Bool:=j5 1 t&&decide (t.size<=300)&&keyedF t
def jT(d:Nat)(l:aw):ig d l=l.all (j5 d):=by
 induction l with
 | nil=>rfl
 | cons t b a=>simp[ig,a]
def yL(inn f:Int->Bool)(l:aw):ow inn f l=l.all (sW inn f):=by
 induction l with
 | nil=>rfl
 | cons t b a=>simp[ow,a]
def uu(l:aw):keyedFs l=l.all keyedF:=by
 induction l with
 | nil=>rfl
 | cons t b a=>simp[keyedFs,a]
def Mk (kf:Nat) (f:Int->Bool):Prop:=∀(x:Int) (w:cg),Calls prog kf #[.i x] w λe w'=>e =.returned (.bool (f x))/\w'=w
def formedAt (d m:Nat) (T:Ty):Bool:=j5 d T&&decide (m+T.size<=300)
def fb (d m:Nat) (args:aw) (i:Nat):Bool:=match args[i]? with
 | some x=>formedAt d (m+tysizes (args.take i)) x
 | none=>true
def mM{α:Type}(R:Nat->α->Prop):∃μ:α->Nat,∀x n,R n x->R (μ x) x/\μ x<=n:=by
 have h:∀x,∃m,∀n,R n x->R m x/\m<=n:=by
  intro x;have c:∀n,R n x->∃m,R m x/\∀k,R k x->m<=k:=by
   intro n
   induction n using Nat.strongRecOn with
   | _ n i =>
    intro a
    by_cases h:∃k,k<n/\R k x
    .have⟨k,hk,g⟩:=h;exact i k hk g
    .exact⟨n,a,λk hk=>Nat.le_of_not_lt λb=>h ⟨k,b,hk⟩⟩
  by_cases d:∃n,R n x
  .have⟨n,a⟩:=d;have⟨m,e,f⟩:=c n a;exact⟨m,λk hk=>⟨e,f k hk⟩⟩
  .exact⟨0,λn a=>absurd ⟨n,a⟩ d⟩
 exact⟨λx=>Classical.choose (h x),λx=>Classical.choose_spec (h x)⟩
def Av{B:Nat}{e:TypeId}{g cap n:Nat}(h:w.ownsRow B e 1 (.o g (n+1) cap) (n+1) (vs++[u])):w.ownsRow B e 1 (.o g n cap) n vs:=by
 have m:=h.1;simp at m;refine⟨od,?_⟩;rcases h.2 with⟨b,_⟩|⟨o,d,c,b,f,i,p,j,k,l⟩
 .simp at b
 .simp only[ye,qq,jb2,and_true,true_and]at b;obtain⟨rfl,rfl⟩:=b;refine .inr ⟨g,cap,c,rfl,f,i,od,j,k,?_⟩;have a:=congrArg (List.take n) l;rw[jg7]at a;simp only[Nat.mul_one]at a|-;rw[show min n (n+1)=n from by omega]at a;rw[a,jb0 od,ub od]
