import Derived.Test.YtnamdihclpbdfaaGreatKuZ0
namespace Go.Proofs.YtnamdihclpbdfaaGreat.Lf
set_option linter.all false
open Go.Proofs.Tryz
set_option maxRecDepth 100000
set_option maxHeartbeats 4000000
open Go.ChangeShapes Go.WideShapes Go.ChangeAt Go.RowKit
variable {p:Prop}{w:cg}
def Au(s:bp):s.toList=[] ↔ s.size=0:=by rw[jc5];exact (List.length_eq_zero_iff (l:=s.data.toList)).symm.trans (by rw[ja0];rfl)
def kZ{a b:Bool}(h:a=b)(c:p):Ending.returned (.bool a) =.returned (.bool b)/\p:=by rw[h];exact⟨rfl,c⟩
def lX{k:IntKind}{a b:Int}(h:a=b)(c:p):Ending.returned (.int k a) =.returned (.int k b)/\p:=by rw[h];exact⟨rfl,c⟩
def hide(h:p):Hid p:=h
def gb(o:Obj):cq w (w.alloc o) none:=jg6 w o none
def Zt{a b c:cg}(h:cq a b none)(k:cq b c none):cq a c none :=
 ⟨k.os.trans h.os,k.tape.trans h.tape,k.output.trans h.output,xo h.size k.size,λi d _=>(k.block i (kh d h.size) oe).trans (h.block i d oe)⟩
def Qr{w':cg}(h:cq w w' none):∀b o,b<w.heap.size->w'.cell? ⟨b,o,none⟩=w.cell? ⟨b,o,none⟩ :=
 λb o a=>ke (h.block b a oe)
end Go.Proofs.YtnamdihclpbdfaaGreat.Lf
namespace Go.Proofs.YtnamdihclpbdfaaGreat
set_option linter.all false
open Go.Proofs.Tryz
set_option maxRecDepth 100000
set_option maxHeartbeats 4000000
open Go.ChangeShapes Go.WideShapes Go.ChangeAt Go.RowKit
variable {K:Act->cg->Prop}{ops:Array Oper}{Q:Exit->Act->cg->Prop}{xs:bo}{B c g i y:Nat}{ok ok':br}{V:bt}{o:Oper}{p:bj}{r:Option Nat}{T U e:TypeId}{v v1 x0 x1 x2 x3 x4 z:cm}{w w' w1 w2:cg}
def aI{a b:Prop}(x:a)(y:b):a ∧ b:=⟨x,y⟩
def jh{p:Prop}(h:p):Hid p:=h
def ma{a b:cg}(h:cq a b none):cq a b r:=⟨h.os,h.tape,h.output,h.size,λk c _=>h.block k c oe⟩
def bZ{a b c:cg}(h:cq a b r)(k:cq b c r):cq a c r :=
 ⟨k.os.trans h.os,k.tape.trans h.tape,k.output.trans h.output,xo h.size k.size,λi d e=>(k.block i (kh d h.size) e).trans (h.block i d e)⟩
def au(a:cg)(r:Option Nat):cq a a r:=⟨rfl,rfl,rfl,jj _,λ_ _ _=>rfl⟩
def aX{a b:cg}(h:cq a b (some g))(o:Nat)(d:Option Nat)(v:cm):cq a (b.setCell ⟨g,o,d⟩ v) (some g) :=
 bZ h ⟨rfl,rfl,rfl,by simp[World.setCell],λk e c=>Below.heap_setCell _ _ _ _ (by simpa using c)⟩
inductive Tr where
 | nd (k n p:Int) (s:ByteArray) (args:List Tr)
abbrev aE:=List Tr
mutual
def Tr.size:Tr->Nat
 | .nd _ _ _ _ args=>sizes args+1
def sizes:aE->Nat
 | []=>0
 | t::ts=>t.size+sizes ts
end
def sK(a b:aE):sizes (a++b)=sizes a+sizes b:=by
 induction a with
 | nil=>simp[sizes]
 | cons t d c=>simp[sizes,c];omega
def size_pos(t:Tr):1<=t.size:=by cases t;simp[Tr.size]
def gH(l:aE)(i:Nat)(h:i<l.length):sizes (l.take (i+1))=sizes (l.take i)+(l[i]).size:=by rw[jc0 h,sK];simp[sizes]
def jF(l:aE)(i:Nat):sizes (l.take i)<=sizes l:=by have h:=sK (l.take i) (l.drop i);rw[qc6]at h;omega
def cB(l:aE):l.length<=sizes l:=by
 induction l with
 | nil=>simp
 | cons t b a=>have:=size_pos t;simp[sizes];omega
def af (k n p:Int) (s:bp) (a:bj) (l c:Nat):cm:=.agg #[.i k,.i n,.i p,.string s,.slice a l c]
def ky (ok:br) (w:cg) (a:bj) (i:Nat) (v:cm):Prop :=
 ∃b o,a=some ⟨b,o,none⟩/\ok b/\∃k n p s a' l c,v=af k n p s a' l c/\w.cell? ⟨b,o+i*5,none⟩=some (.i k)/\w.cell? ⟨b,o+i*5+1,none⟩=some (.i n) /\
  w.cell? ⟨b,o+i*5+2,none⟩=some (.i p)/\w.cell? ⟨b,o+i*5+3,none⟩=some (.string s)/\w.cell? ⟨b,o+i*5+4,none⟩=some (.slice a' l c)
def bD (n:Int):Prop:=-9223372036854775808<=n/\n<=9223372036854775807
inductive bI (ok:Nat->Prop) (w:World):Tr->Value->Prop
 | mk {k n p:Int} {s:ByteArray} {args:List Tr} {a:Option Addr} {c:Nat} {hk:args.length<=c} (V:Nat->Value) (hl:args.length<=maxLen) (hs:s.size<=maxLen) (ik:bD k) (iN:bD n) (ip:bD p)
  (hc:∀i,i<args.length->ky ok w a i (V i)) (hr:∀i (h:i<args.length),bI ok w args[i] (V i)):bI ok w (.nd k n p s args) (af k n p s a args.length c)
def Same (ok:br) (w w':cg):Prop:=∀b o,ok b->b<w.heap.size->w'.cell? ⟨b,o,none⟩=w.cell? ⟨b,o,none⟩
def Same.below(h:Below B w w1):Same (· < B) w w1:=λb o a _=>h.cell (p:=⟨b,o,none⟩) a
def ky.same{a:bj}(h:ky ok w a i v)(f:Same ok w w'):ky ok w' a i v:=by have⟨b,o,u,e,k,n,p,s,j,l,c,x,g,m,q,r,t⟩:=h;have d:b<w.heap.size:=qb7 w _ g;exact⟨b,o,u,e,k,n,p,s,j,l,c,x,(f _ _ e d).trans g,(f _ _ e d).trans m,(f _ _ e d).trans q,(f _ _ e d).trans r,(f _ _ e d).trans t⟩
def bI.same{t:Tr}(h:bI ok w t v)(e:Same ok w w'):bI ok w' t v:=by
 induction h with
 | mk V d a j f k b _ g=>exact .mk (hk:=by assumption) V d a j f k (λi c=>(b i c).same e) g
def bI.ae{t:Tr}(h:bI ok w t v)(hm:∀b,b<w.heap.size->ok b->ok' b):bI ok' w t v:=by
 induction h with
 | mk V q e y u z j _ x =>
  refine .mk (hk:=by assumption) V q e y u z (λi m=>?_) x;have⟨b,o,f,g,k,n,p,s,a,l,c,r,h0,d⟩:=j i m;exact⟨b,o,f,hm b (qb7 w _ h0) g,k,n,p,s,a,l,c,r,h0,d⟩
def Gr (w:cg) (vb:cm) (w':cg) (v':cm):Prop:=cq w w' vb.ownBlock/\(v'.ownBlock=vb.ownBlock\/∃g,v'.ownBlock=some g/\w.heap.size<=g)
def Gr.refl(w:cg)(v:cm):Gr w v w v:=⟨au _ _,.inl rfl⟩
def Gr.trans{l:cm}(h:Gr w v w1 v1)(k:Gr w1 v1 w2 l):Gr w v w2 l:=by
 have⟨b,a⟩:=h;have⟨d,c⟩:=k;refine⟨⟨d.os.trans b.os,d.tape.trans b.tape,d.output.trans b.output,xo b.size d.size,λi f j=>?_⟩,?_⟩
 .refine (d.block i (kh f b.size) ?_).trans (b.block i f j);rcases a with a|⟨g,a,e⟩
  .rw[a];exact j
  .rw[a];simp;omega
 .rcases c with c|⟨g,c,e⟩
  .rcases a with a|⟨g,a,e⟩
   .exact .inl (c.trans a)
   .exact .inr ⟨g,c.trans a,e⟩
  .exact .inr ⟨g,c,xo b.size e⟩
def Gr.QY(h:Gr w.drew v w1 v1):Gr w v w1 v1:=⟨⟨h.1.os,h.1.tape,h.1.output,h.1.size,h.1.block⟩,h.2⟩
def Gr.alloc(h:Gr w v w1 v1)(o:Obj):Gr w v (w1.alloc o) v1:=h.trans ⟨jg6 _ _ _,.inl rfl⟩
def Gr.block(h:Gr w v w1 v1){k:Nat}(hk:k<w.heap.size)(a:some k≠v.ownBlock):w1.heap[k]?=w.heap[k]?:=h.1.block k hk a
def bE(h:w.heap[g]?=some (.cells #[x0,x1,x2,x3,x4] T (0,0))) :
 w.cell? ⟨g,0,none⟩=some x0/\w.cell? ⟨g,1,none⟩=some x1/\w.cell? ⟨g,2,none⟩=some x2/\w.cell? ⟨g,3,none⟩=some x3/\w.cell? ⟨g,4,none⟩=some x4:=by
 simp[World.cell?,h]
def aG{b:cg}(h:cq w w2 r)(k:cq w2 b (some g))(d:w.heap.size<=g):cq w b r :=
 ⟨k.os.trans h.os,k.tape.trans h.tape,k.output.trans h.output,xo h.size k.size,λi a c=>(k.block i (kh a h.size) ov).trans (h.block i a c)⟩
def QO(w:cg)(o a:Obj):((w.alloc o).alloc a).heap[w.heap.size]?=some o:=by rw[ka4 (h:=by simp)];exact xF _ _
def aK(h:cq w w' r):cq w w'.drew r:=⟨h.os,h.tape,h.output,h.size,h.block⟩
def iW{n:Nat}(h:cq w w' r):cq w (w'.drewN n) r:=⟨h.os,h.tape,h.output,h.size,h.block⟩
def aB{k:Nat}{o x:Obj}(h:w.heap[k]?=some x):(w.alloc o).heap[k]?=some x:=by rw[ka4 (h:=(kj.1 h).1)];exact h
inductive Ty where
 | nd (t:Int) (args:List Ty)
abbrev aw:=List Ty
def Ty.t:Ty->Int
 | .nd t _=>t
def Ty.args:Ty->aw
 | .nd _ l=>l
mutual
def Ty.size:Ty->Nat
 | .nd _ args=>tysizes args+1
def tysizes:aw->Nat
 | []=>0
 | t::ts=>t.size+tysizes ts
end
def Cz(t:Ty):1<=t.size:=by cases t;simp[Ty.size]
def pW(l:aw):l.length<=tysizes l:=by
 induction l with
 | nil=>simp
 | cons t b a=>have:=Cz t;simp[tysizes];omega
def jS{l:aw}{x:Ty}(h:x∈l):x.size<=tysizes l:=by
 induction l with
 | nil=>simp at h
 | cons t b a =>
  simp[tysizes];rcases kl.1 h with rfl|h
  .omega
  .have:=a h;omega
def bY (t:Int) (a:bj) (l c:Nat):cm:=.agg #[.i t,.slice a l c]
def rC (ok:br) (w:cg) (a:bj) (i:Nat) (v:cm):Prop :=
 ∃b o,a=some ⟨b,o,none⟩/\ok b/\∃t a' l c,v=bY t a' l c/\w.cell? ⟨b,o+i*2,none⟩=some (.i t)/\w.cell? ⟨b,o+i*2+1,none⟩=some (.slice a' l c)
inductive aH (ok:Nat->Prop) (w:World):Ty->Value->Prop
 | mk {t:Int} {args:List Ty} {a:Option Addr} {c:Nat} (V:Nat->Value) (hl:args.length<=maxLen) (hlc:args.length<=c) (it:bD t)
  (hc:∀i,i<args.length->rC ok w a i (V i)) (hr:∀i (h:i<args.length),aH ok w args[i] (V i)):aH ok w (.nd t args) (bY t a args.length c)
def dw (ok:br) (w:cg) (ts:aw) (a:bj) (V:bt):Prop :=
 ts.length<=maxLen/\(∀i,i<ts.length->rC ok w a i (V i))/\∀i (h:i<ts.length),aH ok w ts[i] (V i)
def rC.same{a:bj}(h:rC ok w a i v)(g:Same ok w w'):rC ok w' a i v:=by have⟨b,o,m,e,t,j,l,c,n,f,k⟩:=h;have d:b<w.heap.size:=qb7 w _ f;exact⟨b,o,m,e,t,j,l,c,n,(g _ _ e d).trans f,(g _ _ e d).trans k⟩
def rC.ae{a:bj}(h:rC ok w a i v)(hm:∀b,b<w.heap.size->ok b->ok' b):rC ok' w a i v:=by have⟨b,o,g,j,t,e,l,c,k,d,f⟩:=h;exact⟨b,o,g,hm b (qb7 w _ d) j,t,e,l,c,k,d,f⟩
def aH.same{t:Ty}(h:aH ok w t v)(e:Same ok w w'):aH ok w' t v:=by
 induction h with
 | mk V d a g b _ f=>exact .mk V d a g (λi c=>(b i c).same e) f
def aH.ae{t:Ty}(h:aH ok w t v)(hm:∀b,b<w.heap.size->ok b->ok' b):aH ok' w t v:=by
 induction h with
 | mk V e a g c _ f=>exact .mk V e a g (λi d=>(c i d).ae hm) f
def dw.same{ts:aw}{a:bj}(h:dw ok w ts a V)(c:Same ok w w'):dw ok w' ts a V :=
 ⟨h.1,λi b=>(h.2.1 i b).same c,λi b=>(h.2.2 i b).same c⟩
def dw.ae{ts:aw}{a:bj}(h:dw ok w ts a V)(hm:∀b,b<w.heap.size->ok b->ok' b):dw ok' w ts a V :=
 ⟨h.1,λi c=>(h.2.1 i c).ae hm,λi c=>(h.2.2 i c).ae hm⟩
def dw.nil(ok:br)(w:cg)(a:bj)(V:bt):dw ok w [] a V :=
 ⟨by simp[maxLen],λi b=>by simp at b,λi b=>by simp at b⟩
def aH.inv{t:Ty}(h:aH ok w t v):∃a c V,v=bY t.t a t.args.length c/\bD t.t/\dw ok w t.args a V:=by
 cases h with
 | mk V d e g b f=>exact⟨_,_,V,rfl,g,d,b,f⟩
def qP{size n:Nat}(h:w.ownsRow B e size v n xs){a:bj}{l:Nat}(j:v =.slice a l c):l<=c:=by
 subst j;rcases h.2 with⟨b,_⟩|⟨g,d,f,b,_,_,i,_⟩
 .simp only[ye]at b;omega
 .simp only[ye]at b;omega
def aH.of{t:Int}{ts:aw}{a:bj}(d:bD t)(h:dw ok w ts a V)(b:ts.length<=c):aH ok w (.nd t ts) (bY t a ts.length c) :=
 .mk V h.1 b d h.2.1 h.2.2
inductive Va where
 | mk (k n a:Int) (s:ByteArray) (args:List Va) (types:List Ty) (code:List Tr)
abbrev ao:=List Va
def Va.k:Va->Int
 | .mk k _ _ _ _ _ _=>k
def Va.n:Va->Int
 | .mk _ n _ _ _ _ _=>n
def Va.a:Va->Int
 | .mk _ _ a _ _ _ _=>a
def Va.s:Va->bp
 | .mk _ _ _ s _ _ _=>s
def Va.args:Va->ao
 | .mk _ _ _ _ l _ _=>l
def Va.types:Va->aw
 | .mk _ _ _ _ _ t _=>t
def Va.code:Va->aE
 | .mk _ _ _ _ _ _ c=>c
mutual
def Va.size:Va->Nat
 | .mk _ _ _ _ args types code=>vsizes args+tysizes types+sizes code+1
def vsizes:ao->Nat
 | []=>0
 | t::ts=>t.size+vsizes ts
end
def kK(a b:ao):vsizes (a++b)=vsizes a+vsizes b:=by
 induction a with
 | nil=>simp[vsizes]
 | cons t d c=>simp[vsizes,c];omega
def qZ(t:Va):1<=t.size:=by cases t;simp[Va.size]
def eP(v:Va):v.size=vsizes v.args+tysizes v.types+sizes v.code+1:=by cases v;simp[Va.size,Va.args,Va.types,Va.code]
def kS(l:ao):l.length<=vsizes l:=by
 induction l with
 | nil=>simp
 | cons t b a=>have:=qZ t;simp[vsizes];omega
def fO{l:ao}{x:Va}(h:x∈l):x.size<=vsizes l:=by
 induction l with
 | nil=>simp at h
 | cons t b a =>
  simp[vsizes];rcases kl.1 h with rfl|h
  .omega
  .have:=a h;omega
def cK (ok:br) (w:cg) (ts:aE) (a:bj) (V:bt):Prop :=
 ts.length<=maxLen/\(∀i,i<ts.length->ky ok w a i (V i))/\∀i (h:i<ts.length),bI ok w ts[i] (V i)
def ky.ae{a:bj}(h:ky ok w a i v)(hm:∀b,b<w.heap.size->ok b->ok' b):ky ok' w a i v:=by have⟨b,o,g,j,k,n,p,s,e,l,c,m,d,f⟩:=h;exact⟨b,o,g,hm b (qb7 w _ d) j,k,n,p,s,e,l,c,m,d,f⟩
def cK.same{ts:aE}{a:bj}(h:cK ok w ts a V)(c:Same ok w w'):cK ok w' ts a V :=
 ⟨h.1,λi b=>(h.2.1 i b).same c,λi b=>(h.2.2 i b).same c⟩
def cK.ae{ts:aE}{a:bj}(h:cK ok w ts a V)(hm:∀b,b<w.heap.size->ok b->ok' b):cK ok' w ts a V :=
 ⟨h.1,λi c=>(h.2.1 i c).ae hm,λi c=>(h.2.2 i c).ae hm⟩
def cK.nil(ok:br)(w:cg)(a:bj)(V:bt):cK ok w [] a V :=
 ⟨by simp[maxLen],λi b=>by simp at b,λi b=>by simp at b⟩
def bg (k n a:Int) (s:bp) (aa:bj) (al ac:Nat) (ta:bj) (tl tc:Nat) (na:bj) (nl nc:Nat):cm :=
 .agg #[.i k,.i n,.i a,.string s,.slice aa al ac,.slice ta tl tc,.slice na nl nc]
def AX (ok:br) (w:cg) (p:bj) (i:Nat) (v:cm):Prop :=
 ∃b o,p=some ⟨b,o,none⟩/\ok b/\∃k n a s aa al ac ta tl tc na nl nc,v=bg k n a s aa al ac ta tl tc na nl nc/\w.cell? ⟨b,o+i*7,none⟩=some (.i k)/\w.cell? ⟨b,o+i*7+1,none⟩=some (.i n) /\
  w.cell? ⟨b,o+i*7+2,none⟩=some (.i a)/\w.cell? ⟨b,o+i*7+3,none⟩=some (.string s)/\w.cell? ⟨b,o+i*7+4,none⟩=some (.slice aa al ac)/\w.cell? ⟨b,o+i*7+5,none⟩=some (.slice ta tl tc)/\w.cell? ⟨b,o+i*7+6,none⟩=some (.slice na nl nc)
inductive aA (ok:Nat->Prop) (w:World):Va->Value->Prop
 | mk {k n a:Int} {s:ByteArray} {args:List Va} {types:List Ty} {code:List Tr} {aa ta na:Option Addr} {ac tc nc:Nat} {hnk:code.length<=nc/\types.length<=tc} (V VT VN:Nat->Value) (hl:args.length<=maxLen) (hlc:args.length<=ac) (hs:s.size<=maxLen) (ik:bD k) (iN:bD n) (ia:bD a)
  (hT:dw ok w types ta VT) (hN:cK ok w code na VN)
  (hc:∀i,i<args.length->AX ok w aa i (V i)) (hr:∀i (h:i<args.length),aA ok w args[i] (V i)):aA ok w (.mk k n a s args types code) (bg k n a s aa args.length ac ta types.length tc na code.length nc)
def aT (ok:br) (w:cg) (ts:ao) (a:bj) (V:bt):Prop :=
 ts.length<=maxLen/\(∀i,i<ts.length->AX ok w a i (V i))/\∀i (h:i<ts.length),aA ok w ts[i] (V i)
def AX.same(h:AX ok w p i v)(e:Same ok w w'):AX ok w' p i v:=by have⟨b,o,x,d,k,n,a,s,g,al,j,C,tl,D,z,B,A,y,f,l,m,q,r,t,u⟩:=h;have c:b<w.heap.size:=qb7 w _ f;exact⟨b,o,x,d,k,n,a,s,g,al,j,C,tl,D,z,B,A,y,(e _ _ d c).trans f,(e _ _ d c).trans l,(e _ _ d c).trans m,(e _ _ d c).trans q,(e _ _ d c).trans r,(e _ _ d c).trans t,(e _ _ d c).trans u⟩
def AX.ae(h:AX ok w p i v)(hm:∀b,b<w.heap.size->ok b->ok' b):AX ok' w p i v:=by have⟨b,o,j,g,k,n,a,s,d,al,e,t,tl,u,m,r,q,l,c,f⟩:=h;exact⟨b,o,j,hm b (qb7 w _ c) g,k,n,a,s,d,al,e,t,tl,u,m,r,q,l,c,f⟩
def aA.same{t:Va}(h:aA ok w t v)(b:Same ok w w'):aA ok w' t v:=by
 induction h with
 | mk V d c l a f p m n g e j _ o=>exact .mk (hnk:=by assumption) V d c l a f p m n (g.same b) (e.same b) (λi k=>(j i k).same b) o
def aA.ae{t:Va}(h:aA ok w t v)(hm:∀b,b<w.heap.size->ok b->ok' b):aA ok' w t v:=by
 induction h with
 | mk V d c l a f p m n g e j _ o=>exact .mk (hnk:=by assumption) V d c l a f p m n (g.ae hm) (e.ae hm) (λi k=>(j i k).ae hm) o
def aT.same{ts:ao}{a:bj}(h:aT ok w ts a V)(c:Same ok w w'):aT ok w' ts a V :=
 ⟨h.1,λi b=>(h.2.1 i b).same c,λi b=>(h.2.2 i b).same c⟩
def aT.ae{ts:ao}{a:bj}(h:aT ok w ts a V)(hm:∀b,b<w.heap.size->ok b->ok' b):aT ok' w ts a V :=
 ⟨h.1,λi c=>(h.2.1 i c).ae hm,λi c=>(h.2.2 i c).ae hm⟩
def aT.nil(ok:br)(w:cg)(a:bj)(V:bt):aT ok w [] a V :=
 ⟨by simp[maxLen],λi b=>by simp at b,λi b=>by simp at b⟩
def aA.inv{x:Va}(h:aA ok w x v):∃c ac ta tc na nc V VT VN,v=bg x.k x.n x.a x.s c x.args.length ac ta x.types.length tc na x.code.length nc/\(bD x.k/\bD x.n/\bD x.a/\x.s.size<=maxLen/\x.args.length<=ac)/\aT ok w x.args c V/\dw ok w x.types ta VT/\cK ok w x.code na VN:=by
 cases h with
 | mk V VT VN g b j o l m e d f i=>exact⟨_,_,_,_,_,_,V,VT,VN,rfl,⟨o,l,m,j,b⟩,⟨g,f,i⟩,e,d⟩
def aA.of{k n a:Int}{s:bp}{args:ao}{types:aw}{code:aE}{c ta na:bj}{d tc nc:Nat}{VT VN:bt}(b:args.length<=d)(e:s.size<=maxLen)(i:bD k)(f:bD n)(g:bD a)
 (h:aT ok w args c V) (hT:dw ok w types ta VT) (hN:cK ok w code na VN) (hnk:code.length<=nc/\types.length<=tc:=by simp):aA ok w (.mk k n a s args types code) (bg k n a s c args.length d ta types.length tc na code.length nc) :=
 .mk (hnk:=hnk) V VT VN h.1 b e i f g hT hN h.2.1 h.2.2
def aA.bg{t:Va}{u:cm}(h:aA ok w t u):∃k n a s b al c ta tl tc na d nc,u=bg k n a s b al c ta tl tc na d nc:=by cases h;exact⟨_,_,_,_,_,_,_,_,_,_,_,_,_,rfl⟩
def cO{a b:cm}(h:w.heap[g]?=some (.cells #[x0,x1,x2,x3,x4,a,b] T (0,0))) :
 w.cell? ⟨g,0,none⟩=some x0/\w.cell? ⟨g,1,none⟩=some x1/\w.cell? ⟨g,2,none⟩=some x2/\w.cell? ⟨g,3,none⟩=some x3/\w.cell? ⟨g,4,none⟩=some x4/\w.cell? ⟨g,5,none⟩=some a/\w.cell? ⟨g,6,none⟩=some b:=by
 simp[World.cell?,h]
def sameAll(h:cq w w' none):Same (λ_=>True) w w':=λb o _ a=>ke (h.block b a oe)
def gZ (w:cg) (xv:cm) (m:Nat) (news:bo):Prop :=
 (∃c,xv =.slice none 0 c/\m=0/\news=[])\/∃ad c,xv =.slice (some ad) m c/\∀j u,news[j]?=some u->w.cell? (ad.add j)=some u
def gZ.new(w:cg)(e:TypeId)(cs:Array cm)(m c:Nat):gZ (w.alloc (.cells cs e)) (.o (w.heap.size) m c) m cs.toList :=
 .inr ⟨_,_,rfl,λj u a=>World.news_of_block (w:=w.alloc _) (B:=w.heap.size) (cs:=cs) (xF _ _) j u a⟩
def U9(w:cg)(d:Nat)(t ty e:TypeId)(i:TypeInfo)(z:cm)(a b:Nat)(k:prog.underlying t=some (.slice e))(hi:prog.info? e=some i)(y:i.zero=some z)
 (hsize:i.size=a) (hby:i.bytes=b) (hzs:z.cells.size=a) (hsz:0<a) (v:cm) (n:Nat) (xs:bo) (hown:w.ownsRow d e a v n xs)
 (xv:cm) (m:Nat) (news:bo) (hl:news.length=m*a) (hsrc:gZ w xv m news) (h1:∀u∈news,u.oneCell') (h63:n+m<=maxLen) (hbytes:(n+m)*b<=140737488355328) (hbase:d<=w.heap.size) :
 ∃v' w',(Builtin.append_ #[t,t] ty #[v,xv]).run prog w =.ok v' w'/\w'.ownsRow d e a v' (n+m) (xs++news)/\Gr w v w' v'/\(v' =.n0 ↔ v =.n0/\m=0):=by
 rcases hsrc with⟨c,rfl,rfl,rfl⟩|⟨l,c,rfl,f⟩
 .refine⟨v,w,?_,by simpa using hown,Gr.refl _ _,oe⟩;rcases hown.2 with⟨rfl,rfl⟩|⟨g,o,p,rfl,_,A,j,_⟩
  .simp[Builtin.append_,qa2 k,sizeOf,typeInfo,hi,Builtin.lenOf,Builtin.firstCells]
  .simp[Builtin.append_,qa2 k,sizeOf,typeInfo,hi,Builtin.lenOf,Builtin.firstCells,j,storeCells]
 .have⟨v',w',x,q,r,s,h⟩:=run_append_own_at (P:=prog) w d t ty e i z a b k hi y hsize hby hzs hsz v n xs hown l m c news hl f h1 h63 hbytes hbase;refine⟨v',w',x,q,⟨r,?_⟩,s⟩;rcases h with h|h
  .exact .inl h
  .exact .inr ⟨_,h,jj _⟩
def Sl{a:Act}(s x:Operand)(t:TypeId)
 (ho:o.op =.call { callee:=.builtin .append,args:=#[s,x],argTypes:=#[t,t] })
 (base:Nat) (e:TypeId) (i:TypeInfo) (z:cm) (size bytes:Nat) (ht:prog.underlying t=some (.slice e)) (hi:prog.info? e=some i) (hz:i.zero=some z)
 (hsize:i.size=size) (hby:i.bytes=bytes) (hzs:z.cells.size=size) (hsz:0<size) (v:cm) (n:Nat) (xs:bo) (hs:a.eval s=v) (hown:w.ownsRow base e size v n xs)
 (xv:cm) (m:Nat) (news:bo) (hx:a.eval x=xv) (hl:news.length=m*size) (hsrc:gZ w xv m news) (h1:∀u∈news,u.oneCell') (h63:n+m<=maxLen) (hbytes:(n+m)*bytes<=140737488355328) (hbase:base<=w.heap.size)
 (h:∀v' w',w'.ownsRow base e size v' (n+m) (xs++news)->Gr w v w' v'->(v' =.n0 ↔ v =.n0/\m=0)->K (a.put o.dst v') w'):o.wp prog a w K Q:=by
 have⟨v',w',f,b,c,d⟩:=U9 w base t o.type e i z size bytes ht hi hz hsize hby hzs hsz v n xs hown xv m news hl hsrc h1 h63 hbytes hbase;unfold Oper.wp execOp;simp only[ho,resolve,invoke,builtin,qc2,je3,Result.andThen_ok,List.map_toArray,qc0,qh5,hs,hx,f];exact h v' w' b c d
def ed{b:List Oper}{a:Act}(c:o.guard=none)(s x:Operand)(t:TypeId)
 (ho:o.op =.call { callee:=.builtin .append,args:=#[s,x],argTypes:=#[t,t] })
 (base:Nat) (e:TypeId) {size bytes:Nat} (ht:prog.underlying t=some (.slice e)) (hinf:(prog.info? e).map (λi=>(i.zero,i.size,i.bytes))=some (some z,size,bytes))
 (hzs:z.cells.size=size) (hsz:0<size) (v:cm) (n:Nat) (xs:bo) (hs:a.eval s=v) (hown:w.ownsRow base e size v n xs)
 (xv:cm) (m:Nat) (news:bo) (hx:a.eval x=xv) (hl:news.length=m*size) (hsrc:gZ w xv m news) (h1:∀u∈news,u.oneCell') (h63:n+m<=maxLen) (hbytes:(n+m)*bytes<=140737488355328) (hbase:base<=w.heap.size)
 (h:∀v' w',w'.ownsRow base e size v' (n+m) (xs++news)->Gr w v w' v'->(v' =.n0 ↔ v =.n0/\m=0)->wpList prog ops Q b (a.put o.dst v') w'):wpList prog ops Q (o::b) a w:=by
 have⟨q,p,d,f,g⟩:=jg2 hinf;exact wpList_plain c λ_ hK=>Sl s x t ho base e q z size bytes ht p d f g hzs hsz v n xs hs hown xv m news hx hl hsrc h1 h63 hbytes hbase λv' w' j k l=>hK _ _ (h v' w' j k l)
def yx{a:Act}{E:Prop}(b:o.guard=none)(s x:Operand)(t:TypeId)
 (ho:o.op =.call { callee:=.builtin .append,args:=#[s,x],argTypes:=#[t,t] })
 (base:Nat) (e:TypeId) {size bytes:Nat} (ht:prog.underlying t=some (.slice e)) (hinf:(prog.info? e).map (λi=>(i.zero,i.size,i.bytes))=some (some z,size,bytes))
 (hzs:z.cells.size=size) (hsz:0<size) (v:cm) (n:Nat) (xs:bo) (hs:a.eval s=v) (hown:w.ownsRow base e size v n xs)
 (xv:cm) (m:Nat) (news:bo) (hx:a.eval x=xv) (hl:news.length=m*size) (hsrc:gZ w xv m news) (h1:∀u∈news,u.oneCell') (h63:n+m<=maxLen) (hbytes:(n+m)*bytes<=140737488355328) (hbase:base<=w.heap.size)
 (h:∀v' w',w'.ownsRow base e size v' (n+m) (xs++news)->Gr w v w' v'->(v' =.n0 ↔ v =.n0/\m=0)->K (a.put o.dst v') w') :
 if Region.wanted o (yielded ops a.tmps)then Oper.wp prog o a w K Q else E:=by
 have j:Region.wanted o (yielded ops a.tmps):=by simp[Region.wanted,b]
 rw[if_pos j];have⟨k,g,c,d,f⟩:=jg2 hinf;exact Sl s x t ho base e k z size bytes ht g c d f hzs hsz v n xs hs hown xv m news hx hl hsrc h1 h63 hbytes hbase h
def BO{a:Nat}{size n:Nat}(h:w.ownsRow a e size v n xs)(b:v ≠ .n0):∃g cap,v =.o g n cap/\a<=g/\g<w.heap.size:=by
 rcases h.2 with⟨rfl,_⟩|⟨g,cap,c,rfl,d,f,_⟩
 .exact absurd rfl b
 .exact⟨g,cap,rfl,d,(kj.1 f).1⟩
def Fe{a:Nat}{size n:Nat}(h:w.ownsRow a e size v n xs):gZ w v n xs:=by
 rcases h.2 with⟨rfl,rfl⟩|⟨g,b,c,rfl,d,f,_⟩
 .exact .inl ⟨0,rfl,rfl,jz (by simpa using h.1)⟩
 .exact .inr ⟨_,_,rfl,qd7 h (g:=g) rfl⟩
def dC{x:Nat}{cs ds:Array cm}(c:w.heap[x]?=some (.cells cs T (0,0)))(a:w.heap[y]?=some (.cells ds U (0,0)))(h:T≠U):x≠y:=by intro e;subst e;rw[c]at a;injection a with a;injection a with d b;exact h b
def aD{size n:Nat}(h:w.ownsRow B e size v n xs){ds:Array cm}(f:w.heap[y]?=some (.cells ds U (0,0)))(c:e≠U):some y≠v.ownBlock:=by
 rcases h.2 with⟨rfl,_⟩|⟨g,a,b,rfl,_,d,_⟩
 .simp[Value.ownBlock]
 .have:=dC d f c;simp[Value.ownBlock];omega
def dX{c:cg}{b n:Nat}(h:cq c w none)(f:w.ownsRow B e b v n xs)(j:c.heap.size<=B)(a:cq w w' v.ownBlock):cq c w' none :=
 ⟨a.os.trans h.os,a.tape.trans h.tape,a.output.trans h.output,xo h.size a.size,λi d g=>(a.block i (kh d h.size) (λe=>by have:=(qb5 f i e.symm).1;omega)).trans (h.block i d g)⟩
namespace Halves
set_option maxRecDepth 100000
set_option maxHeartbeats 4000000
def low{a:Nat}(h:a<18446744073709551616):bits .and .u64 (a:Int) 4294967295=((a % 4294967296:Nat):Int):=by have e:=bits_and_u64_nat a 4294967295 h od;rw[show a &&& 4294967295=a % 4294967296 from jg7 a 32]at e;exact e
def high(a:Nat):(a:Int) / 4294967296=((a / 4294967296:Nat):Int):=od
def prod(a b:Nat):(a:Int)*(b:Int)=((a*b:Nat):Int):=(Int.natCast_mul a b).symm
def sum(a b:Nat):(a:Int)+(b:Int)=((a+b:Nat):Int):=(jd0 a b).symm
def stays{a:Nat}(h:a<18446744073709551616):IntKind.u64.wrap (a:Int)=(a:Int):=by rw[IntKind.wrap_u64];omega
def turns(a:Nat):IntKind.u64.wrap (a:Int)=((a % 18446744073709551616:Nat):Int):=by rw[IntKind.wrap_u64];omega
end Halves
def DX(x y:Nat)(f:x<18446744073709551616)(g:y<18446744073709551616)(w:cg) :
 Calls prog 138 #[.int .u64 x,.int .u64 y] w λe w'=>e =.returned (.tuple #[.int .u64 ((x*y / 18446744073709551616:Nat):Int),.int .u64 ((x*y % 18446744073709551616:Nat):Int)])/\w'=w:=by
 have⟨i,d,j,c⟩:=Lib.mul64_hi x y f g;have p:=Lib.half_mul_le (a:=x / 4294967296) (b:=y / 4294967296) od od;have p2:=Lib.half_mul_le (a:=x / 4294967296) (b:=y % 4294967296) od od;have q:=Lib.half_mul_le (a:=x % 4294967296) (b:=y / 4294967296) od od;have k:x / 4294967296*(y / 4294967296)<18446744073709551616:=od
 have l:x / 4294967296*(y % 4294967296)<18446744073709551616:=od
 have m:x % 4294967296*(y / 4294967296)<18446744073709551616:=od
 have n:x / 4294967296*(y / 4294967296)+(x / 4294967296*(y % 4294967296)+x % 4294967296*(y % 4294967296) / 4294967296) / 4294967296<18446744073709551616:=od
 have o:x / 4294967296*(y / 4294967296)+(x / 4294967296*(y % 4294967296)+x % 4294967296*(y % 4294967296) / 4294967296) / 4294967296+((x / 4294967296*(y % 4294967296)+x % 4294967296*(y % 4294967296) / 4294967296) % 4294967296+x % 4294967296*(y / 4294967296)) / 4294967296<18446744073709551616:=od
 have h:Hid (_=_):=c;clear c;go_enter func138,ntmps138
 go_wp2
 simp only[Halves.low f,Halves.low g,Halves.high,Halves.prod,Halves.sum,Halves.stays i,Halves.stays l,Halves.stays d,Halves.low d,Halves.stays m,Halves.stays j,Halves.stays k,Halves.stays n,Halves.stays o,Halves.turns (x*y)];rw[h.out];go_ret2;exact⟨rfl,rfl⟩
def P6(n:Nat)(hn:n<1000000)(w:cg) :
 Calls prog 111 #[.int .u64 1,.int .u64 n] w λe w'=>e =.returned (.tuple #[.int .u64 0,.int .u64 n])/\w'=w:=by
 have h:=DX 1 n od od;have a:1*n / 18446744073709551616=0:=od
 have b:1*n % 18446744073709551616=n:=od
 rw[a,b]at h;have H:=jh h;clear h a b;go_enter func111,ntmps111;go_wp2_with fail;refine (H _).mono ?_;rintro e w' ⟨rfl,rfl⟩;go_wp2_with fail;go_ret2;exact⟨rfl,rfl⟩
end Go.Proofs.YtnamdihclpbdfaaGreat
namespace Go.Proofs.YtnamdihclpbdfaaGreat
set_option linter.all false
open Go.Proofs.Tryz
set_option maxRecDepth 100000
set_option maxHeartbeats 4000000
open Go.ChangeShapes Go.WideShapes Go.ChangeAt Go.RowKit
variable {p q:Int}{f g inn inn':Int->Bool}{vs:bo}{B H:Nat}{ok:br}{e:TypeId}{u v:cm}{w:cg}
def Om(w:cg)(k n ty elem:TypeId)(i:TypeInfo)(m:prog.underlying k=some (.slice elem))(hi:prog.info? elem=some i)(g o b d:Nat)(f:Addr)(c e:Nat)(a:Array cm)(t:TypeId)(cs:bo)
 (hg:w.heap[g]?=some (.cells a t (0,0))) (hn:cs.length=Nat.min c b*i.size) (hsrc:∀j v,cs[j]?=some v->w.cell? (f.add j)=some v) (hfit:o+cs.length<=a.size) (h1:∀v∈cs,v.oneCell') :
 (Builtin.copy_ #[k,n] ty #[.slice (some ⟨g,o,none⟩) b d,.slice (some f) c e]).run prog w =
  .ok (goInt (Nat.min c b)) (w.setRow g (a.toList.take o++cs++a.toList.drop (o+cs.length)).toArray):=by
 have l:=run_loadCells_list (P:=prog) w f cs hsrc;have h:=run_storeCells_at prog g o t cs 0 a w hg (by simpa using hfit) h1;simp[Builtin.copy_,qa2 m,Builtin.lenOf,Builtin.firstCells,sizeOf,typeInfo,hi,<-hn,l,h]
def tN (w:cg) (g n m:Nat) (u0 u1:cm):Prop:=∃cur:Array cm,w.heap[g]?=some (.cells cur 25 (0,0))/\cur.size=n*2/\m<=n/\∀j,j<m->cur[j*2]?=some u0/\cur[j*2+1]?=some u1
def GK:(prog.info? 25).map (λi=>(i.zero,i.size,i.bytes))=some (some (.agg #[.i 0,.n0]),2,32):=oA
def Ic{g n m:Nat}{u0 u1:cm}(h:tN w g n m u0 u1)(R:u0.oneCell')(S:u1.oneCell')(k:Nat)(r:Addr)(c H y dl:Nat)(hk:k=Nat.min y dl)(l:m+k<=n)
 (hsrc:∀j,j<k->w.cell? (r.add (j*2))=some u0/\w.cell? (r.add (j*2+1))=some u1) :
 ∃w2,(∀ty,(Builtin.copy_ #[23,23] ty #[.slice (some ⟨g,m*2,none⟩) dl c,.slice (some r) y H]).run prog w =.ok (.i (k:Nat)) w2)/\tN w2 g n (m+k) u0 u1/\cq w w2 (some g):=by
 have⟨a,B,u,M,K⟩:=h;have⟨Q,L,O,x,P⟩:=jg2 GK
 let cs:bo:=(List.range (k*2)).map λj=>if j % 2=0 then u0 else u1
 have b:cs.length=k*2:=by simp[cs]
 have d:∀j v,cs[j]?=some v->j<k*2/\v=if j % 2=0 then u0 else u1:=by
  intro j v e;have f:j<k*2:=by rw[<-b];exact (qT.1 e).1
  refine⟨f,?_⟩;simp[cs,f]at e;exact e.symm
 have N:∀ty,_:=λty=>Om w 23 23 ty 25 Q underlying23 L g (m*2) dl c r y H a 25 cs B (by rw[b,x,hk]) (by
  intro j v e;obtain⟨f,rfl⟩:=d j v e;have⟨F,G⟩:=hsrc (j / 2) od
  by_cases o:j % 2=0
  .rw[if_pos o];rw[show j / 2*2=j from by omega]at F;exact F
  .rw[if_neg o];rw[show j / 2*2+1=j from by omega]at G;exact G) (by rw[b,u];omega) (by
  intro v e;obtain⟨j,f,rfl⟩:=qc5 e;have⟨_,J⟩:=d j _ (qu f);rw[J];split<;>assumption)
 refine⟨w.setRow g (a.toList.take (m*2)++cs++a.toList.drop (m*2+cs.length)).toArray,λty=>?_,⟨_,setRow_heap w g a _ _ _ B,?_,l,λj f=>?_⟩,?_⟩
 .rw[N ty,<-hk];rfl
 .simp[b];omega
 .have p:∀q,q<(m+k)*2->(a.toList.take (m*2)++cs++a.toList.drop (m*2+cs.length)).toArray[q]?=some (if q % 2=0 then u0 else u1):=by
   intro q C;rw[List.getElem?_toArray,qa3]
   by_cases I:q<m*2
   .rw[zd ov,qe4,if_pos I,ja1];have⟨z,A⟩:=K (q / 2) od
    by_cases o:q % 2=0
    .rw[if_pos o];rw[show q / 2*2=q from by omega]at z;exact z
    .rw[if_neg o];rw[show q / 2*2+1=q from by omega]at A;exact A
   .have s:(a.toList.take (m*2)).length=m*2:=by simp;omega
    rw[xf od,s,zd od];have t:q - m*2<k*2:=od
    simp only[cs,qb0,List.getElem?_range t,qg6];rw[show (q - m*2) % 2=q % 2 from by omega]
  have D:=p (j*2) od;have E:=p (j*2+1) od;rw[oc]at D;rw[oa]at E;exact⟨D,E⟩
 .exact⟨rfl,rfl,rfl,by simp[World.setRow],λq _ C=>setRow_other w g q _ (by simpa using C)⟩
def Rw(t:Int)(a:bj)(l c:Nat)(b o n Y:Nat)(hn:n<1000)(W:cg)(N:W.cell? ⟨b,o,none⟩=some (.i t))(Z:W.cell? ⟨b,o+1,none⟩=some (.slice a l c)) :
 Calls prog 90 #[.slice (some ⟨b,o,none⟩) 1 Y,.i n] W λe w'=>∃g,e =.returned (.o g n n)/\W.heap.size<=g/\tN w' g n n (.i t) (.slice a l c)/\cq W w' none:=by
 have HM:=jh (P6 n od);have⟨i0,hi,G,H,I⟩:=jg2 GK;have u:=run_make (P:=prog) W 23 25 i0 _ underlying23 hi G .i64 .i64 n n od (qf0 _) (by rw[I];omega) od;simp only[Int.toNat_natCast,H]at u;have y:(madeCells (Value.agg #[.i 0,.n0]).cells (n*2)).size=n*2:=size_madeCells _ _;generalize madeCells (Value.agg #[.i 0,.n0]).cells (n*2)=M at *;have z:tN (W.alloc (.cells M 25)) W.heap.size n 0 (.i t) (.slice a l c):=⟨M,xF _ _,y,yv _,λj O=>od⟩;have B:b<W.heap.size:=qb7 W _ N;have⟨w2,s,r,C⟩:=Ic z rfl rfl (Nat.min 1 n) ⟨b,o,none⟩ n Y 1 n rfl (by rw[qb1];exact Nat.min_le_right _ _) (λj O=>by
  obtain rfl:j=0:=by have : Nat.min 1 n<=1:=Nat.min_le_left _ _;omega
  have L:(W.alloc (.cells M 25)).cell? ⟨b,o,none⟩=some (.i t):=(ke (ka4 (w:=W) (o:=_) (h:=B))).trans N;have e2:(W.alloc (.cells M 25)).cell? ⟨b,o+1,none⟩=some (.slice a l c):=(ke (ka4 (w:=W) (o:=_) (h:=B))).trans Z;have f:∀x,(⟨b,o,none⟩:Addr).add x=⟨b,o+x,none⟩:=λx=>OR
  rw[f,f];exact⟨L,e2⟩)
 have D:cq W w2 none:=aG (Lf.gb _) C (jj _);rw[jh3]at s;rw[qb1]at r;have q:=jh r;have p:=jh D;clear N Z z r C D y G H I hi;go_enter func90,ntmps90;go_wp2_with fail;refine (HM _).mono ?_;rintro e v ⟨rfl,rfl⟩;go_wp2_with fail;go_loopw [8] (λV wr=>∃m:Nat,V =.i m/\m<=n/\(m=n\/1<=m)/\tN wr v.heap.size n m (.i t) (.slice a l c)/\cq v wr none) (λV _=>n - (intOf V).toNat)
 case atStart =>
  refine⟨Nat.min 1 n,?_,Nat.min_le_right _ _,?_,q,p⟩
  .first|rfl|simp
  .by_cases h:n=0
   .left;subst h;rfl
   .right;exact Nat.le_min.2 ⟨jj _,od⟩
 case round =>
  obtain⟨m,rfl,U,aj,d,k⟩:=hrel
  by_cases ah:m<n
  .have S:1<=m:=by omega
   have hk:m+Nat.min m (n - m)<=n:=by have : Nat.min m (n - m)<=n - m:=Nat.min_le_right _ _;omega
   have ae:1<=Nat.min m (n - m):=Nat.le_min.2 ⟨S,od⟩;have⟨w3,ad,A,E⟩:=Ic (w:=wr.drew) d rfl rfl (Nat.min m (n - m)) ⟨v.heap.size,0,none⟩ (n - m) n m (n - m) rfl hk (λj O=>by
    have⟨ab,q1,q2,q3,q4⟩:=d;have Q:j<m:=kh O (Nat.min_le_left _ _);have⟨e0,L⟩:=q4 j Q;have f:∀x,(⟨v.heap.size,0,none⟩:Addr).add x=⟨v.heap.size,x,none⟩:=λx=>OR
    rw[f,f];constructor
    .show wr.cell? _=_;simp[World.cell?,q1,e0]
    .show wr.cell? _=_;simp[World.cell?,q1,L])
   have F:(m:Int)<(n:Int):=od
   have ak:¬n - m=0:=od
   generalize R:Nat.min m (n - m)=X at *;have K:=jh A;have J:=jh (aG (aK k) E (jj _));clear A E d k R u s q p HM;have an:IntKind.i64.wrap ((m:Int)+(X:Int))=(m:Int)+(X:Int):=vl
   have aa:m<=n:=U;go_wp2_with fail;go_region_held3 (λ_=>True) (first|trivial) (fail)
   all_goals
    go_wp2_with fail;refine⟨⟨m+X,by first|rfl|simp,hk,.inr od,K,J⟩,?_⟩;simp[intOf];omega
  .have T:m=n:=by omega
   subst T;have F:¬(m:Int)<(m:Int):=od
   have HR:=jh d;have HG:=jh k;clear d k u s q p HM;go_wp2;go_ret;exact⟨_,rfl,jj _,HR,HG⟩
def JD:(prog.info? 62).map (λi=>(i.zero,i.size,i.bytes))=some (some (.agg #[.i 0,.i 0,.i 0,.string ⟨#[]⟩,.n0]),5,64):=oA
def nodeCells:cm->bo
 | .agg xs=>xs.toList
 | _=>[]
def flat (vs:bo):bo:=vs.flatMap nodeCells
def lh (B:Nat) (w:cg) (v:cm) (vs:bo):Prop:=w.ownsRow B 62 5 v vs.length (flat vs)
def bV(a b:bo):flat (a++b)=flat a++flat b:=by simp[flat]
structure kQ (H:Nat) (w:cg) (v:cm) (ts:aE) (vs:bo):Prop where
 own:lh H w v vs
 len:vs.length=ts.length
 lies:∀(i:Nat) (t:Tr) (u:cm),ts[i]?=some t->vs[i]?=some u->bI (λb=>H<=b/\some b≠v.ownBlock) w t u
def flat_get:∀(vs:bo),(∀u∈vs,(nodeCells u).length=5)->∀(i j:Nat) (u:cm),vs[i]?=some u->j<5->(flat vs)[i*5+j]?=(nodeCells u)[j]?
 | [],_,i,j,u,h,_=>by simp at h
 | x::vs,a,0,j,u,h,b=>by simp at h;subst h;have:=a x oe;simp only[flat,qd5];rw[zd od];simp
 | x::vs,a,i+1,j,u,h,b=>by have c:=a x oe;have:=flat_get vs (λu d=>a u (by simp[d])) i j u (by simpa using h) b;simp only[flat,qd5]at this|-;rw[xf od,c,show (i+1)*5+j - 5=i*5+j from by omega];exact this
def bI.af{t:Tr}(h:bI ok w t u):∃k n p s a l c,u=af k n p s a l c:=by cases h;exact⟨_,_,_,_,_,_,_,rfl⟩
def kQ.done{ts:aE}(h:kQ H w v ts vs) :
 ∃(a:bj) (c:Nat) (V:bt),v =.slice a ts.length c/\(∀i,i<ts.length->ky (H <= ·) w a i (V i))/\(∀i (hi:i<ts.length),bI (H <= ·) w ts[i] (V i)):=by
 have J:=h.len;have f:∀i (hi:i<ts.length),∃u,vs[i]?=some u/\bI (H <= ·) w ts[i] u:=by
  intro i hi;have B:i<vs.length:=od
  exact⟨vs[i],qu B,(h.lies i ts[i] vs[i] (qu hi) (qu B)).ae (λb _ E=>E.1)⟩
 have D:∀u∈vs,(nodeCells u).length=5:=by intro u L;obtain⟨i,hi,rfl⟩:=qc5 L;have⟨u,e,m⟩:=f i od;rw[qu hi]at e;simp at e;have⟨k,n,p,s,a,l,c,q⟩:=m.af;rw[e,q];rfl
 have z:=h.own;unfold lh at z;rcases z.2 with⟨rfl,h0⟩|⟨g,r,C,rfl,y,N,K,F,G,A⟩
 .have t:ts.length=0:=by omega
  exact⟨none,0,λ_=>.i 0,by rw[t],λi hi=>od,λi hi=>od⟩
 .refine⟨some ⟨g,0,none⟩,r,λi=>(vs[i]?).getD (.i 0),by rw[J],λi hi=>?_,λi hi=>?_⟩
  .have⟨u,e,m⟩:=f i hi;have⟨k,n,p,s,a,l,c,q⟩:=m.af;have d:∀j x,j<5->(nodeCells u)[j]?=some x->w.cell? ⟨g,i*5+j,none⟩=some x:=by
    intro j x I M;have:=qd7 z (g:=g) rfl (i*5+j) x (by rw[flat_get vs D i j u e I];exact M);have o:(⟨g,0,none⟩:Addr).add (i*5+j)=⟨g,i*5+j,none⟩:=OR
    rwa [o]at this
   rw[q]at d;refine⟨g,0,rfl,y,k,n,p,s,a,l,c,by show (vs[i]?).getD _=_;rw[e];exact q,?_,?_,?_,?_,?_⟩
   .have:=d 0 _ od rfl;simpa using this
   .have:=d 1 _ od rfl;simpa using this
   .have:=d 2 _ od rfl;simpa using this
   .have:=d 3 _ od rfl;simpa using this
   .have:=d 4 _ od rfl;simpa using this
  .have⟨u,e,m⟩:=f i hi;show bI _ _ _ ((vs[i]?).getD _);rw[e];exact m
def jH (t:Int):Bool:=decide (1<=t/\t<=15)
def bT (t:Int):Int:=if t=9\/t=10\/t=15 then 1 else if t=11\/t=12\/t=13\/t=14 then 2 else 0
mutual
def bf (d:Nat):Ty->Bool
 | .nd t args=>decide (d<=24)&&(jH t&&decide ((args.length:Int)=bT t))&&ig (d+1) args
def ig (d:Nat):aw->Bool
 | []=>true
 | t::ts=>bf d t&&ig d ts
end
mutual
def sW (inn f:Int->Bool):Ty->Bool
 | .nd t args=>f t&&(!inn t||ow inn f args)
def ow (inn f:Int->Bool):aw->Bool
 | []=>true
 | t::ts=>sW inn f t&&ow inn f ts
end
def Qd (t:Int):Bool:=decide (1<=t/\t<=15/\t≠8/\t≠10/\t≠13/\t≠14/\t≠15)
def LU (t:Int):Bool:=decide (t≠8/\t≠14/\t≠15)
def Qe (t:Int):Bool:=decide (t≠15/\t≠8)
def Kz (t:Int):Bool:=decide (t≠8)
def Bq (_:Int):Bool:=true
def Ap (t:Int):Bool:=decide (t≠14)
def oF (t:Ty):Bool:=sW Bq Qd t
def eB (t:Ty):Bool:=sW Bq LU t
def A7 (t:Ty):Bool:=sW Ap Qe t
def storeT (t:Ty):Bool:=sW Ap Kz t
def headComp:aw->Bool
 | []=>true
 | t::_=>oF t
def uZ (t:Int) (args:aw):Bool:=!decide (t=13\/t=15)||headComp args
mutual
def keyedF:Ty->Bool
 | .nd t args=>uZ t args&&keyedFs args
def keyedFs:aw->Bool
 | []=>true
 | t::ts=>keyedF t&&keyedFs ts
end
def ai (t:Ty):Bool:=bf 1 t&&decide (t.size<=300)&&keyedF t
def jT(d:Nat)(l:aw):ig d l=l.all (bf d):=by
 induction l with
 | nil=>rfl
 | cons t b a=>simp[ig,a]
def yL(inn f:Int->Bool)(l:aw):ow inn f l=l.all (sW inn f):=by
 induction l with
 | nil=>rfl
 | cons t b a=>simp[ow,a]
def uu(l:aw):keyedFs l=l.all keyedF:=by
 induction l with
 | nil=>rfl
 | cons t b a=>simp[keyedFs,a]
mutual
def M4(c:∀x,f x->g x)(hi:∀x,inn' x->inn x):∀t,sW inn f t->sW inn' g t
 | .nd t a=>by
  intro h;simp only[sW,qt,qe2,qg1]at h|-;refine⟨c _ h.1,?_⟩;rcases h.2 with b|b
  .left
   cases d:inn' t with
   | false=>rfl
   | true=>rw[hi _ d]at b;cases b
  .exact .inr (AY c hi a b)
def AY(a:∀x,f x->g x)(hi:∀x,inn' x->inn x):∀l,ow inn f l->ow inn' g l
 | []=>λ_=>rfl
 | t::b=>by intro h;simp only[ow,qt]at h|-;exact⟨M4 a hi t h.1,AY a hi b h.2⟩
end
def YK(t:Ty)(h:eB t=true):A7 t=true:=M4 (λx a=>by simp[Qe,LU]at a|-;omega) (λ_ _=>rfl) t h
def Mk (kf:Nat) (f:Int->Bool):Prop:=∀(x:Int) (w:cg),Calls prog kf #[.i x] w λe w'=>e =.returned (.bool (f x))/\w'=w
def formedAt (d m:Nat) (T:Ty):Bool:=bf d T&&decide (m+T.size<=300)
def fb (d m:Nat) (args:aw) (i:Nat):Bool:=match args[i]? with
 | some x=>formedAt d (m+tysizes (args.take i)) x
 | none=>true
def mM{α:Type}(R:Nat->α->Prop):∃μ:α->Nat,∀x n,R n x->R (μ x) x/\μ x<=n:=by
 have h:∀x,∃m,∀n,R n x->R m x/\m<=n:=by
  intro x;have c:∀n,R n x->∃m,R m x/\∀k,R k x->m<=k:=by
   intro n
   induction n using Nat.strongRecOn with
   | _ n i =>
    intro a
    by_cases h:∃k,k<n/\R k x
    .have⟨k,hk,g⟩:=h;exact i k hk g
    .exact⟨n,a,λk hk=>Nat.le_of_not_lt λb=>h ⟨k,b,hk⟩⟩
  by_cases d:∃n,R n x
  .have⟨n,a⟩:=d;have⟨m,e,f⟩:=c n a;exact⟨m,λk hk=>⟨e,f k hk⟩⟩
  .exact⟨0,λn a=>absurd ⟨n,a⟩ d⟩
 exact⟨λx=>Classical.choose (h x),λx=>Classical.choose_spec (h x)⟩
def Av{g cap n:Nat}(h:w.ownsRow B e 1 (.o g (n+1) cap) (n+1) (vs++[u])):w.ownsRow B e 1 (.o g n cap) n vs:=by
 have m:=h.1;simp at m;refine⟨od,?_⟩;rcases h.2 with⟨b,_⟩|⟨o,d,c,b,f,i,p,j,k,l⟩
 .simp at b
 .simp only[ye,qq,jb2,and_true,true_and]at b;obtain⟨rfl,rfl⟩:=b;refine .inr ⟨g,cap,c,rfl,f,i,od,j,k,?_⟩;have a:=congrArg (List.take n) l;rw[jh0]at a;simp only[Nat.mul_one]at a|-;rw[show min n (n+1)=n from by omega]at a;rw[a,jh2 od,ux od]
def gI(g o x:Nat):(⟨g,o,none⟩:Addr).add x=⟨g,o+x,none⟩:=OR
def BH{size n g cap:Nat}{xs:bo}(h:w.ownsRow B e size (.o g n cap) n xs):n<=cap/\cap<=maxLen:=by
 rcases h.2 with⟨a,_⟩|⟨i,b,c,a,_,_,d,f,_⟩
 .simp at a
 .simp only[ye,true_and]at a;rw[a.2];exact⟨d,f⟩
def dE{T:Ty}(h:ai T):bf 1 T/\T.size<=300/\keyedF T:=by simp only[ai,qt,jt]at h;exact⟨h.1.1,h.1.2,h.2⟩
def rO:(prog.info? 25).map (λi=>(i.zero,i.size,i.bytes))=some (some (.agg #[.i 0,.n0]),2,32):=oA
def tyCells:cm->bo
 | .agg xs=>xs.toList
 | _=>[]
def bX (vs:bo):bo:=vs.flatMap tyCells
def zQ (B:Nat) (w:cg) (v:cm) (vs:bo):Prop:=w.ownsRow B 25 2 v vs.length (bX vs)
def dx(a b:bo):bX (a++b)=bX a++bX b:=by simp[bX]
structure aag (H:Nat) (w:cg) (v:cm) (ts:aw) (vs:bo):Prop where
 own:zQ H w v vs
 len:vs.length=ts.length
 lies:∀(i:Nat) (t:Ty) (u:cm),ts[i]?=some t->vs[i]?=some u->aH (λb=>H<=b/\some b≠v.ownBlock) w t u
def flatT_get:∀(vs:bo),(∀u∈vs,(tyCells u).length=2)->∀(i j:Nat) (u:cm),vs[i]?=some u->j<2->(bX vs)[i*2+j]?=(tyCells u)[j]?
 | [],_,i,j,u,h,_=>by simp at h
 | x::vs,a,0,j,u,h,c=>by simp at h;subst h;have:=a x oe;simp only[bX,qd5];rw[zd od];simp
 | x::vs,a,i+1,j,u,h,c=>by have b:=a x oe;have:=flatT_get vs (λu d=>a u (by simp[d])) i j u (by simpa using h) c;simp only[bX,qd5]at this|-;rw[xf od,b,show (i+1)*2+j - 2=i*2+j from by omega];exact this
def aH.bY{t:Ty}(h:aH ok w t u):∃k a l c,u=bY k a l c:=by cases h;exact⟨_,_,_,_,rfl⟩
def aag.done{ts:aw}(h:aag H w v ts vs) :
 ∃(a:bj) (c:Nat) (V:bt),v =.slice a ts.length c/\(∀i,i<ts.length->rC (H <= ·) w a i (V i))/\(∀i (hi:i<ts.length),aH (H <= ·) w ts[i] (V i)):=by
 have F:=h.len;have f:∀i (hi:i<ts.length),∃u,vs[i]?=some u/\aH (H <= ·) w ts[i] u:=by
  intro i hi;have z:i<vs.length:=od
  exact⟨vs[i],qu z,(h.lies i ts[i] vs[i] (qu hi) (qu z)).ae (λb _ B=>B.1)⟩
 have r:∀u∈vs,(tyCells u).length=2:=by intro u I;obtain⟨i,hi,rfl⟩:=qc5 I;have⟨u,e,m⟩:=f i od;rw[qu hi]at e;simp at e;have⟨k,a,l,c,o⟩:=m.bY;rw[e,o];rfl
 have t:=h.own;unfold zQ at t;rcases t.2 with⟨rfl,h0⟩|⟨g,p,A,rfl,s,K,G,C,D,y⟩
 .have q:ts.length=0:=by omega
  exact⟨none,0,λ_=>.i 0,by rw[q],λi hi=>od,λi hi=>od⟩
 .refine⟨some ⟨g,0,none⟩,p,λi=>(vs[i]?).getD (.i 0),by rw[F],λi hi=>?_,λi hi=>?_⟩
  .have⟨u,e,m⟩:=f i hi;have⟨k,a,l,c,o⟩:=m.bY;have d:∀j x,j<2->(tyCells u)[j]?=some x->w.cell? ⟨g,i*2+j,none⟩=some x:=by
    intro j x E J;have:=qd7 t (g:=g) rfl (i*2+j) x (by rw[flatT_get vs r i j u e E];exact J);have n:(⟨g,0,none⟩:Addr).add (i*2+j)=⟨g,i*2+j,none⟩:=OR
    rwa [n]at this
   rw[o]at d;refine⟨g,0,rfl,s,k,a,l,c,by show (vs[i]?).getD _=_;rw[e];exact o,?_,?_⟩
   .have:=d 0 _ od rfl;simpa using this
   .have:=d 1 _ od rfl;simpa using this
  .have⟨u,e,m⟩:=f i hi;show aH _ _ _ ((vs[i]?).getD _);rw[e];exact m
mutual
def sameT:Ty->Ty->Bool
 | .nd t xs,.nd u ys=>decide (t=u)&&sameTs xs ys
def sameTs:aw->aw->Bool
 | [],[]=>true
 | a::xs,b::ys=>sameT a b&&sameTs xs ys
 | [],_::_=>false
 | _::_,[]=>false
end
mutual
def sameT_refl:∀t,sameT t t
 | .nd t a=>by simp[sameT,sameTs_refl a]
def sameTs_refl:∀l,sameTs l l
 | []=>by simp[sameTs]
 | t::a=>by simp[sameTs,sameT_refl t,sameTs_refl a]
end
def sameTs_len:∀{a b:aw},sameTs a b->a.length=b.length
 | [],[],_=>rfl
 | _::_,[],h=>by simp[sameTs]at h
 | [],_::_,h=>by simp[sameTs]at h
 | a::xs,b::c,h=>by simp only[sameTs,qt]at h;simp[sameTs_len h.2]
def sw (w:cg) (t:Int) (a:bj) (l c:Nat) (t2:Int) (a2:bj) (l2 c2:Nat):cg :=
 (((((w.alloc (.cells #[.i t,.slice a l c] 25)).alloc (.cells #[.i t2,.slice a2 l2 c2] 25)).alloc (.cells #[.i t,.slice a l c] 25)).alloc (.cells #[.i t2,.slice a2 l2 c2] 25)).alloc
   (.cells #[.o (w.heap.size+1+1) 1 1,.o (w.heap.size+1+1+1) 1 1] 76)).alloc (.cells #[.o (w.heap.size+1+1+1+1) 1 1] 77)
def gP (a b:Int):Int:=if a<b then -1 else if b<a then 1 else 0
def Jn (s t:bp):Int:=if Op.bytesLess s.toList t.toList then -1 else if s.toList=t.toList then 0 else 1
mutual
def qg (c:Va->Va->Int):Va->Va->Int
 | .mk k n a s args ty co,y=>if c (.mk k n a s args ty co) y≠0 then c (.mk k n a s args ty co) y else eO c args y.args
def eO (c:Va->Va->Int):ao->ao->Int
 | [],[]=>0
 | [],_::_=>-1
 | _::_,[]=>1
 | x::xs,y::ys=>if qg c x y≠0 then qg c x y else eO c xs ys
end
def FB(c:Va->Va->Int)(x y:Va):qg c x y=if c x y≠0 then c x y else eO c x.args y.args:=by
 cases x;rw[qg];rfl
def Eg(c:Va->Va->Int)(x y:Va):eO c [x] [y]=qg c x y:=by
 rw[eO,eO]
 by_cases h:qg c x y=0
 .rw[if_neg (by simpa using h),h]
 .rw[if_pos h]
def XN (c:Va->Va->Int):List (ao×ao)->Int
 | []=>0
 | r::R=>if eO c r.1 r.2≠0 then eO c r.1 r.2 else XN c R
def jL (c:Va->Va->Int) (rows:List (ao×ao)):Int:=XN c rows.reverse
def o9(c:Va->Va->Int)(rows:List (ao×ao))(r:ao×ao):jL c (rows++[r])=if eO c r.1 r.2≠0 then eO c r.1 r.2 else jL c rows:=by simp[jL,XN]
def Vl(c:Va->Va->Int)(r:ao×ao):jL c [r]=eO c r.1 r.2:=by
 have:=o9 c [] r;rw[qe5]at this;rw[this]
 by_cases h:eO c r.1 r.2=0
 .rw[if_neg (by simpa using h),h];rfl
 .rw[if_pos h]
def Vm(c:Va->Va->Int)(rows:List (ao×ao)):jL c (rows++[([],[])])=jL c rows:=by rw[o9];simp[eO]
def Vh(c:Va->Va->Int)(rows:List (ao×ao))(x y:ao)(h:x=[]\/y=[])(f:¬(x=[]/\y=[])):jL c (rows++[(x,y)])=gP x.length y.length:=by
 rw[o9]
 cases x with
 | nil=>cases y with
  | nil=>simp at f
  | cons b y =>
   have d:eO c [] (b::y) = -1:=by rw[eO]
   have e:gP (([]:ao).length:Nat) ((b::y).length:Nat) = -1:=by rw[gP,if_pos oe]
   rw[e];simp[d]
 | cons a x=>cases y with
  | nil =>
   have d:eO c (a::x) []=1:=by rw[eO]
   have e:gP ((a::x).length:Nat) (([]:ao).length:Nat)=1:=by rw[gP,if_neg ov,if_pos oe]
   rw[e];simp[d]
  | cons b y=>simp at h
def Vn(c:Va->Va->Int)(rows:List (ao×ao))(x y:Va)(xs ys:ao)(h:c x y≠0):jL c (rows++[(x::xs,y::ys)])=c x y:=by
 have a:qg c x y=c x y:=by rw[FB,if_pos h]
 have b:eO c (x::xs) (y::ys)=c x y:=by rw[eO,a,if_pos h]
 rw[o9];simp only[b];rw[if_pos h]
def RZ(c:Va->Va->Int)(rows:List (ao×ao))(x y:Va)(xs ys:ao)(h:c x y=0):jL c (rows++[(x::xs,y::ys)])=jL c (rows++[(xs,ys)]++[(x.args,y.args)]):=by
 have b:qg c x y=eO c x.args y.args:=by rw[FB,if_neg (by simpa using h)]
 rw[o9,o9,o9];simp only;rw[eO,b]
 by_cases a:eO c x.args y.args=0
 .simp[a]
 .rw[if_pos a,if_pos a];simp[a]
def leftV (rows:List (ao×ao)):Nat:=(rows.map λr=>2*vsizes r.1+1).sum
def iQ(a b:List (ao×ao)):leftV (a++b)=leftV a+leftV b:=by simp[leftV]
def jW(r:ao×ao):leftV [r]=2*vsizes r.1+1:=by simp[leftV]
def NI(rows:List (ao×ao)):rows.length<=leftV rows:=by
 induction rows with
 | nil=>simp
 | cons r l a=>simp only[leftV,qc0,ka0,js]at a|-;omega
def nQ (x y:Va):Int:=if gP x.n y.n≠0 then gP x.n y.n else Jn x.s y.s
def gT (x y:Va):Int:=qg nQ x y
def zeroVa:Va:=.mk 0 0 0 ⟨#[]⟩ [] [] []
def fU (v:Va):Va:=match v.args with
 | []=>zeroVa
 | x::_=>x
def risesF:ao->Bool
 | []=>true
 | [_]=>true
 | x::y::l=>decide (gT (fU x) (fU y)<0)&&risesF (y::l)
def kE (n:Int):Bool:=decide (-1152921504606846976<=n/\n<=1152921504606846976)
def gN (n:Int):Bool:=decide (0<=n/\n<=1152921504606846976)
def lY (n:Int):Bool:=decide (0<=n/\n<12)
def bQ (t n:Int):Bool :=
 if t=2\/t=12 then decide (n=0\/n=1)else if t=3 then kE n else if t=4\/t=5\/t=8 then gN n
 else if t=15 then gN n&&decide (n≠0)else if t=7 then lY n else decide (n=0)
def oneGood:aw->Bool
 | []=>false
 | [u]=>ai u
 | _::_::_=>false
def J3{l:aw}(h:l.length≠1):oneGood l=false:=by
 match l,h with
 | [],_=>rfl
 | [_],h=>simp at h
 | _::_::_,_=>rfl
def eZ (T:Ty) (types:aw):Bool :=
 if T.t=8 then oneGood types else if T.t=14 then sameTs types T.args else decide (types.length=0)
def eX (T:Ty) (v:Va):Bool :=
 decide (v.k=T.t)&&bQ T.t v.n&&(decide (v.a=0)||decide (T.t=8\/T.t=15)&&lY v.a)&&(decide (v.s.size=0)||decide (T.t=6)&&decide (v.s.size<=200)) &&
 eZ T v.types&&(decide (v.code.length=0)||decide (T.t=14))
def aJ (l:aw) (i:Nat):Ty:=(l[i]?).getD (.nd 0 [])
def bS (T:Ty) (v:Va):Option aw :=
 let l:=v.args.length
 if T.t=8 then (if l=v.types.length then some v.types else none)
 else if T.t=9/\l=0 then some []
 else if T.t=10 then (if l<=24 then some (List.replicate l (aJ T.args 0))else none)
 else if T.t=13 then (if l<=24 then some (List.replicate l (.nd 11 T.args))else none)
 else if T.t=12 then (if l=1 then some [aJ T.args v.n.toNat]else none)
 else if T.t=14 then (if l=0 then some []else none)
 else if l=T.args.length then some T.args else none
mutual
def hasV:Va->Ty->Bool
 | .mk k n a s args types code,T=>eX T (.mk k n a s args types code)&&(match bS T (.mk k n a s args types code)with
  | none=>false
  | some ts=>hasVs args ts)&&(!decide (T.t=13)||risesF args)
def hasVs:ao->aw->Bool
 | [],[]=>true
 | v::vs,T::ts=>hasV v T&&hasVs vs ts
 | [],_::_=>false
 | _::_,[]=>false
end
def pY (T:Ty) (v:Va):Bool:=ai T&&hasV v T
def Bn (p:Ty×Va):Bool:=hasV p.2 p.1
def partsOf (T:Ty) (v:Va):Option (List (Ty×Va)):=(bS T v).map λts=>ts.zip v.args
def hasVs_zip:∀(vs:ao) (ts:aw),vs.length=ts.length->hasVs vs ts=(ts.zip vs).all Bn
 | [],[],_=>by simp[hasVs]
 | _::_,[],h=>by simp at h
 | [],_::_,h=>by simp at h
 | v::vs,T::ts,h=>by have a:=hasVs_zip vs ts (by simpa using h);simp[hasVs,a,Bn]
def rE{T:Ty}{v:Va}{ts:aw}(h:bS T v=some ts):v.args.length=ts.length:=by
 unfold bS at h;simp only at h
 repeat' split at h
 all_goals first|(simp at h;done)|(simp only[qq]at h;subst h;simp_all)
def Lu(T:Ty)(v:Va):hasV v T=(eX T v&&(match partsOf T v with
 | none=>false
 | some ps=>ps.all Bn)&&(!decide (T.t=13)||risesF v.args)):=by
 cases v with
 | mk k n a s args b c =>
  rw[hasV,partsOf]
  cases h:bS T (.mk k n a s args b c)with
  | none=>rfl
  | some d =>
   have:=rE h;simp only[qg6];rw[hasVs_zip args d this];rfl
def yg (p:Ty×Va):Nat:=p.2.size
def kY (C:List (Ty×Va)):Nat:=(C.map yg).sum
def lN(a b:List (Ty×Va)):kY (a++b)=kY a+kY b:=by simp[kY]
def DK(p:Ty×Va):kY [p]=p.2.size:=by simp[kY,yg]
def NH(C:List (Ty×Va)):C.length<=kY C:=by
 induction C with
 | nil=>simp
 | cons r l a=>have:=qZ r.2;simp only[kY,qc0,ka0,js,yg]at a|-;omega
def leftP_zip:∀(ts:aw) (vs:ao),ts.length=vs.length->kY (ts.zip vs)=vsizes vs
 | [],[],_=>by simp[kY,vsizes]
 | _::_,[],h=>by simp at h
 | [],_::_,h=>by simp at h
 | T::ts,v::vs,h=>by
  have a:=leftP_zip ts vs (by simpa using h);have e:kY ((T::ts).zip (v::vs))=v.size+kY (ts.zip vs):=by simp[kY,yg]
  rw[e,a,vsizes]
def Sgn (p:Int):Prop:=p = -1\/p=0\/p=1
def EG (p q r:Int):Prop:=p<=0->q<=0->r<=0/\(r=0 ↔ p=0/\q=0)
def tu (p q:Int):Int:=if p≠0 then p else q
def uA(a:Sgn p)(b:Sgn q):Sgn (tu p q):=by unfold tu;split<;>assumption
def wu: -tu p q=tu (-p) (-q):=by
 unfold tu
 by_cases h:p=0
 .simp[h]
 .rw[if_pos h,oc]
def xP{d p2 e g f h:Int}(i:EG d e f)(j:EG p2 g h):EG (tu d p2) (tu e g) (tu f h):=by
 unfold EG tu at *;intro k l
 by_cases a:d=0<;>by_cases b:e=0<;>by_cases c:f=0<;>simp[a,b,c]at k l i j|- <;> omega
def Gl(a b:Int):Sgn (gP a b):=by unfold Sgn gP;split<;>(try split)<;>simp
def Gi(a b:Int):gP b a = -gP a b:=by unfold gP;split<;>split<;>(try split)<;>omega
def Gj(a b c:Int):EG (gP a b) (gP b c) (gP a c):=by unfold EG gP;split<;>split<;>split<;>(try split)<;>(try split)<;>(try split)<;>omega
def cmpL:bw->bw->Int
 | [],[]=>0
 | [],_::_=>-1
 | _::_,[]=>1
 | a::x,b::y=>tu (gP a.toNat b.toNat) (cmpL x y)
def cmpL_sgn:∀x y,Sgn (cmpL x y)
 | [],[]=>.inr (.inl rfl)
 | [],_::_=>.inl rfl
 | _::_,[]=>.inr (.inr rfl)
 | a::x,b::y=>uA (Gl _ _) (cmpL_sgn x y)
def cmpL_neg:∀x y,cmpL y x = -cmpL x y
 | [],[]=>rfl
 | [],_::_=>rfl
 | _::_,[]=>rfl
 | a::x,b::y=>by rw[cmpL,cmpL,wu,Gi,cmpL_neg x y]
def cmpL_on3:∀x y z,EG (cmpL x y) (cmpL y z) (cmpL x z)
 | [],[],[]=>by simp[EG,cmpL]
 | [],[],_::_=>by simp[EG,cmpL]
 | [],_::_,[]=>by simp[EG,cmpL]
 | [],_::_,_::_=>by simp[EG,cmpL]
 | _::_,[],_=>by intro h;simp[cmpL]at h
 | _::_,_::_,[]=>by intro _ h;simp[cmpL]at h
 | a::x,b::y,c::z=>xP (Gj _ _ _) (cmpL_on3 x y z)
def cmpL_zero:∀x y,cmpL x y=0 ↔ x=y
 | [],[]=>by simp[cmpL]
 | [],_::_=>by simp[cmpL]
 | _::_,[]=>by simp[cmpL]
 | a::x,b::y=>by
  have f:=cmpL_zero x y;have h:gP a.toNat b.toNat=0 ↔ a=b:=by
   constructor
   .intro h;unfold gP at h;split at h
    .cases h
    .split at h
     .cases h
     .exact UInt8.toNat_inj.1 od
   .rintro rfl;simp[gP]
  simp only[cmpL,tu,qa5]
  by_cases d:gP a.toNat b.toNat=0
  .have e:=h.1 d;rw[if_neg (by simpa using d),f];exact⟨λc=>⟨e,c⟩,λc=>c.2⟩
  .simp only[ne_eq,d,not_false_eq_true,if_true,false_iff];intro c;exact d (h.2 c.1)
def less_cmpL:∀x y,Op.bytesLess x y=decide (cmpL x y<0)
 | [],[]=>rfl
 | [],_::_=>by simp[Op.bytesLess,cmpL]
 | _::_,[]=>by simp[Op.bytesLess,cmpL]
 | a::x,b::y=>by
  rw[Op.bytesLess,less_cmpL x y];have c:(a<b)=(a.toNat<b.toNat):=by rw[UInt8.lt_iff_toNat_lt]
  by_cases f:a.toNat<b.toNat
  .have d:gP a.toNat b.toNat = -1:=by rw[gP,oc]
   simp[cmpL,tu,d,c,f]
  .by_cases h:b.toNat<a.toNat
   .have d:gP a.toNat b.toNat=1:=by rw[gP,oa,oc]
    have e:¬a=b:=by rintro rfl;omega
    simp[cmpL,tu,d,c,f,e]
   .have d:gP a.toNat b.toNat=0:=by rw[gP,oa,oa]
    have g:a=b:=UInt8.toNat_inj.1 od;subst g;simp[cmpL,tu,d,c]
def M9(s t:bp):Jn s t=cmpL s.toList t.toList:=by
 unfold Jn;rw[less_cmpL];rcases cmpL_sgn s.toList t.toList with h|h|h
 .rw[h];simp
 .rw[h,if_neg oe,if_pos ((cmpL_zero _ _).1 h)]
 .rw[h,if_neg oe,if_neg (λe=>by rw[(cmpL_zero _ _).2 e]at h;cases h)]
def qN(x y:Va):nQ x y=tu (gP x.n y.n) (cmpL x.s.toList y.s.toList):=by unfold nQ;rw[M9];rfl
def Q8(x y:Va):Sgn (nQ x y):=by rw[qN];exact uA (Gl _ _) (cmpL_sgn _ _)
def Q6(x y:Va):nQ y x = -nQ x y:=by rw[qN,qN,wu,Gi,cmpL_neg]
def Q7(x y z:Va):EG (nQ x y) (nQ y z) (nQ x z):=by rw[qN,qN,qN];exact xP (Gj _ _ _) (cmpL_on3 _ _ _)
def RB(c:Va->Va->Int)(x y:Va):qg c x y=tu (c x y) (eO c x.args y.args):=by rw[FB];rfl
def Ck(c:Va->Va->Int)(x y:Va)(xs ys:ao):eO c (x::xs) (y::ys)=tu (qg c x y) (eO c xs ys):=by rw[eO];rfl
mutual
def ordV_all:∀(x y z:Va),Sgn (qg nQ x y)/\qg nQ y x = -qg nQ x y/\EG (qg nQ x y) (qg nQ y z) (qg nQ x z)
 | .mk k n a s b g f,y,z=>by have⟨c,d,e⟩:=ordVs_all b y.args z.args;simp only[RB];exact⟨uA (Q8 _ _) c,by rw[wu,<-Q6];exact congrArg (tu _) d,xP (Q7 _ _ _) e⟩
def ordVs_all:∀(xs ys zs:ao),Sgn (eO nQ xs ys)/\eO nQ ys xs = -eO nQ xs ys/\EG (eO nQ xs ys) (eO nQ ys zs) (eO nQ xs zs)
 | [],[],[]=>by simp[Sgn,EG,eO]
 | [],[],_::_=>by simp[Sgn,EG,eO]
 | [],_::_,[]=>by simp[Sgn,EG,eO]
 | [],_::_,_::_=>by simp[Sgn,EG,eO]
 | _::_,[],_=>by refine⟨.inr (.inr (by rw[eO])),by rw[eO,eO],λh=>?_⟩;rw[eO]at h;omega
 | x::xs,y::ys,[]=>by have⟨a,b,_⟩:=ordV_all x y y;have⟨c,d,_⟩:=ordVs_all xs ys [];simp only[Ck];refine⟨uA a c,by rw[wu,b,d],λ_ h=>?_⟩;rw[eO]at h;omega
 | x::xs,y::ys,z::zs=>by have⟨a,b,e⟩:=ordV_all x y z;have⟨c,d,f⟩:=ordVs_all xs ys zs;simp only[Ck];exact⟨uA a c,by rw[wu,b,d],xP e f⟩
end
def Hq(x y:Va):Sgn (gT x y):=(ordV_all x y y).1
def Q9(x y:Va):gT y x = -gT x y:=(ordV_all x y y).2.1
def Ho(x y z:Va):EG (gT x y) (gT y z) (gT x z):=(ordV_all x y z).2.2
def jU{d:Nat}{T:Ty}(h:bf d T):(T.args.length:Int)=bT T.t/\∀y∈T.args,bf (d+1) y:=by have⟨t,args⟩:=T;simp only[bf,qt,jt]at h;refine⟨h.1.2.2,λy a=>?_⟩;have:=h.2;rw[jT,kd]at this;exact this y a
def Bo{T:Ty}{x:Va}(c:hasV x T):eX T x/\∃ts,bS T x=some ts/\hasVs x.args ts:=by
 cases x with
 | mk k n a s args types code =>
  rw[hasV]at c;simp only[qt]at c;have⟨⟨e,b⟩,_⟩:=c;refine⟨e,?_⟩
  cases d:bS T (.mk k n a s args types code)with
  | none=>rw[d]at b;cases b
  | some ts=>rw[d]at b;exact⟨ts,rfl,b⟩
def aaA(n:Int):bQ 15 n=(gN n&&decide (n≠0)):=by unfold bQ;simp
def zG{P:Program}(w:cg)(t m ty e:TypeId)(k p:IntKind)(z:cm)(a b:Nat)(c:(P.info? e).map (λi=>(i.zero,i.size,i.bytes))=some (some z,a,b))(v:P.underlying t=some (.slice e))(h:P.underlying m=some (.int p))
 (n:Nat) (h0:0<n) (hs:0<a) (hzs:z.cells.size=a) (hn:n<=1000000000) (hb:b<=1000) :
 ∃g cap w',(Builtin.append_ #[t,m] ty #[.n0,.int k n]).run P w =.ok (.o g n cap) w'/\w'.ownsRow w.heap.size e a (.o g 0 cap) 0 []/\cq w w' none/\n<=cap/\cap<=9223372036854775807:=by
 have⟨o,r,j,x,l⟩:=jg2 c;have q:n*o.bytes<=1000000000*1000:=by rw[l];exact Nat.mul_le_mul hn hb
 have u:=Lib.run_append_nil_zeros w t m ty e o z k p v h r j n h0 od od od;have f:=grownCap_ge w n 0 e;have d:grownCap w n 0 e<=maxLen:=grownCap_le_maxLen w n 0 e ZS;refine⟨_,_,_,u,⟨oe,.inr ⟨w.heap.size,_,_,rfl,jj _,xF w.drew _,yv _,d,?_,oe⟩⟩,⟨rfl,rfl,rfl,oe,λk s _=>ka4 w.drew _ s⟩,f,by unfold maxLen at d;omega⟩;simp only[Array.size_append,size_zeroCells,hzs,<-qg3]
 congr 1
 omega
def Qx:(prog.info? 29).map (λi=>(i.zero,i.size,i.bytes))=some (some (.agg #[.i 0,.i 0,.i 0,.string ⟨#[]⟩,.n0,.n0,.n0]),7,112):=oA
def dw.base{ts:aw}{a:bj}{V:bt}(h:dw ok w ts a V)(c:0<ts.length):∃b o,a=some ⟨b,o,none⟩:=by have⟨b,o,e,_⟩:=h.2.1 0 c;exact⟨b,o,e⟩
def addr_add(b o j:Nat):(⟨b,o,none⟩:Addr).add j=⟨b,o+j,none⟩:=by
 unfold Addr.add
 by_cases h:j=0
 .subst h;rfl
 .rw[if_neg h]
def gZ.grow{w':cg}{xv:cm}{m:Nat}{a:bo}(h:gZ w xv m a)(e:cq w w' none):gZ w' xv m a:=by
 rcases h with h|⟨d,c,rfl,h⟩
 .exact .inl h
 .refine .inr ⟨d,c,rfl,λj u f=>?_⟩;have b:=h j u f;exact (ke (e.block _ (qb7 w _ b) oe)).trans b
def lS (k n:Int) (s:bp):Bool:=decide (k=2/\n=0/\s.size=0)
mutual
def primB:Tr->Bool
 | .nd k n _ s args=>lS k n s&&primBs args
def primBs:aE->Bool
 | []=>true
 | t::ts=>primB t&&primBs ts
end
mutual
def kreadT:Tr->Ty
 | .nd _ _ p _ args=>.nd p (kreadTs args)
def kreadTs:aE->aw
 | []=>[]
 | t::ts=>kreadT t::kreadTs ts
end
def Kg(l:aE):kreadTs l=l.map kreadT:=by
 induction l with
 | nil=>rfl
 | cons t b a=>simp[kreadTs,a]
def oW (m:Nat) (t:Tr):Bool:=primB t&&decide (m+t.size<=300)
def fu (t:Tr):Bool:=oW 0 t&&ai (kreadT t)
