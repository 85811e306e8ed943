import Derived.Test.YtgfdimkbfnpepaaGreatKtZ0
namespace Go.Proofs.YtgfdimkbfnpepaaGreat.Lf
set_option linter.all false
open Go.Proofs.Tryz
set_option maxRecDepth 100000
set_option maxHeartbeats 4000000
open Go.ChangeShapes Go.WideShapes Go.ChangeAt Go.RowKit
variable {p:Prop}{w:bx}
def Au(s:bo):s.toList=[] ↔ s.size=0:=by rw[jc4];exact (jb7 (l:=s.data.toList)).symm.trans (by rw[qh6];rfl)
def kZ{a b:Bool}(h:a=b)(c:p):Ending.returned (.bool a) =.returned (.bool b)/\p:=by rw[h];exact⟨rfl,c⟩
def lX{k:IntKind}{a b:Int}(h:a=b)(c:p):Ending.returned (.int k a) =.returned (.int k b)/\p:=by rw[h];exact⟨rfl,c⟩
def hide(h:p):Hid p:=h
def gb(o:Obj):cm w (w.alloc o) none:=jg4 w o none
def Zt{a b c:bx}(h:cm a b none)(k:cm b c none):cm a c none :=
 ⟨k.os.trans h.os,k.tape.trans h.tape,k.output.trans h.output,km h.size k.size,λi d _=>(k.block i (ki d h.size) ot).trans (h.block i d ot)⟩
def Qr{w':bx}(h:cm w w' none):∀b o,b<w.heap.size->w'.cell? ⟨b,o,none⟩=w.cell? ⟨b,o,none⟩ :=
 λb o a=>qt (h.block b a ot)
end Go.Proofs.YtgfdimkbfnpepaaGreat.Lf
namespace Go.Proofs.YtgfdimkbfnpepaaGreat
set_option linter.all false
open Go.Proofs.Tryz
set_option maxRecDepth 100000
set_option maxHeartbeats 4000000
open Go.ChangeShapes Go.WideShapes Go.ChangeAt Go.RowKit
variable {K:Act->bx->Prop}{ops:Array Oper}{Q:Exit->Act->bx->Prop}{xs:bk}{B b base c g i l:Nat}{ok ok':br}{V:bt}{o:Oper}{p:bj}{r:Option Nat}{T U e:TypeId}{v v1 x x0 x1 x2 x3 x4 y z:cg}{w w' w0 w1 w2:bx}
def aI{a b:Prop}(x:a)(y:b):a ∧ b:=⟨x,y⟩
def jh{p:Prop}(h:p):Hid p:=h
def aK(o:Obj):cm w (w.alloc o) none:=Go.Proofs.YtgfdimkbfnpepaaGreat.Lf.gb o
def aJ{a b c:bx}(h:cm a b none)(k:cm b c none):cm a c none:=Go.Proofs.YtgfdimkbfnpepaaGreat.Lf.Zt h k
def kL{a b:bx}(h:cm a b none):cm a b r:=⟨h.os,h.tape,h.output,h.size,λk c _=>h.block k c ot⟩
def fF{a b c:bx}(h:cm a b r)(k:cm b c r):cm a c r :=
 ⟨k.os.trans h.os,k.tape.trans h.tape,k.output.trans h.output,km h.size k.size,λi d e=>(k.block i (ki d h.size) e).trans (h.block i d e)⟩
def bM(a:bx)(r:Option Nat):cm a a r:=⟨rfl,rfl,rfl,qS _,λ_ _ _=>rfl⟩
def dY{a b:bx}(h:cm a b (some g))(o:Nat)(d:Option Nat)(v:cg):cm a (b.setCell ⟨g,o,d⟩ v) (some g) :=
 fF h ⟨rfl,rfl,rfl,by simp[World.setCell],λk e c=>Below.heap_setCell _ _ _ _ (by simpa using c)⟩
def P5{x:Option Obj}{a b:Int}(c:x=some (.cells #[.i a] T (0,0)))(h:a=b):x=some (.cells #[.i b] T (0,0)):=by rw[c,h]
inductive Tr where
 | nd (k n p:Int) (s:ByteArray) (args:List Tr)
abbrev aE:=List Tr
mutual
def Tr.size:Tr->Nat
 | .nd _ _ _ _ args=>sizes args+1
def sizes:aE->Nat
 | []=>0
 | t::ts=>t.size+sizes ts
end
def sK(a b:aE):sizes (a++b)=sizes a+sizes b:=by
 induction a with
 | nil=>simp[sizes]
 | cons t d c=>simp[sizes,c];omega
def size_pos(t:Tr):1<=t.size:=by cases t;simp[Tr.size]
def gH(l:aE)(i:Nat)(h:i<l.length):sizes (l.take (i+1))=sizes (l.take i)+(l[i]).size:=by rw[qb2 h,sK];simp[sizes]
def jF(l:aE)(i:Nat):sizes (l.take i)<=sizes l:=by have h:=sK (l.take i) (l.drop i);rw[qc4]at h;omega
def cB(l:aE):l.length<=sizes l:=by
 induction l with
 | nil=>simp
 | cons t b a=>have:=size_pos t;simp[sizes];omega
def af (k n p:Int) (s:bo) (a:bj) (l c:Nat):cg:=.agg #[.i k,.i n,.i p,.string s,.slice a l c]
def ky (ok:br) (w:bx) (a:bj) (i:Nat) (v:cg):Prop :=
 ∃b o,a=some ⟨b,o,none⟩/\ok b/\∃k n p s a' l c,v=af k n p s a' l c/\w.cell? ⟨b,o+i*5,none⟩=some (.i k)/\w.cell? ⟨b,o+i*5+1,none⟩=some (.i n) /\
  w.cell? ⟨b,o+i*5+2,none⟩=some (.i p)/\w.cell? ⟨b,o+i*5+3,none⟩=some (.string s)/\w.cell? ⟨b,o+i*5+4,none⟩=some (.slice a' l c)
def bD (n:Int):Prop:=-9223372036854775808<=n/\n<=9223372036854775807
inductive bI (ok:Nat->Prop) (w:World):Tr->Value->Prop
 | mk {k n p:Int} {s:ByteArray} {args:List Tr} {a:Option Addr} {c:Nat} {hk:args.length<=c} (V:Nat->Value) (hl:args.length<=maxLen) (hs:s.size<=maxLen) (ik:bD k) (iN:bD n) (ip:bD p)
  (hc:∀i,i<args.length->ky ok w a i (V i)) (hr:∀i (h:i<args.length),bI ok w args[i] (V i)):bI ok w (.nd k n p s args) (af k n p s a args.length c)
def Same (ok:br) (w w':bx):Prop:=∀b o,ok b->b<w.heap.size->w'.cell? ⟨b,o,none⟩=w.cell? ⟨b,o,none⟩
def Same.refl(ok:br)(w:bx):Same ok w w:=λ_ _ _ _=>rfl
def Same.grown{row:Option Nat}(h:Same ok w w1)(e:w.heap.size<=w1.heap.size)(g:cm w1 w2 row)(c:∀b,ok b->some b≠row):Same ok w w2 :=
 λb o a d=>(qt (w:=w1) (g.block b (by show b<_;omega) (c b a))).trans (h b o a d)
def Same.below(h:Below B w w1):Same (· < B) w w1:=λb o a _=>h.cell (p:=⟨b,o,none⟩) a
def ky.same{a:bj}(h:ky ok w a i v)(f:Same ok w w'):ky ok w' a i v:=by have⟨b,o,u,e,k,n,p,s,j,l,c,x,g,m,q,r,t⟩:=h;have d:b<w.heap.size:=zv w _ g;exact⟨b,o,u,e,k,n,p,s,j,l,c,x,(f _ _ e d).trans g,(f _ _ e d).trans m,(f _ _ e d).trans q,(f _ _ e d).trans r,(f _ _ e d).trans t⟩
def bI.same{t:Tr}(h:bI ok w t v)(e:Same ok w w'):bI ok w' t v:=by
 induction h with
 | mk V d a j f k b _ g=>exact .mk (hk:=by assumption) V d a j f k (λi c=>(b i c).same e) g
def bI.ae{t:Tr}(h:bI ok w t v)(u:∀b,b<w.heap.size->ok b->ok' b):bI ok' w t v:=by
 induction h with
 | mk V r f A y B m _ z =>
  refine .mk (hk:=by assumption) V r f A y B (λi q=>?_) z;have⟨b,o,g,j,k,n,p,s,d,l,c,x,a,e⟩:=m i q;exact⟨b,o,g,u b (zv w _ a) j,k,n,p,s,d,l,c,x,a,e⟩
def Gr (w:bx) (vb:cg) (w':bx) (v':cg):Prop:=cm w w' vb.ownBlock/\(v'.ownBlock=vb.ownBlock\/∃g,v'.ownBlock=some g/\w.heap.size<=g)
def Gr.refl(w:bx)(v:cg):Gr w v w v:=⟨bM _ _,.inl rfl⟩
def Gr.trans{l:cg}(h:Gr w v w1 v1)(k:Gr w1 v1 w2 l):Gr w v w2 l:=by
 have⟨b,a⟩:=h;have⟨d,c⟩:=k;refine⟨⟨d.os.trans b.os,d.tape.trans b.tape,d.output.trans b.output,km b.size d.size,λi f j=>?_⟩,?_⟩
 .refine (d.block i (ki f b.size) ?_).trans (b.block i f j);rcases a with a|⟨g,a,e⟩
  .rw[a];exact j
  .rw[a];simp;omega
 .rcases c with c|⟨g,c,e⟩
  .rcases a with a|⟨g,a,e⟩
   .exact .inl (c.trans a)
   .exact .inr ⟨g,c.trans a,e⟩
  .exact .inr ⟨g,c,km b.size e⟩
def Gr.QY(h:Gr w.drew v w1 v1):Gr w v w1 v1:=⟨⟨h.1.os,h.1.tape,h.1.output,h.1.size,h.1.block⟩,h.2⟩
def Gr.alloc(h:Gr w v w1 v1)(o:Obj):Gr w v (w1.alloc o) v1:=h.trans ⟨jg4 _ _ _,.inl rfl⟩
def Gr.block(h:Gr w v w1 v1){k:Nat}(hk:k<w.heap.size)(a:some k≠v.ownBlock):w1.heap[k]?=w.heap[k]?:=h.1.block k hk a
def bE(h:w.heap[g]?=some (.cells #[x0,x1,x2,x3,x4] T (0,0))) :
 w.cell? ⟨g,0,none⟩=some x0/\w.cell? ⟨g,1,none⟩=some x1/\w.cell? ⟨g,2,none⟩=some x2/\w.cell? ⟨g,3,none⟩=some x3/\w.cell? ⟨g,4,none⟩=some x4:=by
 simp[World.cell?,h]
def kC(h:w.heap[g]?=some (.cells #[x0,x1,x2,x3,x4] T (0,0))) :
 w.frozen? ⟨g,0,none⟩=false/\w.frozen? ⟨g,1,none⟩=false/\w.frozen? ⟨g,2,none⟩=false/\w.frozen? ⟨g,3,none⟩=false/\w.frozen? ⟨g,4,none⟩=false:=by
 simp[World.frozen?,h]
def fC (w:bx) (g:Nat) (y0 y1 y2 y3 y4:cg):bx:=((((w.setCell ⟨g,0,none⟩ y0).setCell ⟨g,1,none⟩ y1).setCell ⟨g,2,none⟩ y2).setCell ⟨g,3,none⟩ y3).setCell ⟨g,4,none⟩ y4
def dH(h:w.heap[g]?=some (.cells #[x0,x1,x2,x3,x4] T (0,0)))(a b c d e:cg) :
 (fC w g a b c d e).heap[g]?=some (.cells #[a,b,c,d,e] T (0,0)):=by
 simp[fC,World.setCell,ux,h]
def dW(w:bx)(g:Nat)(a b c d e:cg):cm w (fC w g a b c d e) (some g) :=
 dY (dY (dY (dY (dY (bM _ _) _ _ _) _ _ _) _ _ _) _ _ _) _ _ _
def bH{N o:Nat}{ob:Obj}(h:w.heap[g]?=some ob)(a:g≠N)(u:cg):(w.setCell ⟨N,o,none⟩ u).heap[g]?=some ob:=by rw[Below.heap_setCell _ _ _ _ a];exact h
def kM(h:w.heap[g]?=some (.cells #[x0,x1,x2,x3,x4] T (0,0)))(u:cg) :
 (w.setCell ⟨g,1,none⟩ u).heap[g]?=some (.cells #[x0,u,x2,x3,x4] T (0,0))/\(w.setCell ⟨g,2,none⟩ u).heap[g]?=some (.cells #[x0,x1,u,x3,x4] T (0,0)) /\
 (w.setCell ⟨g,3,none⟩ u).heap[g]?=some (.cells #[x0,x1,x2,u,x4] T (0,0))/\(w.setCell ⟨g,4,none⟩ u).heap[g]?=some (.cells #[x0,x1,x2,x3,u] T (0,0)):=by
 simp[World.setCell,ux,h]
def aG{b:bx}(h:cm w w2 r)(k:cm w2 b (some g))(d:w.heap.size<=g):cm w b r :=
 ⟨k.os.trans h.os,k.tape.trans h.tape,k.output.trans h.output,km h.size k.size,λi a c=>(k.block i (ki a h.size) oB).trans (h.block i a c)⟩
def CJ(w:bx)(o a:Obj):((w.alloc o).alloc a).heap[w.heap.size]?=some o:=by rw[qd2 (h:=by simp)];exact jj _ _
def fK(h:cm w w' r):cm w w'.drew r:=⟨h.os,h.tape,h.output,h.size,h.block⟩
def iW{n:Nat}(h:cm w w' r):cm w (w'.drewN n) r:=⟨h.os,h.tape,h.output,h.size,h.block⟩
def xq{t:TypeId}(h:w.heap[b]?=some (.cells #[x,y] t (0,0))):w.cell? ⟨b,0,none⟩=some x:=by simp[World.cell?,h]
def wy{t:TypeId}(h:w.heap[b]?=some (.cells #[x,y] t (0,0))):w.cell? ⟨b,1,none⟩=some y:=by simp[World.cell?,h]
def ui(h:w.heap[b]?=some (.cells #[x,y] T (0,0))):∀o,w.frozen? ⟨b,o,none⟩=false:=by intro o;simp[World.frozen?,h]
def aB{k:Nat}{o x:Obj}(h:w.heap[k]?=some x):(w.alloc o).heap[k]?=some x:=by rw[qd2 (h:=(qq.1 h).1)];exact h
def qX(w:bx)(p:Addr)(v:cg):(w.setCell p v).heap.size=w.heap.size:=ot
inductive Ty where
 | nd (t:Int) (args:List Ty)
abbrev ao:=List Ty
def Ty.t:Ty->Int
 | .nd t _=>t
def Ty.args:Ty->ao
 | .nd _ l=>l
mutual
def Ty.size:Ty->Nat
 | .nd _ args=>tysizes args+1
def tysizes:ao->Nat
 | []=>0
 | t::ts=>t.size+tysizes ts
end
def pg(a b:ao):tysizes (a++b)=tysizes a+tysizes b:=by
 induction a with
 | nil=>simp[tysizes]
 | cons t d c=>simp[tysizes,c];omega
def Cz(t:Ty):1<=t.size:=by cases t;simp[Ty.size]
def lU(l:ao)(i:Nat)(h:i<l.length):tysizes (l.take (i+1))=tysizes (l.take i)+(l[i]).size:=by rw[qb2 h,pg];simp[tysizes]
def sQ(l:ao)(i:Nat):tysizes (l.take i)<=tysizes l:=by have h:=pg (l.take i) (l.drop i);rw[qc4]at h;omega
def pW(l:ao):l.length<=tysizes l:=by
 induction l with
 | nil=>simp
 | cons t b a=>have:=Cz t;simp[tysizes];omega
def jS{l:ao}{x:Ty}(h:x∈l):x.size<=tysizes l:=by
 induction l with
 | nil=>simp at h
 | cons t b a =>
  simp[tysizes];rcases zr.1 h with rfl|h
  .omega
  .have:=a h;omega
def bY (t:Int) (a:bj) (l c:Nat):cg:=.agg #[.i t,.slice a l c]
def rC (ok:br) (w:bx) (a:bj) (i:Nat) (v:cg):Prop :=
 ∃b o,a=some ⟨b,o,none⟩/\ok b/\∃t a' l c,v=bY t a' l c/\w.cell? ⟨b,o+i*2,none⟩=some (.i t)/\w.cell? ⟨b,o+i*2+1,none⟩=some (.slice a' l c)
inductive aH (ok:Nat->Prop) (w:World):Ty->Value->Prop
 | mk {t:Int} {args:List Ty} {a:Option Addr} {c:Nat} (V:Nat->Value) (hl:args.length<=maxLen) (hlc:args.length<=c) (it:bD t)
  (hc:∀i,i<args.length->rC ok w a i (V i)) (hr:∀i (h:i<args.length),aH ok w args[i] (V i)):aH ok w (.nd t args) (bY t a args.length c)
def dw (ok:br) (w:bx) (ts:ao) (a:bj) (V:bt):Prop :=
 ts.length<=maxLen/\(∀i,i<ts.length->rC ok w a i (V i))/\∀i (h:i<ts.length),aH ok w ts[i] (V i)
def rC.same{a:bj}(h:rC ok w a i v)(g:Same ok w w'):rC ok w' a i v:=by have⟨b,o,m,e,t,j,l,c,n,f,k⟩:=h;have d:b<w.heap.size:=zv w _ f;exact⟨b,o,m,e,t,j,l,c,n,(g _ _ e d).trans f,(g _ _ e d).trans k⟩
def rC.ae{a:bj}(h:rC ok w a i v)(k:∀b,b<w.heap.size->ok b->ok' b):rC ok' w a i v:=by have⟨b,o,g,j,t,e,l,c,m,d,f⟩:=h;exact⟨b,o,g,k b (zv w _ d) j,t,e,l,c,m,d,f⟩
def aH.same{t:Ty}(h:aH ok w t v)(e:Same ok w w'):aH ok w' t v:=by
 induction h with
 | mk V d a g b _ f=>exact .mk V d a g (λi c=>(b i c).same e) f
def aH.ae{t:Ty}(h:aH ok w t v)(f:∀b,b<w.heap.size->ok b->ok' b):aH ok' w t v:=by
 induction h with
 | mk V e a j c _ g=>exact .mk V e a j (λi d=>(c i d).ae f) g
def dw.same{ts:ao}{a:bj}(h:dw ok w ts a V)(c:Same ok w w'):dw ok w' ts a V :=
 ⟨h.1,λi b=>(h.2.1 i b).same c,λi b=>(h.2.2 i b).same c⟩
def dw.ae{ts:ao}{a:bj}(h:dw ok w ts a V)(d:∀b,b<w.heap.size->ok b->ok' b):dw ok' w ts a V :=
 ⟨h.1,λi c=>(h.2.1 i c).ae d,λi c=>(h.2.2 i c).ae d⟩
def dw.nil(ok:br)(w:bx)(a:bj)(V:bt):dw ok w [] a V :=
 ⟨ZS,λi b=>by simp at b,λi b=>by simp at b⟩
def aH.inv{t:Ty}(h:aH ok w t v):∃a c V,v=bY t.t a t.args.length c/\bD t.t/\dw ok w t.args a V:=by
 cases h with
 | mk V d e g b f=>exact⟨_,_,V,rfl,g,d,b,f⟩
def aH.cap{T:Ty}{t:Int}{a:bj}(h:aH ok w T (Go.Proofs.YtgfdimkbfnpepaaGreat.bY t a l c)):l<=c:=by
 generalize b:Go.Proofs.YtgfdimkbfnpepaaGreat.bY t a l c=v at h
 cases h with
 | mk V f d i e g =>
  unfold Go.Proofs.YtgfdimkbfnpepaaGreat.bY at b;simp only[qd7,qf0,xo,kl,and_true]at b;omega
def qP{size n:Nat}(h:w.ownsRow B e size v n xs){a:bj}(j:v =.slice a l c):l<=c:=by
 subst j;rcases h.2 with⟨b,_⟩|⟨g,d,f,b,_,_,i,_⟩
 .simp only[kl]at b;omega
 .simp only[kl]at b;omega
def aH.of{t:Int}{ts:ao}{a:bj}(d:bD t)(h:dw ok w ts a V)(b:ts.length<=c):aH ok w (.nd t ts) (bY t a ts.length c) :=
 .mk V h.1 b d h.2.1 h.2.2
def rC.cells{a:bj}(h:rC ok w a i v) :
 ∃b o t d l c,a=some ⟨b,o,none⟩/\ok b/\v=bY t d l c/\w.cell? ⟨b,o+i*2,none⟩=some (.i t)/\w.cell? ⟨b,o+i*2+1,none⟩=some (.slice d l c):=by
 have⟨b,o,g,j,t,d,l,c,k,e,f⟩:=h;exact⟨b,o,t,d,l,c,g,j,k,e,f⟩
inductive Va where
 | mk (k n a:Int) (s:ByteArray) (args:List Va) (types:List Ty) (code:List Tr)
abbrev an:=List Va
def Va.k:Va->Int
 | .mk k _ _ _ _ _ _=>k
def Va.n:Va->Int
 | .mk _ n _ _ _ _ _=>n
def Va.a:Va->Int
 | .mk _ _ a _ _ _ _=>a
def Va.s:Va->bo
 | .mk _ _ _ s _ _ _=>s
def Va.args:Va->an
 | .mk _ _ _ _ l _ _=>l
def Va.types:Va->ao
 | .mk _ _ _ _ _ t _=>t
def Va.code:Va->aE
 | .mk _ _ _ _ _ _ c=>c
mutual
def Va.size:Va->Nat
 | .mk _ _ _ _ args types code=>vsizes args+tysizes types+sizes code+1
def vsizes:an->Nat
 | []=>0
 | t::ts=>t.size+vsizes ts
end
def kK(a b:an):vsizes (a++b)=vsizes a+vsizes b:=by
 induction a with
 | nil=>simp[vsizes]
 | cons t d c=>simp[vsizes,c];omega
def qZ(t:Va):1<=t.size:=by cases t;simp[Va.size]
def eP(v:Va):v.size=vsizes v.args+tysizes v.types+sizes v.code+1:=by cases v;simp[Va.size,Va.args,Va.types,Va.code]
def kS(l:an):l.length<=vsizes l:=by
 induction l with
 | nil=>simp
 | cons t b a=>have:=qZ t;simp[vsizes];omega
def fO{l:an}{x:Va}(h:x∈l):x.size<=vsizes l:=by
 induction l with
 | nil=>simp at h
 | cons t b a =>
  simp[vsizes];rcases zr.1 h with rfl|h
  .omega
  .have:=a h;omega
def cK (ok:br) (w:bx) (ts:aE) (a:bj) (V:bt):Prop :=
 ts.length<=maxLen/\(∀i,i<ts.length->ky ok w a i (V i))/\∀i (h:i<ts.length),bI ok w ts[i] (V i)
def ky.ae{a:bj}(h:ky ok w a i v)(m:∀b,b<w.heap.size->ok b->ok' b):ky ok' w a i v:=by have⟨b,o,g,j,k,n,p,s,e,l,c,q,d,f⟩:=h;exact⟨b,o,g,m b (zv w _ d) j,k,n,p,s,e,l,c,q,d,f⟩
def cK.same{ts:aE}{a:bj}(h:cK ok w ts a V)(c:Same ok w w'):cK ok w' ts a V :=
 ⟨h.1,λi b=>(h.2.1 i b).same c,λi b=>(h.2.2 i b).same c⟩
def cK.ae{ts:aE}{a:bj}(h:cK ok w ts a V)(d:∀b,b<w.heap.size->ok b->ok' b):cK ok' w ts a V :=
 ⟨h.1,λi c=>(h.2.1 i c).ae d,λi c=>(h.2.2 i c).ae d⟩
def cK.nil(ok:br)(w:bx)(a:bj)(V:bt):cK ok w [] a V :=
 ⟨ZS,λi b=>by simp at b,λi b=>by simp at b⟩
def bg (k n a:Int) (s:bo) (aa:bj) (al ac:Nat) (ta:bj) (tl tc:Nat) (na:bj) (nl nc:Nat):cg :=
 .agg #[.i k,.i n,.i a,.string s,.slice aa al ac,.slice ta tl tc,.slice na nl nc]
def AX (ok:br) (w:bx) (p:bj) (i:Nat) (v:cg):Prop :=
 ∃b o,p=some ⟨b,o,none⟩/\ok b/\∃k n a s aa al ac ta tl tc na nl nc,v=bg k n a s aa al ac ta tl tc na nl nc/\w.cell? ⟨b,o+i*7,none⟩=some (.i k)/\w.cell? ⟨b,o+i*7+1,none⟩=some (.i n) /\
  w.cell? ⟨b,o+i*7+2,none⟩=some (.i a)/\w.cell? ⟨b,o+i*7+3,none⟩=some (.string s)/\w.cell? ⟨b,o+i*7+4,none⟩=some (.slice aa al ac)/\w.cell? ⟨b,o+i*7+5,none⟩=some (.slice ta tl tc)/\w.cell? ⟨b,o+i*7+6,none⟩=some (.slice na nl nc)
inductive aA (ok:Nat->Prop) (w:World):Va->Value->Prop
 | mk {k n a:Int} {s:ByteArray} {args:List Va} {types:List Ty} {code:List Tr} {aa ta na:Option Addr} {ac tc nc:Nat} {hnk:code.length<=nc/\types.length<=tc} (V VT VN:Nat->Value) (hl:args.length<=maxLen) (hlc:args.length<=ac) (hs:s.size<=maxLen) (ik:bD k) (iN:bD n) (ia:bD a)
  (hT:dw ok w types ta VT) (hN:cK ok w code na VN)
  (hc:∀i,i<args.length->AX ok w aa i (V i)) (hr:∀i (h:i<args.length),aA ok w args[i] (V i)):aA ok w (.mk k n a s args types code) (bg k n a s aa args.length ac ta types.length tc na code.length nc)
def aT (ok:br) (w:bx) (ts:an) (a:bj) (V:bt):Prop :=
 ts.length<=maxLen/\(∀i,i<ts.length->AX ok w a i (V i))/\∀i (h:i<ts.length),aA ok w ts[i] (V i)
def AX.same(h:AX ok w p i v)(e:Same ok w w'):AX ok w' p i v:=by have⟨b,o,x,d,k,n,a,s,g,al,j,C,tl,D,z,B,A,y,f,l,m,q,r,t,u⟩:=h;have c:b<w.heap.size:=zv w _ f;exact⟨b,o,x,d,k,n,a,s,g,al,j,C,tl,D,z,B,A,y,(e _ _ d c).trans f,(e _ _ d c).trans l,(e _ _ d c).trans m,(e _ _ d c).trans q,(e _ _ d c).trans r,(e _ _ d c).trans t,(e _ _ d c).trans u⟩
def AX.ae(h:AX ok w p i v)(j:∀b,b<w.heap.size->ok b->ok' b):AX ok' w p i v:=by have⟨b,o,l,g,k,n,a,s,d,al,e,u,tl,x,q,t,r,m,c,f⟩:=h;exact⟨b,o,l,j b (zv w _ c) g,k,n,a,s,d,al,e,u,tl,x,q,t,r,m,c,f⟩
def aA.same{t:Va}(h:aA ok w t v)(b:Same ok w w'):aA ok w' t v:=by
 induction h with
 | mk V d c k a e o l m f hN g _ n=>exact .mk (hnk:=by assumption) V d c k a e o l m (f.same b) (hN.same b) (λi j=>(g i j).same b) n
def aA.ae{t:Va}(h:aA ok w t v)(c:∀b,b<w.heap.size->ok b->ok' b):aA ok' w t v:=by
 induction h with
 | mk V e d l a f p m n g hN j _ o=>exact .mk (hnk:=by assumption) V e d l a f p m n (g.ae c) (hN.ae c) (λi k=>(j i k).ae c) o
def aT.same{ts:an}{a:bj}(h:aT ok w ts a V)(c:Same ok w w'):aT ok w' ts a V :=
 ⟨h.1,λi b=>(h.2.1 i b).same c,λi b=>(h.2.2 i b).same c⟩
def aT.ae{ts:an}{a:bj}(h:aT ok w ts a V)(d:∀b,b<w.heap.size->ok b->ok' b):aT ok' w ts a V :=
 ⟨h.1,λi c=>(h.2.1 i c).ae d,λi c=>(h.2.2 i c).ae d⟩
def aT.nil(ok:br)(w:bx)(a:bj)(V:bt):aT ok w [] a V :=
 ⟨ZS,λi b=>by simp at b,λi b=>by simp at b⟩
def aA.inv{x:Va}(h:aA ok w x v):∃c ac ta tc na nc V VT VN,v=bg x.k x.n x.a x.s c x.args.length ac ta x.types.length tc na x.code.length nc/\(bD x.k/\bD x.n/\bD x.a/\x.s.size<=maxLen/\x.args.length<=ac)/\aT ok w x.args c V/\dw ok w x.types ta VT/\cK ok w x.code na VN:=by
 cases h with
 | mk V VT VN f b i m j l d hN e g=>exact⟨_,_,_,_,_,_,V,VT,VN,rfl,⟨m,j,l,i,b⟩,⟨f,e,g⟩,d,hN⟩
def aA.of{k n a:Int}{s:bo}{args:an}{types:ao}{code:aE}{c ta na:bj}{ac tc nc:Nat}{VT VN:bt}(b:args.length<=ac)(d:s.size<=maxLen)(g:bD k)(e:bD n)(f:bD a)
 (h:aT ok w args c V) (hT:dw ok w types ta VT) (hN:cK ok w code na VN) (hnk:code.length<=nc/\types.length<=tc:=by simp):aA ok w (.mk k n a s args types code) (bg k n a s c args.length ac ta types.length tc na code.length nc) :=
 .mk (hnk:=hnk) V VT VN h.1 b d g e f hT hN h.2.1 h.2.2
def aA.bg{t:Va}{u:cg}(h:aA ok w t u):∃k n a s b al ac ta tl tc na c nc,u=bg k n a s b al ac ta tl tc na c nc:=by cases h;exact⟨_,_,_,_,_,_,_,_,_,_,_,_,_,rfl⟩
def cO{a b:cg}(h:w.heap[g]?=some (.cells #[x0,x1,x2,x3,x4,a,b] T (0,0))) :
 w.cell? ⟨g,0,none⟩=some x0/\w.cell? ⟨g,1,none⟩=some x1/\w.cell? ⟨g,2,none⟩=some x2/\w.cell? ⟨g,3,none⟩=some x3/\w.cell? ⟨g,4,none⟩=some x4/\w.cell? ⟨g,5,none⟩=some a/\w.cell? ⟨g,6,none⟩=some b:=by
 simp[World.cell?,h]
def ni(h:cm w w' none):Same (λ_=>True) w w':=λb o _ a=>qt (h.block b a ot)
def ZJ{a b c:bx}(h:Hid (cm a b none))(g:cm b c none):Hid (cm a c none):=aJ h g
def ZL{t:Ty}(h:Hid (aH (λ_=>True) w t v))(g:cm w w' none):Hid (aH (λ_=>True) w' t v):=h.out.same (ni g)
def gZ (w:bx) (xv:cg) (m:Nat) (news:bk):Prop :=
 (∃c,xv =.slice none 0 c/\m=0/\news=[])\/∃ad c,xv =.slice (some ad) m c/\∀j u,news[j]?=some u->w.cell? (ad.add j)=some u
def gZ.alloc{xv:cg}{m:Nat}{a:bk}(h:gZ w xv m a)(o:Obj):gZ (w.alloc o) xv m a:=by
 rcases h with h|⟨d,c,rfl,h⟩
 .exact .inl h
 .refine .inr ⟨d,c,rfl,λj u e=>?_⟩;have b:=h j u e;exact (qt ((qd2 (w:=w) (o:=o) (h:=zv w _ b)))).trans b
def gZ.new(w:bx)(e:TypeId)(cs:Array cg)(m c:Nat):gZ (w.alloc (.cells cs e)) (.o (w.heap.size) m c) m cs.toList :=
 .inr ⟨_,_,rfl,λj u a=>jb0 (w:=w.alloc _) (B:=w.heap.size) (cs:=cs) (jj _ _) j u a⟩
def U9(w:bx)(d:Nat)(t ty e:TypeId)(i:TypeInfo)(z:cg)(a b:Nat)(k:prog.underlying t=some (.slice e))(hi:prog.info? e=some i)(y:i.zero=some z)
 (hsize:i.size=a) (hby:i.bytes=b) (hzs:z.cells.size=a) (hsz:0<a) (v:cg) (n:Nat) (xs:bk) (hown:w.ownsRow d e a v n xs)
 (xv:cg) (m:Nat) (news:bk) (hl:news.length=m*a) (hsrc:gZ w xv m news) (h1:∀u∈news,u.oneCell') (h63:n+m<=maxLen) (hbytes:(n+m)*b<=140737488355328) (hbase:d<=w.heap.size) :
 ∃v' w',(Builtin.append_ #[t,t] ty #[v,xv]).run prog w =.ok v' w'/\w'.ownsRow d e a v' (n+m) (xs++news)/\Gr w v w' v'/\(v' =.n0 ↔ v =.n0/\m=0):=by
 rcases hsrc with⟨c,rfl,rfl,rfl⟩|⟨l,c,rfl,f⟩
 .refine⟨v,w,?_,by simpa using hown,Gr.refl _ _,ot⟩;rcases hown.2 with⟨rfl,rfl⟩|⟨g,o,p,rfl,_,A,j,_⟩
  .simp[Builtin.append_,qc2 k,sizeOf,typeInfo,hi,Builtin.lenOf,Builtin.firstCells]
  .simp[Builtin.append_,qc2 k,sizeOf,typeInfo,hi,Builtin.lenOf,Builtin.firstCells,j,storeCells]
 .have⟨v',w',x,q,r,s,h⟩:=run_append_own_at (P:=prog) w d t ty e i z a b k hi y hsize hby hzs hsz v n xs hown l m c news hl f h1 h63 hbytes hbase;refine⟨v',w',x,q,⟨r,?_⟩,s⟩;rcases h with h|h
  .exact .inl h
  .exact .inr ⟨_,h,qS _⟩
def Sl{a:Act}(s x:Operand)(t:TypeId)
 (ho:o.op =.call { callee:=.builtin .append,args:=#[s,x],argTypes:=#[t,t] })
 (base:Nat) (e:TypeId) (i:TypeInfo) (z:cg) (size bytes:Nat) (ht:prog.underlying t=some (.slice e)) (hi:prog.info? e=some i) (hz:i.zero=some z)
 (hsize:i.size=size) (hby:i.bytes=bytes) (hzs:z.cells.size=size) (hsz:0<size) (v:cg) (n:Nat) (xs:bk) (hs:a.eval s=v) (hown:w.ownsRow base e size v n xs)
 (xv:cg) (m:Nat) (news:bk) (hx:a.eval x=xv) (hl:news.length=m*size) (hsrc:gZ w xv m news) (h1:∀u∈news,u.oneCell') (h63:n+m<=maxLen) (hbytes:(n+m)*bytes<=140737488355328) (hbase:base<=w.heap.size)
 (h:∀v' w',w'.ownsRow base e size v' (n+m) (xs++news)->Gr w v w' v'->(v' =.n0 ↔ v =.n0/\m=0)->K (a.put o.dst v') w'):o.wp prog a w K Q:=by
 have⟨v',w',f,b,c,d⟩:=U9 w base t o.type e i z size bytes ht hi hz hsize hby hzs hsz v n xs hown xv m news hl hsrc h1 h63 hbytes hbase;unfold Oper.wp execOp;simp only[ho,resolve,invoke,builtin,qa7,jd6,Result.andThen_ok,List.map_toArray,qc3,jb3,hs,hx,f];exact h v' w' b c d
def ed{b:List Oper}{a:Act}(c:o.guard=none)(s x:Operand)(t:TypeId)
 (ho:o.op =.call { callee:=.builtin .append,args:=#[s,x],argTypes:=#[t,t] })
 (base:Nat) (e:TypeId) {size bytes:Nat} (ht:prog.underlying t=some (.slice e)) (hinf:(prog.info? e).map (λi=>(i.zero,i.size,i.bytes))=some (some z,size,bytes))
 (hzs:z.cells.size=size) (hsz:0<size) (v:cg) (n:Nat) (xs:bk) (hs:a.eval s=v) (hown:w.ownsRow base e size v n xs)
 (xv:cg) (m:Nat) (news:bk) (hx:a.eval x=xv) (hl:news.length=m*size) (hsrc:gZ w xv m news) (h1:∀u∈news,u.oneCell') (h63:n+m<=maxLen) (hbytes:(n+m)*bytes<=140737488355328) (hbase:base<=w.heap.size)
 (h:∀v' w',w'.ownsRow base e size v' (n+m) (xs++news)->Gr w v w' v'->(v' =.n0 ↔ v =.n0/\m=0)->wpList prog ops Q b (a.put o.dst v') w'):wpList prog ops Q (o::b) a w:=by
 have⟨r,q,d,f,g⟩:=ja0 hinf;exact wpList_plain c λ_ p=>Sl s x t ho base e r z size bytes ht q d f g hzs hsz v n xs hs hown xv m news hx hl hsrc h1 h63 hbytes hbase λv' w' j k l=>p _ _ (h v' w' j k l)
def yx{a:Act}{E:Prop}(b:o.guard=none)(s x:Operand)(t:TypeId)
 (ho:o.op =.call { callee:=.builtin .append,args:=#[s,x],argTypes:=#[t,t] })
 (base:Nat) (e:TypeId) {size bytes:Nat} (ht:prog.underlying t=some (.slice e)) (hinf:(prog.info? e).map (λi=>(i.zero,i.size,i.bytes))=some (some z,size,bytes))
 (hzs:z.cells.size=size) (hsz:0<size) (v:cg) (n:Nat) (xs:bk) (hs:a.eval s=v) (hown:w.ownsRow base e size v n xs)
 (xv:cg) (m:Nat) (news:bk) (hx:a.eval x=xv) (hl:news.length=m*size) (hsrc:gZ w xv m news) (h1:∀u∈news,u.oneCell') (h63:n+m<=maxLen) (hbytes:(n+m)*bytes<=140737488355328) (hbase:base<=w.heap.size)
 (h:∀v' w',w'.ownsRow base e size v' (n+m) (xs++news)->Gr w v w' v'->(v' =.n0 ↔ v =.n0/\m=0)->K (a.put o.dst v') w') :
 if Region.wanted o (yielded ops a.tmps)then Oper.wp prog o a w K Q else E:=by
 have j:Region.wanted o (yielded ops a.tmps):=by simp[Region.wanted,b]
 rw[if_pos j];have⟨k,g,c,d,f⟩:=ja0 hinf;exact Sl s x t ho base e k z size bytes ht g c d f hzs hsz v n xs hs hown xv m news hx hl hsrc h1 h63 hbytes hbase h
def BO{size n:Nat}(h:w.ownsRow base e size v n xs)(a:v ≠ .n0):∃g cap,v =.o g n cap/\base<=g/\g<w.heap.size:=by
 rcases h.2 with⟨rfl,_⟩|⟨g,cap,b,rfl,c,d,_⟩
 .exact absurd rfl a
 .exact⟨g,cap,rfl,c,(qq.1 d).1⟩
def Fe{size n:Nat}(h:w.ownsRow base e size v n xs):gZ w v n xs:=by
 rcases h.2 with⟨rfl,rfl⟩|⟨g,a,b,rfl,c,d,_⟩
 .exact .inl ⟨0,rfl,rfl,jx (by simpa using h.1)⟩
 .exact .inr ⟨_,_,rfl,qb0 h (g:=g) rfl⟩
def dC{x y:Nat}{cs ds:Array cg}(c:w.heap[x]?=some (.cells cs T (0,0)))(a:w.heap[y]?=some (.cells ds U (0,0)))(h:T≠U):x≠y:=by intro e;subst e;rw[c]at a;injection a with a;injection a with d b;exact h b
def aD{size n:Nat}(h:w.ownsRow B e size v n xs){y:Nat}{ds:Array cg}(f:w.heap[y]?=some (.cells ds U (0,0)))(c:e≠U):some y≠v.ownBlock:=by
 rcases h.2 with⟨rfl,_⟩|⟨g,a,b,rfl,_,d,_⟩
 .simp[Value.ownBlock]
 .have:=dC d f c;simp[Value.ownBlock];omega
def dX{b n:Nat}(h:cm w0 w none)(d:w.ownsRow B e b v n xs)(g:w0.heap.size<=B)(a:cm w w' v.ownBlock):cm w0 w' none :=
 ⟨a.os.trans h.os,a.tape.trans h.tape,a.output.trans h.output,km h.size a.size,λi c f=>(a.block i (ki c h.size) (λe=>by have:=(zp d i e.symm).1;omega)).trans (h.block i c f)⟩
def aX(h:cm w0 w none)(hb:w0.heap.size<=b)(o:Nat)(d:Option Nat)(v:cg):cm w0 (w.setCell ⟨b,o,d⟩ v) none :=
 ⟨h.os,h.tape,h.output,by rw[qX];exact h.size,λi a c=>(Below.heap_setCell _ _ _ _ (by show i≠b;omega)).trans (h.block i a c)⟩
namespace Halves
set_option maxRecDepth 100000
set_option maxHeartbeats 4000000
def low{a:Nat}(h:a<18446744073709551616):bits .and .u64 (a:Int) 4294967295=((a % 4294967296:Nat):Int):=by have e:=bits_and_u64_nat a 4294967295 h od;rw[show a &&& 4294967295=a % 4294967296 from jg6 a 32]at e;exact e
def high(a:Nat):(a:Int) / 4294967296=((a / 4294967296:Nat):Int):=od
def prod(a b:Nat):(a:Int)*(b:Int)=((a*b:Nat):Int):=(Int.natCast_mul a b).symm
def sum(a b:Nat):(a:Int)+(b:Int)=((a+b:Nat):Int):=(Int.natCast_add a b).symm
def stays{a:Nat}(h:a<18446744073709551616):IntKind.u64.wrap (a:Int)=(a:Int):=by rw[IntKind.wrap_u64];omega
def turns(a:Nat):IntKind.u64.wrap (a:Int)=((a % 18446744073709551616:Nat):Int):=by rw[IntKind.wrap_u64];omega
end Halves
def DX(x y:Nat)(f:x<18446744073709551616)(g:y<18446744073709551616)(w:bx) :
 Calls prog 213 #[.int .u64 x,.int .u64 y] w λe w'=>e =.returned (.tuple #[.int .u64 ((x*y / 18446744073709551616:Nat):Int),.int .u64 ((x*y % 18446744073709551616:Nat):Int)])/\w'=w:=by
 have⟨i,d,j,c⟩:=Lib.mul64_hi x y f g;have p:=Lib.half_mul_le (a:=x / 4294967296) (b:=y / 4294967296) od od;have p2:=Lib.half_mul_le (a:=x / 4294967296) (b:=y % 4294967296) od od;have q:=Lib.half_mul_le (a:=x % 4294967296) (b:=y / 4294967296) od od;have k:x / 4294967296*(y / 4294967296)<18446744073709551616:=od
 have l:x / 4294967296*(y % 4294967296)<18446744073709551616:=od
 have m:x % 4294967296*(y / 4294967296)<18446744073709551616:=od
 have n:x / 4294967296*(y / 4294967296)+(x / 4294967296*(y % 4294967296)+x % 4294967296*(y % 4294967296) / 4294967296) / 4294967296<18446744073709551616:=od
 have o:x / 4294967296*(y / 4294967296)+(x / 4294967296*(y % 4294967296)+x % 4294967296*(y % 4294967296) / 4294967296) / 4294967296+((x / 4294967296*(y % 4294967296)+x % 4294967296*(y % 4294967296) / 4294967296) % 4294967296+x % 4294967296*(y / 4294967296)) / 4294967296<18446744073709551616:=od
 have h:Hid (_=_):=c;clear c;go_enter func213,ntmps213
 go_wp2
 simp only[Halves.low f,Halves.low g,Halves.high,Halves.prod,Halves.sum,Halves.stays i,Halves.stays l,Halves.stays d,Halves.low d,Halves.stays m,Halves.stays j,Halves.stays k,Halves.stays n,Halves.stays o,Halves.turns (x*y)];rw[h.out];go_ret2;exact⟨rfl,rfl⟩
def P6(n:Nat)(hn:n<1000000)(w:bx) :
 Calls prog 208 #[.int .u64 1,.int .u64 n] w λe w'=>e =.returned (.tuple #[.int .u64 0,.int .u64 n])/\w'=w:=by
 have h:=DX 1 n od od;have a:1*n / 18446744073709551616=0:=od
 have b:1*n % 18446744073709551616=n:=od
 rw[a,b]at h;have H:=jh h;clear h a b;go_enter func208,ntmps208;go_wp2_with fail;refine (H _).mono ?_;rintro e w' ⟨rfl,rfl⟩;go_wp2_with fail;go_ret2;exact⟨rfl,rfl⟩
end Go.Proofs.YtgfdimkbfnpepaaGreat
namespace Go.Proofs.YtgfdimkbfnpepaaGreat
set_option linter.all false
open Go.Proofs.Tryz
set_option maxRecDepth 100000
set_option maxHeartbeats 4000000
open Go.ChangeShapes Go.WideShapes Go.ChangeAt Go.RowKit
variable {ops:Array Oper}{Q:Exit->Act->bx->Prop}{f g inn inn':Int->Bool}{rest:List Oper}{vs:bk}{H c cb d db l m pb:Nat}{o:Oper}{α:Type}{u v:cg}{w w' w2:bx}
def Om(w:bx)(k n ty elem:TypeId)(i:TypeInfo)(m:prog.underlying k=some (.slice elem))(hi:prog.info? elem=some i)(g o b d:Nat)(f:Addr)(c e:Nat)(a:Array cg)(t:TypeId)(cs:bk)
 (hg:w.heap[g]?=some (.cells a t (0,0))) (hn:cs.length=Nat.min c b*i.size) (hsrc:∀j v,cs[j]?=some v->w.cell? (f.add j)=some v) (hfit:o+cs.length<=a.size) (h1:∀v∈cs,v.oneCell') :
 (Builtin.copy_ #[k,n] ty #[.slice (some ⟨g,o,none⟩) b d,.slice (some f) c e]).run prog w =
  .ok (goInt (Nat.min c b)) (w.setRow g (a.toList.take o++cs++a.toList.drop (o+cs.length)).toArray):=by
 have l:=run_loadCells_list (P:=prog) w f cs hsrc;have h:=run_storeCells_at prog g o t cs 0 a w hg (by simpa using hfit) h1;simp[Builtin.copy_,qc2 m,Builtin.lenOf,Builtin.firstCells,sizeOf,typeInfo,hi,<-hn,l,h]
def tN (w:bx) (g n m:Nat) (u0 u1:cg):Prop:=∃cur:Array cg,w.heap[g]?=some (.cells cur 54 (0,0))/\cur.size=n*2/\m<=n/\∀j,j<m->cur[j*2]?=some u0/\cur[j*2+1]?=some u1
def GK:(prog.info? 54).map (λi=>(i.zero,i.size,i.bytes))=some (some (.agg #[.i 0,.n0]),2,32):=oA
def Ic{g n m:Nat}{u0 u1:cg}(h:tN w g n m u0 u1)(Q:u0.oneCell')(R:u1.oneCell')(k:Nat)(r:Addr)(c sc sl s:Nat)(hk:k=Nat.min sl s)(l:m+k<=n)
 (hsrc:∀j,j<k->w.cell? (r.add (j*2))=some u0/\w.cell? (r.add (j*2+1))=some u1) :
 ∃w2,(∀ty,(Builtin.copy_ #[27,27] ty #[.slice (some ⟨g,m*2,none⟩) s c,.slice (some r) sl sc]).run prog w =.ok (.i (k:Nat)) w2)/\tN w2 g n (m+k) u0 u1/\cm w w2 (some g):=by
 have⟨a,B,x,L,J⟩:=h;have⟨P,K,N,y,O⟩:=ja0 GK
 let cs:bk:=(List.range (k*2)).map λj=>if j % 2=0 then u0 else u1
 have b:cs.length=k*2:=by simp[cs]
 have d:∀j v,cs[j]?=some v->j<k*2/\v=if j % 2=0 then u0 else u1:=by
  intro j v e;have f:j<k*2:=by rw[<-b];exact (qv.1 e).1
  refine⟨f,?_⟩;simp[cs,f]at e;exact e.symm
 have M:∀ty,_:=λty=>Om w 27 27 ty 54 P underlying27 K g (m*2) s c r sl sc a 54 cs B (by rw[b,y,hk]) (by
  intro j v e;obtain⟨f,rfl⟩:=d j v e;have⟨F,G⟩:=hsrc (j / 2) od
  by_cases o:j % 2=0
  .rw[if_pos o];rw[show j / 2*2=j from by omega]at F;exact F
  .rw[if_neg o];rw[show j / 2*2+1=j from by omega]at G;exact G) (by rw[b,x];omega) (by
  intro v e;obtain⟨j,f,rfl⟩:=ub e;have⟨_,I⟩:=d j _ (qn f);rw[I];split<;>assumption)
 refine⟨w.setRow g (a.toList.take (m*2)++cs++a.toList.drop (m*2+cs.length)).toArray,λty=>?_,⟨_,setRow_heap w g a _ _ _ B,?_,l,λj f=>?_⟩,?_⟩
 .rw[M ty,<-hk];rfl
 .simp[b];omega
 .have p:∀q,q<(m+k)*2->(a.toList.take (m*2)++cs++a.toList.drop (m*2+cs.length)).toArray[q]?=some (if q % 2=0 then u0 else u1):=by
   intro q C;rw[List.getElem?_toArray,ur]
   by_cases H:q<m*2
   .rw[jz oB,qb4,if_pos H,qg6];have⟨z,A⟩:=J (q / 2) od
    by_cases o:q % 2=0
    .rw[if_pos o];rw[show q / 2*2=q from by omega]at z;exact z
    .rw[if_neg o];rw[show q / 2*2+1=q from by omega]at A;exact A
   .have t:(a.toList.take (m*2)).length=m*2:=by simp;omega
    rw[ju od,t,jz od];have u:q - m*2<k*2:=od
    simp only[cs,qb7,List.getElem?_range u,qh0];rw[show (q - m*2) % 2=q % 2 from by omega]
  have D:=p (j*2) od;have E:=p (j*2+1) od;rw[oc]at D;rw[oa]at E;exact⟨D,E⟩
 .exact⟨rfl,rfl,rfl,by simp[World.setRow],λq _ C=>setRow_other w g q _ (by simpa using C)⟩
def Rw(t:Int)(a:bj)(l c:Nat)(b o n Y:Nat)(hn:n<1000)(W:bx)(N:W.cell? ⟨b,o,none⟩=some (.i t))(Z:W.cell? ⟨b,o+1,none⟩=some (.slice a l c)) :
 Calls prog 181 #[.slice (some ⟨b,o,none⟩) 1 Y,.i n] W λe w'=>∃g,e =.returned (.o g n n)/\W.heap.size<=g/\tN w' g n n (.i t) (.slice a l c)/\cm W w' none:=by
 have HM:=jh (P6 n od);have⟨i0,hi,G,H,I⟩:=ja0 GK;have u:=run_make (P:=prog) W 27 54 i0 _ underlying27 hi G .i64 .i64 n n od (Int.le_refl _) (by rw[I];omega) od;simp only[Int.toNat_natCast,H]at u;have y:(madeCells (Value.agg #[.i 0,.n0]).cells (n*2)).size=n*2:=size_madeCells _ _;generalize madeCells (Value.agg #[.i 0,.n0]).cells (n*2)=M at *;have z:tN (W.alloc (.cells M 54)) W.heap.size n 0 (.i t) (.slice a l c):=⟨M,jj _ _,y,zE _,λj O=>od⟩;have B:b<W.heap.size:=zv W _ N;have⟨w2,s,r,C⟩:=Ic z rfl rfl (Nat.min 1 n) ⟨b,o,none⟩ n Y 1 n rfl (by rw[qa2];exact Nat.min_le_right _ _) (λj O=>by
  obtain rfl:j=0:=by have : Nat.min 1 n<=1:=Nat.min_le_left _ _;omega
  have L:(W.alloc (.cells M 54)).cell? ⟨b,o,none⟩=some (.i t):=(qt (qd2 (w:=W) (o:=_) (h:=B))).trans N;have e2:(W.alloc (.cells M 54)).cell? ⟨b,o+1,none⟩=some (.slice a l c):=(qt (qd2 (w:=W) (o:=_) (h:=B))).trans Z;have f:∀x,(⟨b,o,none⟩:Addr).add x=⟨b,o+x,none⟩:=λx=>oX
  rw[f,f];exact⟨L,e2⟩)
 have D:cm W w2 none:=aG (aK _) C (qS _);rw[jc0]at s;rw[qa2]at r;have q:=jh r;have p:=jh D;clear N Z z r C D y G H I hi;go_enter func181,ntmps181;go_wp2_with fail;refine (HM _).mono ?_;rintro e v ⟨rfl,rfl⟩;go_wp2_with fail;go_loopw [8] (λV wr=>∃m:Nat,V =.i m/\m<=n/\(m=n\/1<=m)/\tN wr v.heap.size n m (.i t) (.slice a l c)/\cm v wr none) (λV _=>n - (intOf V).toNat)
 case atStart =>
  refine⟨Nat.min 1 n,?_,Nat.min_le_right _ _,?_,q,p⟩
  .first|rfl|simp
  .by_cases h:n=0
   .left;subst h;rfl
   .right;exact Nat.le_min.2 ⟨qS _,od⟩
 case round =>
  obtain⟨m,rfl,U,ai,d,k⟩:=hrel
  by_cases ah:m<n
  .have S:1<=m:=by omega
   have hk:m+Nat.min m (n - m)<=n:=by have : Nat.min m (n - m)<=n - m:=Nat.min_le_right _ _;omega
   have ae:1<=Nat.min m (n - m):=Nat.le_min.2 ⟨S,od⟩;have⟨w3,ad,A,E⟩:=Ic (w:=wr.drew) d rfl rfl (Nat.min m (n - m)) ⟨v.heap.size,0,none⟩ (n - m) n m (n - m) rfl hk (λj O=>by
    have⟨ab,q1,q2,q3,q4⟩:=d;have Q:j<m:=ki O (Nat.min_le_left _ _);have⟨e0,L⟩:=q4 j Q;have f:∀x,(⟨v.heap.size,0,none⟩:Addr).add x=⟨v.heap.size,x,none⟩:=λx=>oX
    rw[f,f];constructor
    .show wr.cell? _=_;simp[World.cell?,q1,e0]
    .show wr.cell? _=_;simp[World.cell?,q1,L])
   have F:(m:Int)<(n:Int):=od
   have aj:¬n - m=0:=od
   generalize R:Nat.min m (n - m)=X at *;have K:=jh A;have J:=jh (aG (fK k) E (qS _));clear A E d k R u s q p HM;have aq:IntKind.i64.wrap ((m:Int)+(X:Int))=(m:Int)+(X:Int):=by rw[qb1];omega
   have aa:m<=n:=U;go_wp2_with fail;go_region_held3 (λ_=>True) (first|trivial) (fail)
   all_goals
    go_wp2_with fail;refine⟨⟨m+X,by first|rfl|simp,hk,.inr od,K,J⟩,?_⟩;simp[intOf];omega
  .have T:m=n:=by omega
   subst T;have F:¬(m:Int)<(m:Int):=od
   have HR:=jh d;have HG:=jh k;clear d k u s q p HM;go_wp2;go_ret;exact⟨_,rfl,qS _,HR,HG⟩
def JD:(prog.info? 26).map (λi=>(i.zero,i.size,i.bytes))=some (some (.agg #[.i 0,.i 0,.i 0,.string ⟨#[]⟩,.n0]),5,64):=oA
def nodeCells:cg->bk
 | .agg xs=>xs.toList
 | _=>[]
def flat (vs:bk):bk:=vs.flatMap nodeCells
def lh (B:Nat) (w:bx) (v:cg) (vs:bk):Prop:=w.ownsRow B 26 5 v vs.length (flat vs)
def bV(a b:bk):flat (a++b)=flat a++flat b:=by simp[flat]
def Yn{a:Act}(B:Nat)(vs:bk)(k n p:Int)(st:bo)(sa:bj)(sl sc:Nat)(w0:bx)(v:cg)(c:o.guard=none)(s x:Operand)
 (ho:o.op =.call { callee:=.builtin .append,args:=#[s,x],argTypes:=#[24,24] }) (hs:a.eval s=v) (hx:a.eval x =.o H 1 1) (hH:w0.heap.size=H)
 (hown:lh B w0 v vs) (hB:B<=w0.heap.size) (hlen:vs.length<=1000000000000)
 (h:∀g cap w',lh B w' (.o g (vs.length+1) cap) (vs++[af k n p st sa sl sc])->Gr w0 v w' (.o g (vs.length+1) cap)->wpList prog ops Q rest (a.put o.dst (.o g (vs.length+1) cap)) w') :
 wpList prog ops Q (o::rest) a (w0.alloc (.cells #[.i k,.i n,.i p,.string st,.slice sa sl sc] 26)):=by
 have⟨r,q,d,e,f⟩:=ja0 JD;subst hH;refine je5 _ c s x 24 ho B 26 r _ 5 64 underlying24 q d e f rfl ov v vs.length (flat vs) hs (ue hown _) ⟨w0.heap.size,0,none⟩ 1 1 [.i k,.i n,.i p,.string st,.slice sa sl sc] hx rfl ?_ ?_ ov ?_ ?_ ?_ _ rfl ?_
 .exact jb0 (w:=w0.alloc _) (B:=w0.heap.size) (cs:=#[.i k,.i n,.i p,.string st,.slice sa sl sc]) (jj _ _)
 .intro u j;simp at j;rcases j with rfl|rfl|rfl|rfl|rfl<;>rfl
 .unfold maxLen;omega
 .omega
 .simp;omega
 .intro g cap w' l m b _;refine h g cap w' ?_ ?_
  .unfold lh;rw[bV,qT];exact l
  .refine Gr.trans (Gr.alloc (Gr.refl w0 v) _) ⟨m,?_⟩;rcases b with b|b
   .exact .inl b.symm
   .exact .inr ⟨g,rfl,od⟩
structure kQ (H:Nat) (w:bx) (v:cg) (ts:aE) (vs:bk):Prop where
 own:lh H w v vs
 len:vs.length=ts.length
 lies:∀(i:Nat) (t:Tr) (u:cg),ts[i]?=some t->vs[i]?=some u->bI (λb=>H<=b/\some b≠v.ownBlock) w t u
def kQ.nil(H:Nat)(w:bx):kQ H w (.n0) [] []:=⟨qg1 _ _ _ _,rfl,λi t u h=>by simp at h⟩
def kQ.keep{ts:aE}{rb:Nat}(h:kQ H w v ts vs)(c:cm w w' (some rb))(e:rb<H):kQ H w' v ts vs:=by
 refine⟨yq h.own c ?_,h.len,λi t u f g=>(h.lies i t u f g).same ?_⟩
 .cases j:v.ownBlock with
  | none=>exact .inl rfl
  | some k=>right;have:=(zp h.own k j).1;simp;omega
 .intro b o d a;exact qt (c.block b a (by simp;have:=d.1;omega))
def kQ.push{v':cg}{ts:aE}{t:Tr}{S:Nat}(h:kQ H w v ts vs)(C:H<=S)(l:∀k,v.ownBlock=some k->k<S)(x:bI (S <= ·) w t u)(n:Gr w v w' v')(A:lh H w' v' (vs++[u])):kQ H w' v' (ts++[t]) (vs++[u]):=by
 have m:∀t u,bI (λb=>H<=b/\some b≠v.ownBlock) w t u->bI (λb=>H<=b/\some b≠v'.ownBlock) w' t u:=by
  intro t u z;have s:=z.ae (ok':=λb=>H<=b/\some b≠v.ownBlock/\some b≠v'.ownBlock) (λb a hk=>⟨hk.1,hk.2,by
   rcases n.2 with e|⟨g,e,y⟩
   .rw[e];exact hk.2
   .rw[e];simp;omega⟩)
  refine (s.same (w':=w') ?_).ae (λb _ a=>⟨a.1,a.2.2⟩);intro b o a j;exact qt (n.block j a.2.1)
 refine⟨A,by simp[h.len],λi q r c d=>m q r ?_⟩
 by_cases p:i<ts.length
 .rw[jz p]at c;rw[jz (by rw[h.len];exact p)]at d;exact h.lies i q r c d
 .have f:i=ts.length:=by
   have:=(qv.1 c).1;simp at this;omega
  subst f;rw[ju (qS _)]at c;rw[<-h.len,ju (qS _)]at d;simp at c d;subst c;subst d;exact x.ae (λb _ a=>⟨by have : S<=b:=a;omega,λe=>by have B:=l b e.symm;have : S<=b:=a;omega⟩)
def flat_get:∀(vs:bk),(∀u∈vs,(nodeCells u).length=5)->∀(i j:Nat) (u:cg),vs[i]?=some u->j<5->(flat vs)[i*5+j]?=(nodeCells u)[j]?
 | [],_,i,j,u,h,_=>by simp at h
 | x::vs,a,0,j,u,h,b=>by simp at h;subst h;have:=a x ot;simp only[flat,qd4];rw[jz od];simp
 | x::vs,a,i+1,j,u,h,b=>by have c:=a x ot;have:=flat_get vs (λu d=>a u (by simp[d])) i j u (by simpa using h) b;simp only[flat,qd4]at this|-;rw[ju od,c,show (i+1)*5+j - 5=i*5+j from by omega];exact this
def bI.af{ok:br}{t:Tr}(h:bI ok w t u):∃k n p s a l c,u=af k n p s a l c:=by cases h;exact⟨_,_,_,_,_,_,_,rfl⟩
def kQ.done{ts:aE}(h:kQ H w v ts vs) :
 ∃(a:bj) (c:Nat) (V:bt),v =.slice a ts.length c/\(∀i,i<ts.length->ky (H <= ·) w a i (V i))/\(∀i (hi:i<ts.length),bI (H <= ·) w ts[i] (V i)):=by
 have J:=h.len;have f:∀i (hi:i<ts.length),∃u,vs[i]?=some u/\bI (H <= ·) w ts[i] u:=by
  intro i hi;have B:i<vs.length:=od
  exact⟨vs[i],qn B,(h.lies i ts[i] vs[i] (qn hi) (qn B)).ae (λb _ E=>E.1)⟩
 have D:∀u∈vs,(nodeCells u).length=5:=by intro u L;obtain⟨i,hi,rfl⟩:=ub L;have⟨u,e,m⟩:=f i od;rw[qn hi]at e;simp at e;have⟨k,n,p,s,a,l,c,q⟩:=m.af;rw[e,q];rfl
 have z:=h.own;unfold lh at z;rcases z.2 with⟨rfl,N⟩|⟨g,r,C,rfl,y,O,K,F,G,A⟩
 .have t:ts.length=0:=by omega
  exact⟨none,0,λ_=>.i 0,by rw[t],λi hi=>od,λi hi=>od⟩
 .refine⟨some ⟨g,0,none⟩,r,λi=>(vs[i]?).getD (.i 0),by rw[J],λi hi=>?_,λi hi=>?_⟩
  .have⟨u,e,m⟩:=f i hi;have⟨k,n,p,s,a,l,c,q⟩:=m.af;have d:∀j x,j<5->(nodeCells u)[j]?=some x->w.cell? ⟨g,i*5+j,none⟩=some x:=by
    intro j x I M;have:=qb0 z (g:=g) rfl (i*5+j) x (by rw[flat_get vs D i j u e I];exact M);have o:(⟨g,0,none⟩:Addr).add (i*5+j)=⟨g,i*5+j,none⟩:=oX
    rwa [o]at this
   rw[q]at d;refine⟨g,0,rfl,y,k,n,p,s,a,l,c,by show (vs[i]?).getD _=_;rw[e];exact q,?_,?_,?_,?_,?_⟩
   .have:=d 0 _ od rfl;simpa using this
   .have:=d 1 _ od rfl;simpa using this
   .have:=d 2 _ od rfl;simpa using this
   .have:=d 3 _ od rfl;simpa using this
   .have:=d 4 _ od rfl;simpa using this
  .have⟨u,e,m⟩:=f i hi;show bI _ _ _ ((vs[i]?).getD _);rw[e];exact m
def jH (t:Int):Bool:=decide (1<=t/\t<=15)
def bT (t:Int):Int:=if t=9\/t=10\/t=15 then 1 else if t=11\/t=12\/t=13\/t=14 then 2 else 0
mutual
def j5 (d:Nat):Ty->Bool
 | .nd t args=>decide (d<=24)&&(jH t&&decide ((args.length:Int)=bT t))&&ig (d+1) args
def ig (d:Nat):ao->Bool
 | []=>true
 | t::ts=>j5 d t&&ig d ts
end
mutual
def sW (inn f:Int->Bool):Ty->Bool
 | .nd t args=>f t&&(!inn t||ow inn f args)
def ow (inn f:Int->Bool):ao->Bool
 | []=>true
 | t::ts=>sW inn f t&&ow inn f ts
end
def Qd (t:Int):Bool:=decide (1<=t/\t<=15/\t≠8/\t≠10/\t≠13/\t≠14/\t≠15)
def LU (t:Int):Bool:=decide (t≠8/\t≠14/\t≠15)
def Qe (t:Int):Bool:=decide (t≠15/\t≠8)
def Kz (t:Int):Bool:=decide (t≠8)
def Bq (_:Int):Bool:=true
def Ap (t:Int):Bool:=decide (t≠14)
def oF (t:Ty):Bool:=sW Bq Qd t
def eB (t:Ty):Bool:=sW Bq LU t
def A7 (t:Ty):Bool:=sW Ap Qe t
def storeT (t:Ty):Bool:=sW Ap Kz t
def headComp:ao->Bool
 | []=>true
 | t::_=>oF t
def uZ (t:Int) (args:ao):Bool:=!decide (t=13\/t=15)||headComp args
mutual
def keyedF:Ty->Bool
 | .nd t args=>uZ t args&&keyedFs args
def keyedFs:ao->Bool
 | []=>true
 | t::ts=>keyedF t&&keyedFs ts
end
def bn (t:Ty):Bool:=j5 1 t&&decide (t.size<=300)&&keyedF t
def jT(d:Nat)(l:ao):ig d l=l.all (j5 d):=by
 induction l with
 | nil=>rfl
 | cons t b a=>simp[ig,a]
def yL(a f:Int->Bool)(l:ao):ow a f l=l.all (sW a f):=by
 induction l with
 | nil=>rfl
 | cons t c b=>simp[ow,b]
def uu(l:ao):keyedFs l=l.all keyedF:=by
 induction l with
 | nil=>rfl
 | cons t b a=>simp[keyedFs,a]
mutual
def M4(c:∀x,f x->g x)(hi:∀x,inn' x->inn x):∀t,sW inn f t->sW inn' g t
 | .nd t a=>by
  intro h;simp only[sW,qu,qe0,qh7]at h|-;refine⟨c _ h.1,?_⟩;rcases h.2 with b|b
  .left
   cases d:inn' t with
   | false=>rfl
   | true=>rw[hi _ d]at b;cases b
  .exact .inr (AY c hi a b)
def AY(a:∀x,f x->g x)(hi:∀x,inn' x->inn x):∀l,ow inn f l->ow inn' g l
 | []=>λ_=>rfl
 | t::b=>by intro h;simp only[ow,qu]at h|-;exact⟨M4 a hi t h.1,AY a hi b h.2⟩
end
def NL(t:Ty)(h:eB t):A7 t:=M4 (λx a=>by simp[Qe,LU]at a|-;omega) (λ_ _=>rfl) t h
def rowOf:ao->List ao
 | []=>[]
 | a::l=>[a::l]
def pushes (inn:Int->Bool):Ty->List ao
 | .nd t args=>if inn t then rowOf args else []
def zM(a f:Int->Bool)(x:Ty):sW a f x=(f x.t&&(pushes a x).all (ow a f)):=by
 have⟨t,b⟩:=x;simp only[sW,pushes,Ty.t]
 by_cases h:a t
 .rw[if_pos h,h];cases b<;>simp[rowOf,ow]
 .rw[if_neg h];simp[h]
def xh(a f:Int->Bool):∀(l:ao),(∀x∈l,f x.t)->ow a f l=(l.flatMap (pushes a)).all (ow a f)
 | [],_=>rfl
 | x::l,h=>by rw[ow,zM,xh a f l (λy b=>h y (jg0 _ b)),h x List.mem_cons_self,qd4,qe6,qh5]
def PR(a f:Int->Bool)(l:ao)(i:Nat)(h:i<l.length)(c:f (l[i]).t=false):ow a f l=false:=by
 rw[yL]
 cases d:l.all (sW a f)with
 | false=>rfl
 | true =>
  have b:=kB.1 d l[i] (zd h);rw[zM,c]at b;cases b
def leftOf (rows:List ao):Nat:=(rows.map λr=>tysizes r+1).sum
def kG(a b:List ao):leftOf (a++b)=leftOf a+leftOf b:=by simp[leftOf]
def CR(r:ao):leftOf [r]=tysizes r+1:=by simp[leftOf]
def Hy(b:Int->Bool)(x:Ty):leftOf (pushes b x)<=x.size:=by
 have⟨t,a⟩:=x;simp only[pushes,Ty.size]
 by_cases h:b t
 .rw[if_pos h];cases a<;>simp[rowOf,leftOf]
 .rw[if_neg h];simp[leftOf]
def mZ(a:Int->Bool):∀(l:ao),leftOf (l.flatMap (pushes a))<=tysizes l
 | []=>by simp[leftOf,tysizes]
 | x::l=>by have b:=Hy a x;have c:=mZ a l;rw[qd4,kG,tysizes];omega
def GU(rows:List ao):rows.length<=leftOf rows:=by
 induction rows with
 | nil=>simp
 | cons r l a=>simp only[leftOf,qc3,ka7,jt]at a|-;omega
def xI{β:Type}(f:α->List β)(l:List α)(i:Nat)(h:i<l.length):(l.take (i+1)).flatMap f=(l.take i).flatMap f++f l[i]:=by rw[qb2 h,List.flatMap_append];simp
def rR(t:Int)(w:bx) :
 Calls prog 95 #[.i t] w λe w'=>e =.returned (.bool (jH t))/\w'=w:=by
 go_enter func95,ntmps95
 go_wp2
 all_goals
  go_ret;exact Lf.kZ (by simp[jH];try omega) rfl
def zo(t:Int)(w:bx) :
 Calls prog 96 #[.i t] w λe w'=>e =.returned (.i (bT t))/\w'=w:=by
 go_enter func96,ntmps96
 go_wp2
 all_goals
  go_ret;refine Lf.lX ?_ rfl;simp_all [bT]
  try omega
def Within (kw:Nat) (inn:Int->Bool):Prop:=∀(t:Int) (a:bj) (l c:Nat) (w:bx),Calls prog kw #[bY t a l c] w λe w'=>e =.returned (if inn t then .slice a l c else .n0)/\cm w w' none
def Mk (kf:Nat) (f:Int->Bool):Prop:=∀(x:Int) (w:bx),Calls prog kf #[.i x] w λe w'=>e =.returned (.bool (f x))/\w'=w
def made_any:Within 141 Bq:=by
 intro t a l c w;unfold bY;go_enter func141,ntmps141
 go_wp2
 go_ret;exact⟨rfl,aK _⟩
def held_any:Within 144 Ap:=by
 intro t a l c w;unfold bY;go_enter func144,ntmps144
 go_wp2
 all_goals
  go_ret;refine⟨?_,aK _⟩;simp_all [Ap]
def comp1_any:Mk 142 Qd:=by
 intro x w;go_enter func142,ntmps142;go_wp2_with (go_at_call 95;refine (rR _ _).mono ?_;rintro e w' ⟨rfl,rfl⟩)
 all_goals
  go_ret;refine Lf.kZ ?_ rfl;rw[qd5];simp_all [Qd,jH]
  try omega
def copy1_any:Mk 145 Qe:=by
 intro x w;go_enter func145,ntmps145
 go_wp2
 all_goals
  go_ret;refine Lf.kZ ?_ rfl;rw[qd5];simp_all [Qe]
  try omega
def pack1_any:Mk 151 LU:=by
 intro x w;go_enter func151,ntmps151
 go_wp2
 all_goals
  go_ret;refine Lf.kZ ?_ rfl;rw[qd5];simp_all [LU]
  try omega
def store1_any:Mk 153 Kz:=by
 intro x w;go_enter func153,ntmps153
 go_wp2
 all_goals
  go_ret;refine Lf.kZ ?_ rfl;rw[qd5];simp_all [Kz]
  try omega
def yQ(k:Nat)(cap:Array cg)(n:Nat)(a:bj)(c:Nat)(V:bt)(b:Nat->Bool)(I:Nat->bx->Prop)(J:bx->Prop)(hn:n<=maxLen)(N:∀args w,(callFunc k args).run prog w =.ok (.enter k args) w)
 (hrow:∀i w,i<n->I i w->rC (λ_=>True) w a i (V i)) (hall:∀i w o,I i w->I i (w.alloc o))
 (hcall:∀i w,i<n->I i w->Calls prog k (#[V i]++cap) w λe w'=>e =.returned (.bool (b i))/\(b i->I (i+1) w')/\(b i=false->J w')) (w:bx) (h0:I 0 w) :
 Calls prog 97 #[.slice a n c,.func (.func k) #[] cap] w λe w'=>(e =.returned (.bool true)/\I n w'/\∀i,i<n->b i)\/(∃i,i<n/\b i=false/\e =.returned (.bool false)/\J w'):=by
 unfold maxLen at hn;have⟨C,z,B,y⟩:=JT hrow hall hcall h0;clear hrow hall hcall h0;go_enter func97,ntmps97;go_wp2_with fail;go_loopw [9] (λi wr=>∃j:Nat,j<=n/\i =.i j/\I j wr/\∀m,m<j->b m) (λi _=>n - (intOf i).toNat)
 case atStart=>exact⟨0,zE _,rfl,y,λm H=>od⟩
 case round =>
  obtain⟨j,O,rfl,f,q⟩:=hrel;have A:=jh q;clear q
  by_cases h:j<n
  .obtain⟨K,o,t,F,l,G,rfl,_,D,L,M⟩:=(C.out j wr h f).cells;have p:=z.out j wr (.cells #[.i t,.slice F l G] 54) f;have s:=B.out j _ h p;rw[D]at s;unfold bY at s;have E:=jh s;clear s p f D C z B y;go_wp2_with fail;refine E.mono ?_;rintro e w' ⟨rfl,v,x⟩
   cases d:b j with
   | true =>
    have HI:=jh (v d);have g:=jh d;clear v x d;go_wp2;go_roundw
    case rel=>exact⟨j+1,od,OS,HI,λm H=>by
     by_cases e:m=j
     .subst e;exact g
     .exact A m od⟩
    case measure=>simp[intOf];omega
   | false =>
    have u:=jh (x d);have g:=jh d;clear v x d;go_wp2;go_ret;exact .inr ⟨j,h,g,rfl,u⟩
  .have r:j=n:=by omega
   have HI:=jh f;have u:=jh r;clear f r;go_wp2;go_ret;have f:=HI.out;have q:=A.out;rw[u.out]at f q;exact .inl ⟨rfl,f,q⟩
def ent_keyed:∀args w,(callFunc 66 args).run prog w =.ok (.enter 66 args) w:=λargs w=>OK
def formedAt (d m:Nat) (T:Ty):Bool:=j5 d T&&decide (m+T.size<=300)
def jl (w:bx) (cb:Nat) (m:Nat):Prop:=w.heap[cb]?=some (.cells #[.i (m:Int)] 3 (0,0))
def rA (d m:Nat) (T:Ty) (cb:Nat) (w2:bx) (e:Ending) (w':bx):Prop :=
 e =.returned (.bool (formedAt d m T))/\cm w2 w' (some cb)/\(formedAt d m T->jl w' cb (m+T.size))
def Jw{t:Int}{a:bj}{r:Bool}{P:bx->Prop}(b:w.heap[db]?=some (.cells #[.i (d:Int)] 3 (0,0)))
 (hpb:w.heap[pb]?=some (.cells #[.po cb] 80 (0,0))) (hd:d<=24)
 (h:Calls prog 65 #[bY t a l c,.i ((d+1:Nat):Int),.po cb] (w.alloc (.cells #[.i t,.slice a l c] 54)) λe w'=>e =.returned (.bool r)/\P w') :
 Calls prog 98 #[bY t a l c,.po db,.po pb] w λe w'=>e =.returned (.bool r)/\P w':=by
 have g:=qf2 b;have j:=qf2 hpb;have k:db<w.heap.size:=(qq.1 b).1;have m:pb<w.heap.size:=(qq.1 hpb).1;rw[show (((d+1:Nat)):Int)=(d:Int)+1 from rfl]at h;unfold bY at h|-;have H:=jh h;clear h b hpb;go_enter func98,ntmps98;go_wp2_with fail;refine H.mono ?_;rintro e w' ⟨rfl,f⟩;go_wp2;go_ret;exact⟨rfl,f⟩
def fw (w:bx) (cb m:Nat) (t:Int) (a:bj) (l c d:Nat):bx :=
 (((w.setCell ⟨cb,0,none⟩ (.i ((m:Int)+1))).alloc (.cells #[.i t,.slice a l c] 54)).alloc (.cells #[.i (d:Int)] 3)).alloc (.cells #[.po cb] 80)
def uj{t:Int}{a:bj} : cm w (fw w cb m t a l c d) (some cb) :=
 fF (fF (fF (dY (bM _ _) _ _ _) (kL (aK _))) (kL (aK _))) (kL (aK _))
def Qp{t:Int}{a:bj}(h:jl w cb m):jl (fw w cb m t a l c d) cb (m+1) :=
 aB (aB (aB (ka2 h)))
def Zb{t:Int}{a:bj} : (fw w cb m t a l c d).heap[w.heap.size+1]?=some (.cells #[.i (d:Int)] 3 (0,0)):=by refine aB ?_;have:=jj ((w.setCell ⟨cb,0,none⟩ (.i ((m:Int)+1))).alloc (.cells #[.i t,.slice a l c] 54)) (.cells #[.i (d:Int)] 3);simpa using this
def Zc{t:Int}{a:bj} : (fw w cb m t a l c d).heap[w.heap.size+1+1]?=some (.cells #[.po cb] 80 (0,0)):=by have:=jj (((w.setCell ⟨cb,0,none⟩ (.i ((m:Int)+1))).alloc (.cells #[.i t,.slice a l c] 54)).alloc (.cells #[.i (d:Int)] 3)) (.cells #[.po cb] 80);rw[yv,yv,qX]at this;exact this
def Nu{T:Ty}{t:Int}{a:bj}(d m:Nat)(j:bx)(e:jl j cb m)(z:m<=300)(u:l<=maxLen)(s:d<=25)(p:formedAt d m T=false)
 (hw:24<d\/m=300\/jH t=false\/(l:Int)≠bT t) :
 Calls prog 65 #[bY t a l c,.i d,.po cb] j (rA d m T cb j):=by
 unfold maxLen at u;have w:=qf2 e;have x:=jf3 e;have A:cb<j.heap.size:=(qq.1 e).1;have B:cb<j.heap.size+1:=od
 have C:cb<j.heap.size+1+1:=od
 have f:=jh p;clear e p;unfold bY
 by_cases y:24<d
 .have n:(24:Int)<(d:Int):=by omega
  clear hw;go_enter func65,ntmps65;go_wp2;go_ret;exact⟨by rw[f.out];rfl,uj (l:=l) (c:=c),λh=>by rw[f.out]at h;cases h⟩
 have n:(d:Int)<=24:=od
 by_cases v:m=300
 .have o:(300:Int)<(m:Int)+1:=by omega
  clear hw;go_enter func65,ntmps65;go_wp2;go_ret;exact⟨by rw[f.out];rfl,uj (l:=l) (c:=c),λh=>by rw[f.out]at h;cases h⟩
 have o:(m:Int)+1<=300:=od
 cases b:jH t with
 | false =>
  have g:=rR t;rw[b]at g;have k:=jh g;clear hw g b;go_enter func65,ntmps65;go_wp2_with fail
  go_quiet (first|(go_at_call 95;exact qe7 (k _))|(go_at_call 96;exact qe7 (zo _ _)))
  go_wp2;go_ret;exact⟨by rw[f.out];rfl,iW (uj (l:=l) (c:=c)),λh=>by rw[f.out]at h;cases h⟩
 | true =>
  have g:=rR t;rw[b]at g;have k:=jh g;have q:(l:Int)≠bT t:=by
   rcases hw with h|h|h|h
   .omega
   .omega
   .rw[h]at b;cases b
   .exact h
  have r:((l:Int)==bT t)=false:=by simpa using q
  clear hw g b;go_enter func65,ntmps65;go_wp2_with fail
  go_quiet (first|(go_at_call 95;exact qe7 (k _))|(go_at_call 96;exact qe7 (zo _ _)))
  go_wp2;go_ret;exact⟨by rw[f.out];rfl,iW (uj (l:=l) (c:=c)),λh=>by rw[f.out]at h;cases h⟩
def ent_formed1:∀args w,(callFunc 98 args).run prog w =.ok (.enter 98 args) w:=λargs w=>OK
def Gz(d m:Nat)(t:Int)(args:ao)(a:d<=24)(c:jH t)(b:(args.length:Int)=bT t):formedAt d m (.nd t args)=(ig (d+1) args&&decide (m+1+tysizes args<=300)):=by simp only[formedAt,j5,Ty.size];simp[a,c,b,show m+(tysizes args+1)=m+1+tysizes args from by omega]
def fb (d m:Nat) (args:ao) (i:Nat):Bool:=match args[i]? with
 | some x=>formedAt d (m+tysizes (args.take i)) x
 | none=>true
def Xh{args:ao}(f:m<=300)(h:∀i,i<args.length->fb d m args i):(ig d args&&decide (m+tysizes args<=300)):=by
 have c:ig d args:=by rw[jT,kB];intro x g;obtain⟨i,a,rfl⟩:=ub g;have:=h i a;simp[fb,qn a,formedAt]at this;exact this.1
 have e:∀i,i<=args.length->m+tysizes (args.take i)<=300:=by
  intro i
  induction i with
  | zero=>intro _;simpa[tysizes]using f
  | succ i j =>
   intro a;have:=h i od;simp[fb,qn (show i<args.length from by omega),formedAt]at this;rw[lU args i od];omega
 have b:=e args.length (qS _);rw[qh4]at b;simp[c,b]
def Yu{args:ao}{i:Nat}(hi:i<args.length)(h:fb d m args i=false):(ig d args&&decide (m+tysizes args<=300))=false:=by
 cases a:(ig d args&&decide (m+tysizes args<=300))with
 | false=>rfl
 | true =>
  simp only[qu,kj,jT,kB]at a;have b:=a.1 args[i] (zd hi);have c:=lU args i hi;have e:=sQ args (i+1);simp[fb,qn hi,formedAt,b]at h;omega
structure FM (w2 w:bx) (cb db pb d m:Nat):Prop where
 grown:cm w2 w (some cb)
 dep:w.heap[db]?=some (.cells #[.i (d:Int)] 3 (0,0))
 ptr:w.heap[pb]?=some (.cells #[.po cb] 80 (0,0))
 count:jl w cb m
 small:m<=300
def FM.alloc(h:FM w2 w cb db pb d m)(o:Obj):FM w2 (w.alloc o) cb db pb d m :=
 ⟨fF h.grown (kL (aK _)),aB h.dep,aB h.ptr,aB h.count,h.small⟩
def FM.next{m':Nat}(h:FM w2 w cb db pb d m)(a:cm w w' (some cb))(b:db≠cb)(e:pb≠cb)(hc:jl w' cb m')(c:m'<=300):FM w2 w' cb db pb d m' :=
 ⟨fF h.grown a,(a.block _ (qq.1 h.dep).1 (by simpa using b)).trans h.dep,(a.block _ (qq.1 h.ptr).1 (by simpa using e)).trans h.ptr,hc,c⟩
def Jy{T:Ty}(Q:aH (· ≠ cb) w T v):∀(d m:Nat) (w2:bx),Same (· ≠ cb) w w2->w.heap.size<=w2.heap.size->jl w2 cb m->m<=300->d<=25 ->
 Calls prog 65 #[v,.i d,.po cb] w2 (rA d m T cb w2):=by
 induction Q with
 | @mk t args a c V F U it C hr J =>
  intro d m w2 f hz j X R
  by_cases z:24<d\/m=300\/jH t=false\/(args.length:Int)≠bT t
  .refine Nu d m w2 j X F R ?_ z;simp only[formedAt,j5,Ty.size];rcases z with h|h|h|h
   .simp[show ¬d<=24 from by omega]
   .simp[show ¬m+(tysizes args+1)<=300 from by omega]
   .simp[h]
   .simp[h]
  have k:d<=24:=od
  have y:m+1<=300:=od
  have p:jH t:=by
   cases h:jH t with
   | true=>rfl
   | false=>exact absurd (.inr (.inr (.inl h))) z
  have n:(args.length:Int)=bT t:=by
   by_cases h:(args.length:Int)=bT t
   .exact h
   .exact absurd (.inr (.inr (.inr h))) z
  have W:cb<w2.heap.size:=(qq.1 j).1;have g:=Gz d m t args k p n;have r:∀q,FM w2 ((fw w2 cb m t a args.length c d).drewN q) cb (w2.heap.size+1) (w2.heap.size+1+1) d (m+1+tysizes (args.take 0)):=λq=>⟨iW uj,Zb,Zc,Qp j,by simpa[tysizes]using y⟩;have I:∀q,Calls prog 97 #[.slice a args.length c,.func (.func 98) #[] #[.po (w2.heap.size+1),.po (w2.heap.size+1+1)]] ((fw w2 cb m t a args.length c d).drewN q) (rA d m (.nd t args) cb w2):=by
   intro q;refine (yQ 98 _ args.length a c V (fb (d+1) (m+1) args) (λi wr=>FM w2 wr cb (w2.heap.size+1) (w2.heap.size+1+1) d (m+1+tysizes (args.take i))) (λwr=>cm w2 wr (some cb)) F ent_formed1 ?_ ?_ ?_ _ (r q)).mono ?_
   .intro i wr l b;exact ((C i l).same (f.grown hz b.grown ot)).ae (λ_ _ _=>trivial)
   .intro i wr o b;exact b.alloc o
   .intro i wr l b;have⟨_,_,t',M,l',N,_,_,hv,_,_⟩:=(C i l).cells;have x:=J i l (d+1) (m+1+tysizes (args.take i)) (wr.alloc (.cells #[.i t',.slice M l' N] 54)) (f.grown hz (fF b.grown (kL (aK _))) ot) (by have:=b.grown.size;simp;omega) (aB b.count) b.small od;rw[hv]at x|-;refine Jw b.dep b.ptr k (x.mono ?_);rintro e w' ⟨rfl,E,s⟩;have u:cm wr w' (some cb):=fF (kL (aK _)) E;have D:fb (d+1) (m+1) args i=formedAt (d+1) (m+1+tysizes (args.take i)) args[i]:=by simp[fb,qn l]
    rw[D];refine⟨rfl,λh=>?_,λ_=>fF b.grown u⟩;have O:=s h;have H:=lU args i l;refine b.next u od od ?_ ?_
    .rw[H,<-qd6];exact O
    .rw[H];simp[formedAt]at h;omega
   .rintro e w' (⟨rfl,b,B⟩|⟨i,l,B,rfl,E⟩)
    .have h:=Xh y B;refine⟨by rw[g,h],b.grown,λ_=>?_⟩;have:=b.count;rw[qh4]at this;rw[Ty.size,show m+(tysizes args+1)=m+1+tysizes args from by omega];exact this
    .have h:=Yu l B;exact⟨by rw[g,h],E,λG=>by rw[g,h]at G;cases G⟩
  have L:=jh I;have A:=rR t;rw[p]at A;have K:=jh A;have P:((args.length:Int)==bT t):=by simpa using n
  have c1:=qf2 j;have c2:=jf3 j;have l2:cb<w2.heap.size+1:=od
  have l3:cb<w2.heap.size+1+1:=od
  have S:(d:Int)<=24:=od
  have Y:(m:Int)+1<=300:=od
  unfold maxLen at F;clear I A j f J C hr g r z n p;unfold bY;go_enter func65,ntmps65;go_wp2_with fail
  go_quiet (first|(go_at_call 95;exact qe7 (K _))|(go_at_call 96;exact qe7 (zo _ _)))
  go_wp2_with fail;refine (L _).mono ?_;rintro e w' ⟨rfl,Z⟩;go_wp2;go_ret;exact⟨rfl,Z⟩
def mM(R:Nat->α->Prop):∃μ:α->Nat,∀x n,R n x->R (μ x) x/\μ x<=n:=by
 have h:∀x,∃m,∀n,R n x->R m x/\m<=n:=by
  intro x;have d:∀n,R n x->∃m,R m x/\∀k,R k x->m<=k:=by
   intro n
   induction n using Nat.strongRecOn with
   | _ n j =>
    intro b
    by_cases h:∃k,k<n/\R k x
    .have⟨k,a,i⟩:=h;exact j k a i
    .exact⟨n,b,λk a=>Nat.le_of_not_lt λc=>h ⟨k,c,a⟩⟩
  by_cases e:∃n,R n x
  .have⟨n,b⟩:=e;have⟨m,f,g⟩:=d n b;exact⟨m,λk a=>⟨f,g k a⟩⟩
  .exact⟨0,λn b=>absurd ⟨n,b⟩ e⟩
 exact⟨λx=>Classical.choose (h x),λx=>Classical.choose_spec (h x)⟩
def Ug:(prog.info? 27).map (λi=>(i.zero,i.size,i.bytes))=some (some (.n0),1,24):=oA
def zJ (B:Nat) (w:bx) (v:cg) (vs:bk):Prop:=w.ownsRow B 27 1 v vs.length vs
def Y3{a:Act}(B:Nat)(vs:bk)(sa:bj)(sl sc:Nat)(w0:bx)(v:cg)(c:o.guard=none)(s x:Operand)
 (ho:o.op =.call { callee:=.builtin .append,args:=#[s,x],argTypes:=#[153,153] }) (hs:a.eval s=v) (hx:a.eval x =.o H 1 1) (hH:w0.heap.size=H)
 (hown:zJ B w0 v vs) (hB:B<=w0.heap.size) (hlen:vs.length<=100000000)
 (h:∀g cap w',zJ B w' (.o g (vs.length+1) cap) (vs++[.slice sa sl sc])->Gr w0 v w' (.o g (vs.length+1) cap)->wpList prog ops Q rest (a.put o.dst (.o g (vs.length+1) cap)) w') :
 wpList prog ops Q (o::rest) a (w0.alloc (.cells #[.slice sa sl sc] 27)):=by
 have⟨m,l,d,e,f⟩:=ja0 Ug;subst hH;refine je5 _ c s x 153 ho B 27 m _ 1 24 underlying153 l d e f rfl ov v vs.length vs hs (ue hown _) ⟨w0.heap.size,0,none⟩ 1 1 [.slice sa sl sc] hx rfl ?_ ?_ ov ?_ ?_ ?_ _ rfl ?_
 .exact jb0 (w:=w0.alloc _) (B:=w0.heap.size) (cs:=#[.slice sa sl sc]) (jj _ _)
 .intro u i;simp at i;subst i;rfl
 .unfold maxLen;omega
 .omega
 .simp;omega
 .intro g cap w' j k b _;refine h g cap w' ?_ ?_
  .unfold zJ;rw[qT];exact j
  .refine Gr.trans (Gr.alloc (Gr.refl w0 v) _) ⟨k,?_⟩;rcases b with b|b
   .exact .inl b.symm
   .exact .inr ⟨g,rfl,od⟩
def Av{B:Nat}{e:TypeId}{g cap n:Nat}(h:w.ownsRow B e 1 (.o g (n+1) cap) (n+1) (vs++[u])):w.ownsRow B e 1 (.o g n cap) n vs:=by
 have m:=h.1;simp at m;refine⟨od,?_⟩;rcases h.2 with⟨b,_⟩|⟨o,d,c,b,f,i,p,j,k,l⟩
 .simp at b
 .simp only[kl,qk,qc7,and_true,true_and]at b;obtain⟨rfl,rfl⟩:=b;refine .inr ⟨g,cap,c,rfl,f,i,od,j,k,?_⟩;have a:=congrArg (List.take n) l;rw[jg7]at a;simp only[Nat.mul_one]at a|-;rw[show min n (n+1)=n from by omega]at a;rw[a,jc6 od,qc0 od]
