import Derived.Test.YtnamdihclpbdfaaGreatKuZag
namespace Go.Proofs.YtnamdihclpbdfaaGreat
set_option linter.all false
open Go.Proofs.Tryz
set_option maxRecDepth 100000
set_option maxHeartbeats 4000000
open Pe
def uL (x y:Va):Int:=if (x.k=y.k/\x.n=y.n/\x.a=y.a/\x.s.toList=y.s.toList)/\sameTs x.types y.types/\jk uK x.code y.code=0 then 0 else 1
def aad{x y:Va}(J:okV x/\x.size<=20000000)(S:okV y):Hd ⟨77,[pF x,pF y],.of (iA (uL x y))⟩:=by
 have R:=eP x;have⟨J,Q⟩:=J;have⟨i,j,g,m,K,l,f⟩:=x;have⟨t,u,r,w,L,v,q⟩:=y;have e:uL (.mk i j g m K l f) (.mk t u r w L v q)=if ((!decide (i=t))||(!decide (j=u))||(!decide (g=r))||(!(m.toList==w.toList))||(!sameTs l v)||(!decide (jk uK f q=0)))then 1 else 0:=by
  unfold uL;simp only[Va.k,Va.n,Va.a,Va.s,Va.types,Va.code]
  by_cases B:i=t<;>by_cases C:j=u<;>by_cases D:g=r<;>by_cases N:m.toList=w.toList<;>simp[B,C,D,N]
  cases sameTs l v<;>by_cases O:jk uK f q=0<;>simp[O]
 rw[e];simp only[Va.types,Va.code]at R;have I:=YZ (x:=l) (y:=v) od;have P:=Ns (xs:=f) (ys:=q) od;generalize H:(!decide (i=t))=b;generalize B:(!decide (j=u))=c;generalize C:(!decide (g=r))=d;generalize D:(!(m.toList==w.toList))=z;generalize sameTs l v=F at *;generalize decide (jk uK f q=0)=E at *;have A:∀p∈Xk [(true,jJ (!decide (i=t)) b),(!b,jJ (!decide (j=u)) c),(!b && !c,jJ (!decide (g=r)) d),(!b && !c && !d,jJ (!(m.toList==w.toList)) z)],p:=IM (eT H) (IM (eT B) (IM (eT C) (IM (eT D) al0)));have G:=λ(M:HL) o=>(runT (res:=.of (iA (if (b||c||d||z || !F || !E)then 1 else 0))) func77 [(9,bA b),(15,bA c),(22,bA d),(29,bA z)] M A (h:=o):Hd ⟨77,[pF (.mk i j g m K l f),pF (.mk t u r w L v q)],.of (iA (if (b||c||d||z || !F || !E)then 1 else 0))⟩);clear H B C D A e;cases z
 case true=>cases b<;>cases c<;>cases d<;>exact G [] oA
 cases d
 case true=>cases b<;>cases c<;>exact G [] oA
 cases c
 case true=>cases b<;>exact G [] oA
 cases b
 case true=>exact G [] oA
 cases F
 .exact G [⟨_,I⟩] oA
 .cases E<;>exact G [⟨_,I⟩,⟨_,P⟩] oA
def Kq{x:Va}(h:okV x):∀z∈x.args,okV z:=by cases x;exact okVs_at.1 h.2.1
def Te{x y:Va}(b:okV x)(c:okV y)(a:x.size<=20000000):Hd ⟨52,[pF x,pF y],aQ (decide (qg uL x y=0))⟩:=by have h:=Oh (f:=77) (.inr rfl) (P:=λx=>okV x/\x.size<=20000000) (Q:=okV) (λx h z a=>⟨Kq h.1 z a,by have:=fO a;have:=eP x;omega⟩) (λx h=>Kq h) (λx y b c=>aad b c) (x:=x) (y:=y) ⟨b,a⟩ c a;generalize qg uL x y=r at *;have⟨g,i,e,l,j,k,d⟩:=x;have⟨o,p,n,t,q,s,m⟩:=y;exact aF func52 [⟨_,h⟩]
section
variable {ok:br}{w:cg}
def VC{k n a:Int}{s:bp}{i j q:Nat}{al:ao}{ty:aw}{co:aE}(g:i=7\/al=[])(l:j=2\/ty=[])(m:q=5\/co=[])(v:cm)(h:iZ (λ_=>none) ok w (.of (.agg [.d (.v (.i k)),.d (.v (.i n)),.d (.v (.i a)),.d (.v (.string s)),.d (.s i (vasD al)),.d (.s j (tysD ty)),.d (.s q (ndsD co))])) v):iZ (λ_=>none) ok w (.of (pF (.mk k n a s al ty co))) v:=by
 have⟨x,e,o⟩:=h
 match x,o with
 | [y,z,A,B,C,D,E],⟨p,r,t,u,b,c,f,_⟩ =>
  refine⟨_,e,p,r,t,u,?_,?_,?_,trivial⟩
  .rcases g with rfl|rfl
   .exact b
   .exact gG b
  .rcases l with rfl|rfl
   .exact c
   .exact gG c
  .rcases m with rfl|rfl
   .exact f
   .exact gG f
def Pe.Holds.val{f:FuncId}{args:List A1}{k n a:Int}{s:bp}{i j q:Nat}{al:ao}{ty:aw}{co:aE}(h:Hd ⟨f,args,.of (.agg [.d (.v (.i k)),.d (.v (.i n)),.d (.v (.i a)),.d (.v (.string s)),.d (.s i (vasD al)),.d (.s j (tysD ty)),.d (.s q (ndsD co))])⟩)(b:i=7\/al=[])(c:j=2\/ty=[])(e:q=5\/co=[]):Hd ⟨f,args,.of (pF (.mk k n a s al ty co))⟩:=h.conv (λ_ _ _ h=>h) (λok w v=>VC b c e v)
end
def HZ(x:Va):Hd ⟨67,[pF x],.of (pF (fU x))⟩:=by
 have⟨d,e,c,g,a,f,b⟩:=x;rcases a with _|⟨p,l⟩
 .exact Holds.val (i:=0) (j:=0) (q:=0) (al:=[]) (ty:=[]) (co:=[]) (aF func67 []) (.inr rfl) (.inr rfl) (.inr rfl)
 .have h:jJ (decide (((vasD (p::l)).length:Int)=0)) false:=eT (zE oX);have⟨n,o,m,t,r,s,k⟩:=p;exact runT func67 [(6,fA)] [] (al h al0)
def Bu(x:Va):(fU x).size<=x.size:=by
 have h:=eP x;unfold fU
 cases a:x.args with
 | nil=>have:=qZ x;simp[zeroVa,Va.size,vsizes,tysizes,sizes];omega
 | cons p l=>rw[a,vsizes]at h;simp only;omega
def rsS (l:ao) (j:Nat):St:=[((0,0),.of (qi l)),((0,3),.of (jA j))]
abbrev rsL (l:ao) (j:Nat) (ex:Nat) (q:St):Prop:=vO prog f48.ntmps ⟨gF f48,rsS l j,ex,q⟩
def QR{l:ao}(N:vsizes l<=20000000):∀i p,l.length<=p+1+i->rsL l (p+1) (if risesF (l.drop p)then 2 else 1) (if risesF (l.drop p)then []else [((0,2),.of fA)])
 | i,p,S=>by
  have Q:=kS l
  by_cases c:p+1<l.length
  .cases i with
   | zero=>omega
   | succ i =>
    have L:=qu (show p<l.length by omega);have M:=qu c;rw[km (show p<l.length by omega)];have j:=km c;have P:=QR N i (p+1) od;rw[j,risesF,<-j];have R:=fO (yy (show p<l.length by omega));generalize l[p]=x at *;generalize l[p+1]=y at *;have f:=is_lt (a:=Int.ofNat (p+1)) (b:=((vasD l).length:Int)) oX;have o:mD (lW (IntKind.i64.wrap (Int.ofNat (p+1) - 1))) (jA p):=yY Zs;have q:=PT L;have s:=PT M;have O:mD (lW (IntKind.i64.wrap (Int.ofNat (p+1)+1))) (jA (p+1+1)):=yY (zF oe ov ov);have d:=HZ x;have k:=HZ y;have m:=Tc (x:=fU x) (y:=fU y) (by have:=Bu x;omega);generalize fU x=u at *;generalize fU y=v at *;generalize gT u v=r at *;have⟨z,A,w,D,B,C,t⟩:=x;have⟨G,H,F,K,I,J,E⟩:=y;have⟨V,W,U,Z,X,Y,T⟩:=u;have⟨vk,vn,vi,vz,vr,vt,vd⟩:=v
    by_cases n:r<0
    .rw[xb n,qa7];have g:jJ (decide ((0:Int)<=r)) false:=eT (zE od);exact LG [(7,bA true),(12,jA p),(13,.one (.e (vaD (.mk z A w D B C t)) 0)),(18,.one (.e (vaD (.mk G H F K I J E)) 0)),(22,fA),(9,jA (p+1+1))] [⟨_,d⟩,⟨_,k⟩,⟨_,m⟩] P (al f (al o (al q (al s (al g (al O al0))))))
    .rw[zE n,qh1];have g:jJ (decide ((0:Int)<=r)) true:=eT (xb od);exact xQ (e:=0) [(7,bA true),(12,jA p),(13,.one (.e (vaD (.mk z A w D B C t)) 0)),(18,.one (.e (vaD (.mk G H F K I J E)) 0)),(22,bA true)] [⟨_,d⟩,⟨_,k⟩,⟨_,m⟩] (al f (al o (al q (al s (al g al0)))))
  .have f:=wH (a:=Int.ofNat (p+1)) (b:=((vasD l).length:Int)) oX;have e:risesF (l.drop p):=by
    have d:(l.drop p).length<=1:=ov
    match l.drop p,d with
    | [],_=>rfl
    | [_],_=>rfl
    | _::_::_,h=>simp at h
   rw[e];exact xQ (e:=1) [(7,fA)] [] (al f al0)
def aab{l:ao}(a:vsizes l<=20000000):Hd ⟨48,[qi l],aQ (risesF l)⟩:=by have c:=QR a l.length 0 od;rw[ja4]at c;generalize risesF l=b at *;have d:=wI (S:=rsS l 1) (q:=gF f48=gF f48) rfl (ps:=[]) al0;cases b<;>exact Ce func48 [] [_] (by intro z a;rw[qv]at a;subst a;exact c) [] d
def abY{l:ao}(a:vsizes l<=20000000):Hd ⟨47,[qi l],aQ (!risesF l)⟩:=by have h:=aab a;generalize risesF l=b at *;exact aF func47 [⟨_,h⟩]
def cu (M:List ao):List bd:=M.map λl=>[.s 7 (vasD l)]
def jB(M:List ao):(cu M).length=M.length:=by simp[cu]
def ixF:List ao->Nat->Int
 | [],_=>-1
 | l::M,j=>if risesF l then ixF M (j+1)else .ofNat j
def ix_all:∀(M:List ao) (j:Nat),decide (0<=ixF M j) = !M.all risesF
 | [],_=>rfl
 | l::M,j=>by
  rw[ixF,xj];cases h:risesF l
  .simp
  .rw[if_pos rfl,ix_all M (j+1)];rfl
def ixS (n:Nat) (M:List ao) (j:Nat):St:=[((0,0),.of (.one (.d (.s n (cu M))))),((0,1),.of (EF 47)),((0,7),lW (cu M).length),((0,8),.of (jA j))]
abbrev ixL (n:Nat) (M:List ao) (j:Nat) (ex:Nat) (q:St):Prop:=vO prog f65.ntmps ⟨gF f65,ixS n M j,ex,q⟩
def PO{M:List (List Va)}(g:∀l∈M,vsizes l<=20000000)(m:M.length<=50000000):∀i j,j+i=M.length->ixL 1 M j 1 [((0,4),.of (iA (ixF (M.drop j) j)))]\/ixF (M.drop j) j = -1/\ixL 1 M j 2 []
 | 0,j,n=>by have d:=wH (a:=Int.ofNat j) (b:=((cu M).length:Int)) KK;rw[qb6 od];exact .inr ⟨rfl,xQ (e:=1) [(9,fA)] [] (al d al0)⟩
 | i+1,j,n=>by
  have c:j<M.length:=od
  have p:=PO g m i (j+1) od;rw[km c,ixF];have f:=abY (g _ (yy c));have d:=is_lt (a:=Int.ofNat j) (b:=((cu M).length:Int)) KK;have k:Bp 1 1 (cu M) j=some (.of (.one (.e [.s 7 (vasD M[j])] 0))):=by unfold Bp cu;rw[qb0,qu c];rfl
  have o:mD (lW (IntKind.i64.wrap (Int.ofNat j+1))) (jA (j+1)):=yY (zF oe ov ov);generalize M[j]=l at *;generalize risesF l=b at *;cases b
  .rw[if_neg ot];exact .inl (xQ (e:=0) [(9,bA true),(14,.one (.e [.s 7 (vasD l)] 0))] [⟨_,f⟩] (al d (al k al0)))
  .rw[if_pos rfl];have F:=λ{ex:Nat} {q:St} (h:ixL 1 M (j+1) ex q)=>(LG [(9,bA true),(14,.one (.e [.s 7 (vasD l)] 0)),(18,jA (j+1))] [⟨_,f⟩] h (al d (al k (al o al0))):ixL 1 M j ex q);exact p.imp F (λh=>⟨h.1,F h.2⟩)
def Mj{M:List (List Va)}{n:Nat}(hn:n=1\/M=[])(h:∀l∈M,vsizes l<=20000000)(f:M.length<=50000000):Hd ⟨46,[.one (.d (.s n (cu M))),EF 47],aQ (!M.all risesF)⟩:=by
 have g:Hd ⟨65,[.one (.d (.s n (cu M))),EF 47],.of (iA (ixF M 0))⟩:=by
  by_cases h0:M=[]
  .subst h0;have a:ixL n [] 0 2 []:=xQ (e:=1) [] [] (ob:=[]) al0;exact Ce func65 [] [_] (by intro z b;rw[qv]at b;subst b;exact a) [] (wI (S:=ixS n [] 0) (q:=gF f65=gF f65) rfl (ps:=[]) al0)
  .obtain rfl:n=1:=hn.resolve_right h0;have c:=wI (S:=ixS 1 M 0) (q:=gF f65=gF f65) rfl (ps:=[]) al0;have a:=PO h f M.length 0 od;rw[ja4]at a;generalize ixF M 0=r at *;rcases a with a|⟨rfl,a⟩
   .exact Ce func65 [] [_] (by intro z b;rw[qv]at b;subst b;exact a) [] c
   .exact Ce func65 [] [_] (by intro z b;rw[qv]at b;subst b;exact a) [] c
 have e:=ix_all M 0;generalize ixF M 0=r at *;rw[<-e];exact aF func46 [⟨_,g⟩]
def rV(ok:br)(w:cg):aA ok w zeroVa (bg 0 0 0 ⟨#[]⟩ none 0 0 none 0 0 none 0 0) :=
 aA.of (args:=[]) (types:=[]) (code:=[]) (V:=λ_=>.i 0) (VT:=λ_=>.i 0) (VN:=λ_=>.i 0) (yv _) ot (by constructor<;>decide) (by constructor<;>decide) (by constructor<;>decide) (aT.nil _ _ _ _) (dw.nil _ _ _ _) (cK.nil _ _ _ _)
section
open Go.ChangeShapes Go.WideShapes Go.ChangeAt Go.RowKit
def kD (B:Nat) (w:cg) (v:cm) (us:bo):Prop:=w.ownsRow B 27 1 v us.length us
def uF{w:cg}{B:Nat}{e:TypeId}{size g cap n:Nat}{xs ys:bo}(h:w.ownsRow B e size (.o g (n+1) cap) (n+1) (xs++ys))(m:xs.length=n*size):w.ownsRow B e size (.o g n cap) n xs:=by
 refine⟨m,?_⟩;rcases h.2 with⟨a,_⟩|⟨o,c,b,a,f,i,p,j,k,l⟩
 .simp at a
 .simp only[ye,qq,jb2,and_true,true_and]at a;obtain⟨rfl,rfl⟩:=a;refine .inr ⟨g,cap,b,rfl,f,i,od,j,k,?_⟩;have d:=congrArg (List.take (n*size)) l;rw[jh0,show min (n*size) ((n+1)*size)=n*size from by rw[qg3];omega]at d;rw[d,jh2 od,ux od]
def iJ{w:cg}{B:Nat}{e:TypeId}{a g cap n:Nat}{xs ys:bo}(h:w.ownsRow B e a (.o g (n+1) cap) (n+1) (xs++ys))(c:xs.length=n*a)(j:Nat)(u:cm)(b:ys[j]?=some u):w.cell? ⟨g,n*a+j,none⟩=some u:=by have k:=qd7 h (g:=g) rfl (n*a+j) u (by rw[xf od,c,show n*a+j - n*a=j from by omega];exact b);rw[gI,qb1]at k;exact k
end
def ug{d:Nat}{T:Ty}(h:bf d T):(T.args.length:Int)=bT T.t/\∀y∈T.args,bf (d+1) y:=by have⟨t,args⟩:=T;simp only[bf,qt,jt]at h;refine⟨h.1.2.2,λy a=>?_⟩;have:=h.2;rw[jT,kd]at this;exact this y a
def IL{ts:aw}{l:ao}{p:Ty×Va}(h:p∈ts.zip l):p.1∈ts:=(List.of_mem_zip h).1
def yh{T:Ty}{x:Va}{l:List (Ty×Va)}(z:∃d,bf d T)(g:eX T x)(u:partsOf T x=some l):∀p∈l,∃d,bf d p.1:=by
 have⟨d,k⟩:=z;have⟨c,b⟩:=ug k;simp only[eX,qt]at g;have⟨⟨⟨⟨⟨_,q⟩,_⟩,_⟩,j⟩,_⟩:=g;simp only[partsOf,bS,qS]at u;obtain⟨C,a,rfl⟩:=u;intro p s;have f:=IL s;split at a
 .rename_i w;split at a
  .simp only[qq]at a;subst a;unfold eZ at j;rw[if_pos w]at j
   match B:x.types,j with
   | [y],j =>
    rw[B]at f;simp at f;rw[f];exact⟨1,(dE j).1⟩
  .cases a
 .split at a
  .simp only[qq]at a;subst a;simp at f
  .split at a
   .rename_i o;split at a
    .simp only[qq]at a;subst a;have e:=qf6 f;rw[e];have r:T.args.length=1:=by rw[o]at c;simp[bT]at c;omega
     have⟨y,v⟩:=ja6.1 r;rw[show aJ T.args 0=y from by simp[aJ,v]];exact⟨d+1,b y (by rw[v];simp)⟩
    .cases a
   .split at a
    .rename_i i;split at a
     .simp only[qq]at a;subst a;have e:=qf6 f;rw[e];refine⟨d,?_⟩;have⟨t,args⟩:=T;simp only[Ty.t]at i;subst i;simp only[bf,qt,jt,Ty.args]at k|-;refine⟨⟨k.1.1,ot,?_⟩,k.2⟩;have:=k.1.2.2;simp[bT]at this|-;exact this
     .cases a
    .split at a
     .rename_i h;split at a
      .simp only[qq]at a;subst a;simp at f;rw[f];have A:T.args.length=2:=by rw[h]at c;simp[bT]at c;omega
       have m:x.n=0\/x.n=1:=by unfold bQ at q;rw[h]at q;simpa using q
       rcases m with m|m
       .rw[m];have e:aJ T.args ((0:Int).toNat)=T.args[0]:=by show (T.args[0]?).getD _=_;rw[qu od];rfl
        rw[e];exact⟨d+1,b _ (yy _)⟩
       .rw[m];have e:aJ T.args ((1:Int).toNat)=T.args[1]:=by show (T.args[1]?).getD _=_;rw[qu od];rfl
        rw[e];exact⟨d+1,b _ (yy _)⟩
      .cases a
     .split at a
      .split at a
       .simp only[qq]at a;subst a;simp at f
       .cases a
      .split at a
       .simp only[qq]at a;subst a;exact⟨d+1,b _ f⟩
       .cases a
def TE{T:Ty}{x:Va}(f:∃d,bf d T)(a:eX T x):IQ T x:=by have⟨d,e⟩:=f;refine⟨(ug e).1,λb=>?_⟩;simp only[eX,qt]at a;have c:=a.1.1.1.1.2;unfold bQ at c;rw[b]at c;simpa using c
def Ka{T:Ty}{x:Va}{l:List (Ty×Va)}(b:partsOf T x=some l):kY l=vsizes x.args/\l.length=x.args.length:=by simp only[partsOf,qS]at b;obtain⟨c,a,rfl⟩:=b;have:=rE a;exact⟨leftP_zip c x.args this.symm,ov⟩
def Rk{l:aw}(h:okTs l)(i:Nat):okT (aJ l i):=by
 unfold aJ
 cases e:l[i]? with
 | none=>exact⟨⟨ot,ot⟩,trivial⟩
 | some T=>exact okTs_at.1 h T (ka e)
def Kr{T:Ty}{x:Va}{l:List (Ty×Va)}(h:okT T)(f:okV x)(d:partsOf T x=some l):∀p∈l,okT p.1/\okV p.2:=by
 have c:okTs T.args:=by cases T;exact h.2
 have e:okVs x.args/\okTs x.types:=by cases x;exact⟨f.2.1,f.2.2.1⟩
 simp only[partsOf,qS]at d;obtain⟨i,a,rfl⟩:=d;rintro⟨U,y⟩ d;have⟨b,g⟩:=List.of_mem_zip d;refine⟨?_,okVs_at.1 e.1 y g⟩;unfold bS at a;simp only at a
 repeat' split at a
 all_goals first
  | (cases a;done)
  | (simp only[qq]at a
     subst a
     first
      | exact okTs_at.1 e.2 U b
      | exact okTs_at.1 c U b
      | (cases b;done)
      | (rw[qf6 b];exact Rk c 0)
      | (rw[qf6 b];exact⟨⟨ot,ot⟩,c⟩)
      | (rw[qv.1 b];exact Rk c _))
def okM (M:List ao):Prop:=∀l∈M,okVs l/\vsizes l<=20000000
def hsQ (c:Nat):List ao->St
 | []=>[((0,5),.of nilA)]
 | m::M=>[((0,5),.of (.one (.g 3000056 1 c))),((3000057,0),.kv 27 1 (cu (m::M)))]
def hsS (k l:Nat) (es:List bd) (c:Nat) (M:List ao):St:=[((0,6),.of (.one (.g k 9 l))),((k+1,0),.kv 81 9 es)]++hsQ c M
abbrev hsL (k l:Nat) (es:List bd) (c:Nat) (M:List ao) (ex:Nat) (post:St):Prop:=vO prog f30.ntmps ⟨gF f30,hsS k l es c M,ex,post⟩
def Xd{es:List bd}{C:List (Ty×Va)}{T:Ty}{x:Va}{m:Nat}(hm:C.length=m)(h:es.take (m+1)=gM (C++[(T,x)])):dY es (m*9) 9=some ((tyD T++vaD x).map .d):=by
 have b:∀p:Ty×Va,(tyD p.1++vaD p.2).length=9:=by rintro⟨⟨t,a⟩,⟨k,n,i,s,r,u,c⟩⟩;rfl
 exact (DI (A:=gM C) (by rw[nL,hm]) (λq e=>by obtain⟨p,_,rfl⟩:=kB.1 e;exact b p) (b (T,x)) (by rw[h];simp[gM])).1
def acm{k c:Nat}{es:List bd}{M:List ao}(hk:k=3000017\/k=3000059):hsL k 0 es c M 2 (hsQ c M):=by rcases hk with rfl|rfl<;>rcases M with _|⟨q,M⟩<;>exact xQ (e:=1) [] [] al0
def hsT (k m:Nat) (T:Ty) (x:Va):Hints:=[(20,bA true),(23,jA m),(26,.one (.q k (m*9))),(27,.agg ((tyD T++vaD x).map .d)),(30,.one (.g k 9 m))]
def hsO (k m:Nat) (es:List bd) (T:Ty) (x:Va):List Prop:=[mD (aQ (decide ((0:Int)<Int.ofNat (m+1)))) (bA true),mD (lW (IntKind.i64.wrap (Int.ofNat (m+1) - 1))) (jA m),(if 9=9/\m<m+1 then some (AV.of (.one (.q k (m*9))))else none)=some (.of (.one (.q k (m*9)))),(dY es (m*9) 9).bind (mkA true)=some (.of (.agg ((tyD T++vaD x).map .d))),(if 9=9/\m<=m+1 then some (AV.of (.one (.g k 9 m)))else none)=some (.of (.one (.g k 9 m)))]
def ack{k m:Nat}{es:List bd}{C:List (Ty×Va)}{T:Ty}{x:Va}(hm:C.length=m)(h:es.take (m+1)=gM (C++[(T,x)]))(a:m<=50000000):∀p∈hsO k m es T x,p :=
 al (is_lt oe) (al (yY Zs) (al (if_pos ⟨rfl,od⟩) (al (by rw[Xd hm h];rfl) (al (if_pos ⟨rfl,od⟩) al0))))
section
variable {k m c:Nat}{es:List bd}{M:List ao}{T:Ty}{x:Va}
def nth(k m:Nat):some (AV.of (.one (.g k 9 m)))=some (.of (.one (.g k 9 m)))/\([]:List bd)=[]/\true:=⟨rfl,rfl,rfl⟩
def aaC(hk:k=3000017\/k=3000059)(b:∀p∈hsO k m es T x,p)(hF:Hd ⟨44,[tyA T,pF x],aQ false⟩):hsL k (m+1) es c M 1 [((0,4),.of fA)]:=by have⟨t,a⟩:=T;have⟨i,j,g,r,l,n,f⟩:=x;have F:=λo d=>(xQ (e:=0) (hsT k m (.nd t a) (.mk i j g r l n f)) [⟨_,hF⟩] b (h:=o) (hc:=d):hsL k (m+1) es c M 1 [((0,4),.of fA)]);rcases hk with rfl|rfl<;>rcases M with _|⟨q,M⟩<;>exact F oA oA
def aaD(hk:k=3000017\/k=3000059)(d:∀p∈hsO k m es T x,p)(hF:Hd ⟨44,[tyA T,pF x],aQ true⟩)(b:Hd ⟨45,[tyA T,pF x],ofA none⟩):hsL k (m+1) es c M 1 [((0,4),.of fA)]:=by have⟨t,a⟩:=T;have⟨j,l,i,s,n,r,g⟩:=x;have F:=λo f=>(xQ (e:=0) (hsT k m (.nd t a) (.mk j l i s n r g)) [⟨_,hF⟩,⟨_,b⟩] d (h:=o) (hc:=f):hsL k (m+1) es c M 1 [((0,4),.of fA)]);rcases hk with rfl|rfl<;>rcases M with _|⟨q,M⟩<;>exact F oA oA
variable {ex:Nat}{post:St}{C:List (Ty×Va)}{p:Ty×Va}{ps:List (Ty×Va)}
def adM(hk:k=3000017\/k=3000059)(b:∀p∈hsO k m es T x,p)(hF:Hd ⟨44,[tyA T,pF x],aQ true⟩)(d:Hd ⟨45,[tyA T,pF x],ofA (some [])⟩)(e:T.t≠13)(hn:hsL k m es c M ex post):hsL k (m+1) es c M ex post:=by have⟨t,a⟩:=T;have⟨l,n,j,u,r,s,i⟩:=x;have b:=jX b (al (show jJ (decide (t=13)) false from eT (zE e)) (al (nth k m) al0));have F:=λo f=>LG (hsT k m (.nd t a) (.mk l n j u r s i)++[(50,fA),(59,.one (.g k 9 m))]) [⟨_,hF⟩,⟨_,d⟩] hn b (pre:=hsS k (m+1) es c M) (h:=o) (hc:=f);rcases hk with rfl|rfl<;>rcases M with _|⟨q,M⟩<;>exact F oA oA
def adN(hk:k=3000017\/k=3000059)(b:∀p∈hsO k m es T x,p)(hF:Hd ⟨44,[tyA T,pF x],aQ true⟩)(f:Hd ⟨45,[tyA T,pF x],ofA (some (p::ps))⟩)(g:T.t≠13)(d:rowsLe (es.take m++gM (p::ps)) (gM (C++p::ps)))(e:zV 144 m es (gM (p::ps)))(hn:hsL 3000059 (m+(gM (p::ps)).length) (gM (C++p::ps)) c M ex post):hsL k (m+1) es c M ex post:=by have⟨t,a⟩:=T;have⟨n,r,l,v,s,u,j⟩:=x;have b:=jX b (al (show jJ (decide (t=13)) false from eT (zE g)) (al d (al e al0)));have F:=λo i=>LG (hsT k m (.nd t a) (.mk n r l v s u j)++[(50,fA),(2000059,aat (C++p::ps))]) [⟨_,hF⟩,⟨_,f⟩] hn b (pre:=hsS k (m+1) es c M) (h:=o) (hc:=i);rcases hk with rfl|rfl<;>rcases M with _|⟨q,M⟩<;>exact F oA oA
def adO(hk:k=3000017\/k=3000059)(j:∀p∈hsO k m es T x,p)(hF:Hd ⟨44,[tyA T,pF x],aQ true⟩)(i:Hd ⟨45,[tyA T,pF x],ofA (some [])⟩)(l:T.t=13)(hc:c=M.length)(e:rowsLe ((cu M).take c++[[.s 7 (vasD x.args)]]) (cu (M++[x.args])))(f:zV 24 c (cu M) [[.s 7 (vasD x.args)]])(hn:hsL k m es (c+1) (M++[x.args]) ex post):hsL k (m+1) es c M ex post:=by
 have⟨t,a⟩:=T;have⟨v,w,u,z,b,y,r⟩:=x;obtain rfl:t=13:=l;have F:=λo n=>LG (hsT k m (.nd 13 a) (.mk v w u z b y r)++[(2000056,.one (.d (.s 1 (cu (M++[b]))))),(59,.one (.g k 9 m))]) [⟨_,hF⟩,⟨_,i⟩] hn (jX j (al e (al f (al (nth k m) al0)))) (pre:=hsS k (m+1) es c M) (h:=o) (hc:=n);rcases M with _|⟨q,M⟩
 .obtain rfl:c=0:=hc;rcases hk with rfl|rfl<;>exact F oA oA
 .rcases hk with rfl|rfl<;>exact F oA oA
def adP(hk:k=3000017\/k=3000059)(l:∀p∈hsO k m es T x,p)(hF:Hd ⟨44,[tyA T,pF x],aQ true⟩)(j:Hd ⟨45,[tyA T,pF x],ofA (some (p::ps))⟩)(n:T.t=13)(hc:c=M.length)(g:rowsLe ((cu M).take c++[[.s 7 (vasD x.args)]]) (cu (M++[x.args])))(i:zV 24 c (cu M) [[.s 7 (vasD x.args)]])(e:rowsLe (es.take m++gM (p::ps)) (gM (C++p::ps)))(f:zV 144 m es (gM (p::ps)))(hn:hsL 3000059 (m+(gM (p::ps)).length) (gM (C++p::ps)) (c+1) (M++[x.args]) ex post):hsL k (m+1) es c M ex post:=by
 have⟨t,a⟩:=T;have⟨w,y,v,A,b,z,u⟩:=x;obtain rfl:t=13:=n;have F:=λo r=>LG (hsT k m (.nd 13 a) (.mk w y v A b z u)++[(2000056,.one (.d (.s 1 (cu (M++[b]))))),(2000059,aat (C++p::ps))]) [⟨_,hF⟩,⟨_,j⟩] hn (jX l (al g (al i (al e (al f al0))))) (pre:=hsS k (m+1) es c M) (h:=o) (hc:=r);rcases M with _|⟨q,M⟩
 .obtain rfl:c=0:=hc;rcases hk with rfl|rfl<;>exact F oA oA
 .rcases hk with rfl|rfl<;>exact F oA oA
end
def LM (C:List (Ty×Va)):Prop:=∀p∈C,okT p.1/\okV p.2/\∃d,bf d p.1
def HsE (b:Bool) (k l:Nat) (es:List bd) (c:Nat) (M:List ao):Prop :=
 (∃c' M',okM M'/\M'.length<=50000000/\c'=M'.length/\b=M'.all risesF/\hsL k l es c M 2 (hsQ c' M'))\/b=false/\hsL k l es c M 1 [((0,4),.of fA)]
def HsE.imp{b b':Bool}{k l j l2:Nat}{es a:List bd}{c c2:Nat}{M i:List ao}(h:HsE b k l es c M)(e:b=b')(f:∀ex post,hsL k l es c M ex post->hsL j l2 a c2 i ex post):HsE b' j l2 a c2 i:=by
 subst e;rcases h with⟨n,m,d,q,g,o,p⟩|⟨d,g⟩
 .exact .inl ⟨n,m,d,q,g,o,f _ _ p⟩
 .exact .inr ⟨d,f _ _ g⟩
def has_loop:∀(N:Nat) (C:List (Ty×Va)) (k l:Nat) (es:List bd) (c:Nat) (M:List ao),kY C<=N->(k=3000017\/k=3000059)->C.length=l->es.take l=gM C->c=M.length->LM C->okM M->kY C+M.length<=20000000->HsE (C.all Bn&&M.all risesF) k l es c M
 | N, C,k,l,es,c,M,W,f,G,n,B,V,F,X=>by
  rcases jf2 C with rfl|⟨a,⟨T,x⟩,rfl⟩
  .obtain rfl:l=0:=G.symm;exact .inl ⟨c,M,F,od,B,oe,acm f⟩
  rw[jf3]at *;rw[lN,DK]at W X;simp only at W X;obtain rfl:l=a.length+1:=by simp at G;omega
  have aa:=NH a;have⟨H,I,Y⟩:=V (T,x) oe;have w:=ack (k:=k) rfl n od;have hF:=Tn (T:=T) (x:=x) H I od
  cases o:eX T x with
  | false=>rw[o]at hF;exact .inr ⟨by simp[Bn,Lu,o],aaC f w hF⟩
  | true =>
   have i:=Vr (T:=T) (x:=x) H (TE Y o) od;rw[o]at hF
   cases g:partsOf T x with
   | none=>rw[g]at i;exact .inr ⟨by simp[Bn,Lu,o,g],aaD f w hF i⟩
   | some ps =>
    rw[g]at i;have⟨r1,r2⟩:=Ka g;have ad:=eP x;have ab:=NH ps;have e:Bn (T,x)=(ps.all Bn&&(!decide (T.t=13)||risesF x.args)):=by simp[Bn,Lu,o,g]
    have b:LM (a++ps):=λp O=>by
     rcases ki.1 O with h|h
     .exact V p (by simp[h])
     .exact⟨(Kr H I g p h).1,(Kr H I g p h).2,yh Y o g p h⟩
    have K:kY (a++ps)<N:=by rw[lN];omega
    have r:es.take a.length=gM a:=by have:=congrArg (List.take a.length) n;rw[jh0,jc6 od]at this;rw[this];simp[gM]
    have L:a.length<=es.length:=by have:=congrArg List.length n;rw[qc1,nL,jx]at this;simp at this;omega
    have A:T.t=13->okM (M++[x.args]):=λ_ l G=>by
     rcases ki.1 G with h|h
     .exact F l h
     .rw[qv.1 h];exact⟨by cases x;exact I.2.1,od⟩
    have S:rowsLe ((cu M).take c++[[.s 7 (vasD x.args)]]) (cu (M++[x.args])):=by rw[ux (by rw[jB];omega),show cu (M++[x.args])=cu M++[[.s 7 (vasD x.args)]] by simp[cu]];exact rows_refl _
    have U:zV 24 c (cu M) [[.s 7 (vasD x.args)]]:=iL (by rw[jB];omega) oe rfl ov ot;have j:kY (a++ps)+(M++[x.args]).length<=20000000:=by rw[lN,jx];simp;omega
    have m:kY (a++ps)+M.length<=20000000:=by rw[lN];omega
    have Z:(a++[(T,x)]).all Bn=(a.all Bn&&(ps.all Bn&&(!decide (T.t=13)||risesF x.args))):=by rw[jc7];simp[e]
    have P:(M++[x.args]).all risesF=(M.all risesF&&risesF x.args):=by rw[jc7];simp
    have J:(a++ps).all Bn=(a.all Bn&&ps.all Bn):=jc7;rw[Z];rcases ps with _|⟨p,ps⟩
    .rw[qc4]at b K j m J
     by_cases d:T.t=13
     .refine (has_loop (N - 1) a k a.length es (c+1) (M++[x.args]) od f rfl r ov b (A d) j).imp ?_ λex post h=>adO f w hF i d B S U h;rw[P,xb d];generalize a.all Bn=u,M.all risesF=v,risesF x.args=z;cases u<;>cases v<;>cases z<;>rfl
     .refine (has_loop (N - 1) a k a.length es c M od f rfl r B b F m).imp ?_ λex post h=>adM f w hF i d h;rw[zE d];generalize a.all Bn=u,M.all risesF=v;cases u<;>cases v<;>rfl
    .have Q:rowsLe (es.take a.length++gM (p::ps)) (gM (a++p::ps)):=by
      rw[r,show gM (a++p::ps)=gM a++gM (p::ps) by simp[gM]];exact rows_refl _
     have R:zV 144 a.length es (gM (p::ps)):=iL L (by simp[gM]) (KA _) (by rw[nL];omega) ot;have q:(a++p::ps).length=a.length+(gM (p::ps)).length:=by rw[nL,jx]
     have E:(gM (a++p::ps)).take (a.length+(gM (p::ps)).length)=gM (a++p::ps):=ux (by rw[nL,q];exact jj _)
     by_cases d:T.t=13
     .refine (has_loop (N - 1) _ 3000059 _ _ (c+1) (M++[x.args]) od (.inr rfl) q E ov b (A d) j).imp ?_ λex post h=>adP f w hF i d B S U Q R h;rw[J,P,xb d];generalize a.all Bn=u,M.all risesF=v,risesF x.args=z,(p::ps).all Bn=y;cases u<;>cases v<;>cases z<;>cases y<;>rfl
     .refine (has_loop (N - 1) _ 3000059 _ _ c M od (.inr rfl) q E B b F m).imp ?_ λex post h=>adN f w hF i d Q R h;rw[J,zE d];generalize a.all Bn=u,M.all risesF=v,(p::ps).all Bn=y;cases u<;>cases v<;>cases y<;>rfl
termination_by N=>N
decreasing_by all_goals omega
def SV{T:Ty}(a:okT T):Hd ⟨43,[tyA T],aQ (ai T)⟩:=Cb a
def X4{T:Ty}{x:Va}(r:okT T)(b:okV x)(F:x.size<=20000000):Hd ⟨30,[tyA T,pF x],aQ (pY T x)⟩:=by
 have d:=SV r;unfold pY
 cases e:ai T with
 | false =>
  rw[e]at d;have⟨t,a⟩:=T;have⟨v,w,u,A,y,z,s⟩:=x;exact aF func30 [⟨_,d⟩]
 | true =>
  rw[e]at d;have o:=has_loop x.size [(T,x)] 3000017 1 (gM [(T,x)]) 0 [] (by rw[DK];exact jj _) (.inl rfl) rfl rfl rfl (λp E=>by rw[qv.1 E];exact⟨r,b,1,(dE e).1⟩) (λl h=>by cases h) (by rw[DK];simpa using F);rw[show ([(T,x)].all Bn&&([]:List ao).all risesF)=hasV x T by simp[Bn]]at o;rw[qa7];have j:=wI (S:=hsS 3000017 1 (gM [(T,x)]) 0 []) (q:=gF f30=gF f30) rfl (ps:=[]) al0;rcases o with⟨c,M,f,C,g,k,m⟩|⟨f,g⟩
  .rw[k];have hK:=λ{n:Nat} D=>Mj (M:=M) (n:=n) D (λl h=>(f l h).2) C;have i:Hd ⟨30,[tyA T,pF x],aQ (!(!M.all risesF))⟩:=by
    have B:c=(cu M).length:=by rw[jB];exact g
    clear k e;have⟨t,a⟩:=T;have⟨v,w,u,A,y,z,s⟩:=x;rcases M with _|⟨q,M⟩
    .exact Ce func30 [(17,nilA)] [_] (by intro x b;rw[qv]at b;subst b;exact m) [⟨_,d⟩,⟨_,hK (n:=0) (.inr rfl)⟩] j
    .exact Ce func30 [(17,nilA)] [_] (by intro x b;rw[qv]at b;subst b;exact m) [⟨_,d⟩,⟨_,hK (n:=1) (.inl rfl)⟩] (jX j (al B al0))
   rwa [Bool.not_not]at i
  .rw[f];have⟨t,a⟩:=T;have⟨v,w,u,A,y,z,s⟩:=x;exact Ce func30 [(17,nilA)] [_] (by intro x b;rw[qv]at b;subst b;exact g) [⟨_,d⟩] j
open Go.ChangeShapes Go.WideShapes Go.ChangeAt Go.RowKit
mutual
def readT_size:∀(t:Tr) (T:Ty) (x:Va),readT t T=some x->x.size<=t.size
 | .nd k n p s d,T,x=>by
  intro h;have g:∀(a b:Int) (c:bp) (e:ao),(fM a b c e).size=vsizes e+1:=λa b c e=>by simp[fM,Va.size,tysizes,sizes]
  have i:vsizes []=0:=rfl;rw[Tr.size];rw[readT]at h;split at h
  .split at h
   .simp only[qq]at h;subst h;rw[g,i];omega
   .cases h
  .split at h
   .split at h
    .simp only[qq]at h;subst h;rw[g,i];omega
    .cases h
   .split at h
    .split at h
     .simp only[qS]at h;obtain⟨e,f,rfl⟩:=h;have:=readTs_size d _ e f;rw[g];omega
     .cases h
    .split at h
     .split at h
      .simp only[qS]at h;obtain⟨e,f,rfl⟩:=h;have:=readEs_size d _ e f;rw[g];omega
      .cases h
     .split at h
      .cases h
      .simp only[qS]at h;obtain⟨e,f,rfl⟩:=h;have:=readTs_size d _ e f;rw[g];omega
def readTs_size:∀(l:aE) (ts:aw) (xs:ao),readTs l ts=some xs->vsizes xs<=sizes l
 | [],[],xs=>by intro h;simp[readTs]at h;subst h;simp[vsizes,sizes]
 | [],_::_,xs=>by intro h;simp[readTs]at h
 | _::_,[],xs=>by intro h;simp[readTs]at h
 | t::l,T::ts,xs=>by
  intro h;rw[readTs]at h
  cases a:readT t T with
  | none=>rw[a]at h;cases h
  | some x =>
   rw[a]at h;simp only[qS]at h;obtain⟨c,b,rfl⟩:=h;have d:=readT_size t T x a;have e:=readTs_size l ts c b;rw[vsizes,sizes];omega
def readEs_size:∀(l:aE) (ts:aw) (xs:ao),readEs l ts=some xs->vsizes xs<=sizes l
 | [],ts,xs=>by intro h;simp[readEs]at h;subst h;simp[vsizes,sizes]
 | .nd k n p s a::l,ts,xs=>by
  intro h;rw[readEs]at h
  cases b:readTs a ts with
  | none=>rw[b]at h;cases h
  | some c =>
   rw[b]at h;simp only at h;split at h
   .simp only[qS]at h;obtain⟨f,d,rfl⟩:=h;have g:=readTs_size a ts c b;have i:=readEs_size l ts f d;have e:(fM 11 0 ⟨#[]⟩ c).size=vsizes c+1:=by simp[fM,Va.size,tysizes,sizes]
    rw[vsizes,sizes,e,Tr.size];omega
   .cases h
end
def jf (T:Ty) (t:Tr):Option Va:=if ai T/\dS t=0 then (match readT t T with
 | none=>none
 | some x=>if pY T x then some x else none)else none
section
mutual
def first_okN:∀(t:Tr) (d:Nat),bC d t=0->okN t
 | .nd k n p s c,d,h=>by
  simp only[bC]at h;split at h
  .cases h
  .split at h
   .rename_i a;exact absurd h a
   .rename_i a;have b:Lf.fD k n p s c.length=0:=by simpa using a
    refine⟨?_,first_okNs c (d+1) h⟩;unfold Lf.fD Lf.rP Lf.gD Lf.qM at b;unfold bD maxLen
    repeat' split at b
    all_goals first
     | (cases b;done)
     | (simp_all<;>omega)
def first_okNs:∀(l:aE) (d:Nat),bG d l=0->okNs l
 | [],_,_=>trivial
 | t::l,d,h=>by
  simp only[bG]at h;split at h
  .rename_i a;exact absurd h a
  .rename_i a;exact⟨first_okN t d (by simpa using a),first_okNs l d h⟩
end
def D5{T:Ty}{t:Tr}{x:Va}(h:jf T t=some x):okV x:=by
 unfold jf at h;split at h
 .rename_i c;split at h
  .cases h
  .rename_i y a;split at h
   .cases h;exact readT_okV _ _ _ (first_okN _ _ (iV c.2).1) a
   .cases h
 .cases h
def vaZ:A1:=.agg [.d (.v (.i 0)),.d (.v (.i 0)),.d (.v (.i 0)),.d (.v (.string ⟨#[]⟩)),.d (.s 0 []),.d (.s 0 []),.d (.s 0 [])]
def anyA:A1:=.agg [.d .t,.d .t,.d .t,.d .t,.d .t,.d .t,.d .t]
def parseA:Option Va->AV
 | some x=>.rz [pF x,iA 0]
 | none=>.rz [vaZ,iA 1]
def aet{T:Ty}{t:Tr}(i:okT T)(l:okN t)(r:t.size<=4611686018427387903):Hd ⟨154,[tyA T,ndA t],parseA (jf T t)⟩:=by
 have a:=SV i;have b:=K3 l od;unfold jf
 cases j:ai T with
 | false =>
  rw[j]at a;rw[if_neg oe];obtain⟨u,g⟩:=T;obtain⟨k,n,p,s,az⟩:=t;exact aF func154 [⟨_,a⟩]
 | true =>
  rw[j]at a
  by_cases h0:dS t=0
  .rw[h0]at b;rw[if_pos ⟨rfl,h0⟩];have q:=(iV h0).2;obtain⟨o,es,c⟩:=read_all _ t T 1 (jj _) od l i (dE j).1
   cases f:readT t T with
   | none =>
    rw[f]at c;obtain⟨u,g⟩:=T;obtain⟨k,n,p,s,az⟩:=t;exact aF func154 [⟨_,a⟩,⟨_,b⟩,⟨_,c⟩]
   | some x =>
    rw[f]at c;have d:=X4 (x:=x) i (readT_okV _ _ _ l f) (by have:=readT_size t T x f;omega);simp only
    cases m:pY T x with
    | false =>
     rw[m]at d;obtain⟨u,g⟩:=T;obtain⟨k,n,p,s,az⟩:=t;exact aF func154 [⟨_,a⟩,⟨_,b⟩,⟨_,c⟩,⟨_,d⟩]
    | true =>
     rw[m]at d;obtain⟨u,g⟩:=T;obtain⟨k,n,p,s,az⟩:=t;exact aF func154 [⟨_,a⟩,⟨_,b⟩,⟨_,c⟩,⟨_,d⟩]
  .rw[if_neg (λh=>h0 h.2)];generalize dS t=e at *;obtain⟨u,g⟩:=T;obtain⟨k,n,p,s,az⟩:=t;exact runT func154 [(14,bA true)] [⟨_,a⟩,⟨_,b⟩] (ob:=[jJ (!decide (e=0)) true]) (al (eT (by simpa using h0)) al0)
end
inductive iF where
 | no (e:Int)
 | ok (f:Bool) (ts:List Ty)
def standF:aw->List Int->Bool
 | _,[]=>true
 | [],_::_=>false
 | T::s,k::ks=>(decide (k=0)||decide (T.t=k))&&standF s ks
structure Ins where
 p:Int
 n:Int
 types:aw
 rows:List aE
 data:Tr
def tr0:Tr:=.nd 0 0 0 ⟨#[]⟩ []
def bR (p:Int):bw :=
 if p=41\/p=43\/p=44 then [110]
 else if p=45 then [116,118]
 else if p=50\/p=51\/p=54\/p=56\/p=82\/p=88 then [116]
 else if p=61 then [116,117]
 else if p=52\/p=55\/p=58\/p=64 then [99,100]
 else if p=60\/p=65\/p=68 then [99]
 else if p=66 then [116,117,99]
 else []
def iy (i:Ins) (f:UInt8) (t:Tr):Option Ins :=
 if f=110 then (if t.k0=0/\0<=t.n0/\t.n0<=40 then some { i with n:=t.n0 } else none)
 else if f=116\/f=117 then (if fu t then some { i with types:=i.types++[kreadT t] } else none)
 else if f=99\/f=100 then (if t.k0=3 then some { i with rows:=i.rows++[t.args0] } else none)
 else some { i with data:=t }
def takesF:Ins->bw->aE->Option Ins
 | i,f::fs,t::l=>match iy i f t with
  | none=>none
  | some j=>takesF j fs l
 | i,[],_=>some i
 | i,_::_,[]=>some i
def iY (t:Tr):Option Ins :=
 if t.k0=2/\40<=t.p0/\t.args0.length=(bR t.p0).length then takesF ⟨t.p0,0,[],[],tr0⟩ (bR t.p0) t.args0 else none
mutual
def mintsT:Tr->Bool
 | .nd k _ p _ args=>(decide (k=2/\p=84))||mintsTs args
def mintsTs:aE->Bool
 | []=>false
 | t::l=>mintsT t||mintsTs l
end
def bB (s top:aw):iF:=.ok false (top++s)
def meetF:iF->iF->iF
 | .no e,_=>.no e
 | .ok _ _,.no e=>.no e
 | .ok f a,.ok g b=>if f then .ok g b else if g\/sameTs a b then .ok f a else .no 5
def rowAt (i:Ins) (k:Nat):aE:=(i.rows[k]?).getD []
def iC (row:aE->aw->iF) (i:Ins) (s x y:aw):iF:=meetF (row (rowAt i 0) (x++s)) (row (rowAt i 1) (y++s))
def dM (row:aE->aw->iF) (i:Ins) (x y z:aw):iF:=match meetF (row (rowAt i 0) x) (bB y [])with
 | .no e=>.no e
 | .ok _ _=>bB z []
def l7 (row:aE->aw->iF) (i:Ins) (top:Ty) (s:aw):iF:=match row (rowAt i 0) s with
 | .no e=>.no e
 | .ok f ts=>if f then .no 1 else bB ts [top]
def dG (i:Ins) (s:aw):iF :=
 if i.p=40/\standF s [0]then bB (s.drop 1) []
 else if i.p=41/\1<=i.n/\i.n<=s.length/\A7 (aJ s (i.n.toNat - 1))then bB s [aJ s (i.n.toNat - 1)]
 else if i.p=42/\standF s [0,0]then bB (s.drop 2) [aJ s 1,aJ s 0]
 else if i.p=43/\i.n<s.length then bB (s.take i.n.toNat++s.drop (i.n.toNat+1)) [aJ s i.n.toNat]
 else if i.p=44/\i.n<s.length then bB (s.take 1++s.drop (i.n.toNat+1)) ((s.drop 1).take i.n.toNat)
 else .no 5
def bO (i:Ins) (s:aw):iF :=
 if i.p=46/\standF s [0,0]then bB (s.drop 2) [.nd 11 [aJ s 0,aJ s 1]]
 else if i.p=47/\standF s [11]then bB (s.drop 1) (aJ s 0).args
 else if i.p=48/\standF s [11]then bB (s.drop 1) [aJ (aJ s 0).args 0]
 else if i.p=49/\standF s [11]then bB (s.drop 1) [aJ (aJ s 0).args 1]
 else if i.p=50/\standF s [0]then bB (s.drop 1) [.nd 12 [aJ s 0,aJ i.types 0]]
 else if i.p=51/\standF s [0]then bB (s.drop 1) [.nd 12 [aJ i.types 0,aJ s 0]]
 else if i.p=53/\standF s [0]then bB (s.drop 1) [.nd 9 [aJ s 0]]
 else if i.p=54 then bB s [.nd 9 [aJ i.types 0]]
 else .no 5
def aP (i:Ins) (s:aw):iF :=
 if i.p=56 then bB s [.nd 10 [aJ i.types 0]]
 else if i.p=57/\standF s [0,10]/\sameT (aJ s 0) (aJ (aJ s 1).args 0)then bB (s.drop 1) []
 else if i.p=59/\(standF s [6]\/standF s [10]\/standF s [13])then bB (s.drop 1) [.nd 4 []]
 else if i.p=61/\oF (aJ i.types 0)then bB s [.nd 13 i.types]
 else if i.p=62/\standF s [0,13]/\sameT (aJ s 0) (aJ (aJ s 1).args 0)/\A7 (aJ (aJ s 1).args 1)then bB (s.drop 2) [.nd 9 [aJ (aJ s 1).args 1]]
 else if i.p=63/\standF s [0,9,13]/\sameT (aJ s 0) (aJ (aJ s 2).args 0)/\sameT (aJ (aJ s 1).args 0) (aJ (aJ s 2).args 1)then bB (s.drop 2) []
 else .no 5
def eG (row:aE->aw->iF) (i:Ins) (s:aw):iF :=
 if i.p=52/\standF s [12]then iC row i (s.drop 1) ((aJ s 0).args.take 1) ((aJ s 0).args.drop 1)
 else if i.p=55/\standF s [9]then iC row i (s.drop 1) [] (aJ s 0).args
 else if i.p=58/\standF s [10]then iC row i (s.drop 1) [aJ (aJ s 0).args 0,aJ s 0] []
 else if i.p=64/\standF s [2]then iC row i (s.drop 1) [] []
 else .no 5
def bP (row:aE->aw->iF) (i:Ins) (s:aw):iF :=
 if i.p=60/\standF s [10]then dM row i ((aJ s 0).args++s.drop 1) (s.drop 1) (s.drop 1)
 else if i.p=60/\standF s [13]then dM row i ([.nd 11 (aJ s 0).args]++s.drop 1) (s.drop 1) (s.drop 1)
 else if i.p=65/\standF s [2]then dM row i (s.drop 1) s (s.drop 1)
 else if i.p=66/\mintsTs (rowAt i 0)=false then dM row i (i.types.take 1) (i.types.drop 1) ([.nd 14 i.types]++s)
 else if i.p=67/\standF s [0,14]/\sameT (aJ s 0) (aJ (aJ s 1).args 0)then bB (s.drop 2) [aJ (aJ s 1).args 1]
 else if i.p=68/\standF s [0]then l7 row i (aJ s 0) (s.drop 1)
 else .no 5
def zC (t:Int):Bool:=decide (t=3\/t=4)
def Jt (q r:Ty):Ty:=.nd 9 [.nd 11 [q,r]]
def eF (p a b:Int):Option Ty :=
 if p=69/\a=5/\b=5 then some (.nd 5 [])
 else if p=70/\a=5/\b=5 then some (.nd 9 [.nd 5 []])
 else if p=71/\(a=5/\b=4\/a=4/\b=5)then some (.nd 5 [])
 else if p=72/\a=5/\b=5 then some (Jt (.nd 4 []) (.nd 5 []))
 else if p=72/\a=5/\b=4 then some (Jt (.nd 5 []) (.nd 5 []))
 else if zC a=false\/zC b=false then none
 else if p=72/\a=4/\b=4 then some (Jt (.nd 4 []) (.nd 4 []))
 else if p=72 then some (Jt (.nd 3 []) (.nd 4 []))
 else if p≠70/\a=4/\b=4 then some (.nd 4 [])
 else some (.nd 3 [])
def bJ (i:Ins) (s:aw):iF :=
 if i.p=93/\standF s [3]then bB (s.drop 1) [.nd 4 []]
 else if i.p=94/\standF s [3]then bB (s.drop 1) [.nd 9 [.nd 4 []]]
 else if i.p=95/\standF s [4]then bB (s.drop 1) [.nd 3 []]
 else if (i.p=69\/i.p=70\/i.p=71\/i.p=72)/\standF s [0,0]then (match eF i.p (aJ s 0).t (aJ s 1).t with
  | some T=>bB (s.drop 2) [T]
  | none=>.no 5)
 else .no 5
def dI (i:Ins) (s:aw):iF :=
 if i.p=73/\standF s [0,0]/\sameT (aJ s 0) (aJ s 1)/\oF (aJ s 0)then bB (s.drop 2) [.nd 3 []]
 else if (i.p=74\/i.p=75\/i.p=76)/\standF s [3]then bB (s.drop 1) [.nd 2 []]
 else if i.p=77/\standF s [2]then bB (s.drop 1) [.nd 2 []]
 else if (i.p=78\/i.p=79)/\standF s [2,2]then bB (s.drop 2) [.nd 2 []]
 else .no 5
def cZ (i:Ins) (s:aw):iF :=
 if i.p=45/\eB (aJ i.types 0)/\(jf (aJ i.types 0) i.data).isSome then bB s [aJ i.types 0]
 else if i.p=80/\standF s [6,6]then bB (s.drop 2) [.nd 6 []]
 else if i.p=81/\standF s [0]/\eB (aJ s 0)then bB (s.drop 1) [.nd 6 []]
 else if i.p=82/\standF s [6]/\eB (aJ i.types 0)then bB (s.drop 1) [.nd 9 [aJ i.types 0]]
 else if i.p=83/\standF s [0]/\eB (aJ s 0)then .ok true []
 else .no 5
def bF (i:Ins) (s:aw):iF :=
 if i.p=84/\standF s [0,4]/\oF (aJ s 0)then bB (s.drop 2) [.nd 9 [.nd 15 [aJ s 0]]]
 else if i.p=85/\standF s [15]then bB s [.nd 11 [.nd 7 [],.nd 11 [aJ (aJ s 0).args 0,.nd 4 []]]]
 else if i.p=86/\standF s [15,11]/\standF (aJ s 1).args [4,4]then bB (s.drop 2) [.nd 9 [.nd 11 [aJ s 0,aJ s 0]]]
 else if i.p=87/\standF s [11]/\standF (aJ s 0).args [15,15]/\sameT (aJ (aJ s 0).args 0) (aJ (aJ s 0).args 1)then bB (s.drop 1) [.nd 9 [aJ (aJ s 0).args 0]]
 else .no 5
def dO (i:Ins) (s:aw):iF :=
 if i.p=88/\standF s [0,5,7]/\sameT (aJ s 0) (aJ i.types 0)/\storeT (aJ s 0)then bB (s.drop 3) [.nd 8 []]
 else if i.p=89\/i.p=90 then bB s [.nd 7 []]
 else if i.p=91\/i.p=92 then bB s [.nd 5 []]
 else .no 5
def vP (row:aE->aw->iF) (i:Ins) (s:aw):iF :=
 if i.p=40\/i.p=41\/i.p=42\/i.p=43\/i.p=44 then dG i s
 else if i.p=46\/i.p=47\/i.p=48\/i.p=49\/i.p=50\/i.p=51\/i.p=53\/i.p=54 then bO i s
 else if i.p=56\/i.p=57\/i.p=59\/i.p=61\/i.p=62\/i.p=63 then aP i s
 else if i.p=52\/i.p=55\/i.p=58\/i.p=64 then eG row i s
 else if i.p=60\/i.p=65\/i.p=66\/i.p=67\/i.p=68 then bP row i s
 else if i.p=69\/i.p=70\/i.p=71\/i.p=72\/i.p=93\/i.p=94\/i.p=95 then bJ i s
 else if i.p=73\/i.p=74\/i.p=75\/i.p=76\/i.p=77\/i.p=78\/i.p=79 then dI i s
 else if i.p=45\/i.p=80\/i.p=81\/i.p=82\/i.p=83 then cZ i s
 else if i.p=84\/i.p=85\/i.p=86\/i.p=87 then bF i s
 else dO i s
def keptF:iF->iF
 | .no e=>.no e
 | .ok f ts=>if 40<ts.length then .no 7 else if ts.all ai then .ok f ts else .no 4
def iG (st:Tr->aw->iF):aE->Bool->aw->iF
 | [],f,s=>.ok f s
 | t::l,f,s=>if f then .no 1 else match keptF (st t s)with
  | .no e=>.no e
  | .ok g s'=>iG st l g s'
def stepF:Nat->Tr->aw->iF
 | 0,_,_=>.no 1
 | N+1,t,s=>if t.k0=3 then iG (stepF N) t.args0 false s else match iY t with
  | none=>.no 1
  | some i=>vP (λl s=>iG (stepF N) l false s) i s
def codeF (n:Tr) (s:aw):iF :=
 if dS n≠0 then .no (dS n)else if n.k0≠3 then .no 1 else if 40<s.length then .no 7 else if s.all ai then iG (stepF 300) n.args0 false s else .no 5
def nP{r:iF}{f:Bool}{ts:aw}(h:keptF r =.ok f ts):r =.ok f ts/\ts.length<=40/\ts.all ai:=by
 cases r with
 | no e=>simp[keptF]at h
 | ok g c =>
  simp only[keptF]at h
  by_cases a:40<c.length
  .simp[a]at h
  .by_cases b:c.all ai
   .rw[if_neg a,if_pos b]at h;injection h with d i;subst d;subst i;exact⟨rfl,od,b⟩
   .rw[if_neg a,if_neg b]at h;cases h
def kT (r:iF):Prop:=∀ts,r =.ok true ts->ts=[]
def Ec{st:Tr->aw->iF}(a:∀t s,kT (st t s)):∀(l:aE) (f:Bool) (s:aw) {g:Bool}{ts:aw},s.length<=40->s.all ai->(f->s=[])->iG st l f s =.ok g ts->ts.length<=40/\ts.all ai/\(g->ts=[])
 | [],f,s,g,ts,c,d,i,h=>by simp only[iG,iF.ok.injEq]at h;obtain⟨rfl,rfl⟩:=h;exact⟨c,d,i⟩
 | t::l,f,s,g,ts,c,d,i,h=>by
  simp only[iG]at h
  by_cases j:f
  .simp[j]at h
  .simp only[j]at h
   cases hk:keptF (st t s)with
   | no e=>simp[hk]at h
   | ok m k =>
    simp only[hk]at h;have⟨e,n,o⟩:=nP hk;exact Ec a l m k n o (λb=>a t s k (by rw[e,b])) (by simpa using h)
def vg(s top:aw):kT (bB s top):=λa h=>by simp[bB]at h
def jy(e:Int):kT (.no e):=λa h=>by simp at h
def noTys_fail:kT (.ok true []):=λa h=>by simp at h;exact h
def NQ{c:Prop}[Decidable c]{a b:iF}(d:kT a)(hb:kT b):kT (if c then a else b):=by
 by_cases h:c
 .rw[if_pos h];exact d
 .rw[if_neg h];exact hb
def NR{o:Option Ty}{g:Ty->iF}(a:∀T,kT (g T)){e:Int} : kT (match o with
 | some T=>g T
 | none=>.no e):=by
 cases o with
 | none=>exact jy e
 | some T=>exact a T
def JU{a b:iF}(c:kT a)(hb:kT b):kT (meetF a b):=by
 cases a with
 | no e=>exact jy e
 | ok f x =>
  cases b with
  | no e=>exact jy e
  | ok g y =>
   simp only[meetF];split
   .exact hb
   .split
    .exact c
    .exact jy 5
def ze{st:Tr->aw->iF}(a:∀t s,kT (st t s)):∀(l:aE) (f:Bool) (s:aw),(f->s=[])->kT (iG st l f s)
 | [],f,s,h=>λg e=>by simp only[iG,iF.ok.injEq]at e;obtain⟨rfl,rfl⟩:=e;exact h rfl
 | t::l,f,s,h=>by
  simp only[iG];split
  .exact jy 1
  .cases hk:keptF (st t s)with
   | no e=>exact jy e
   | ok d c=>exact ze a l d c (λb=>a t s c (by rw[(nP hk).1,b]))
def NP{row:aE->aw->iF}(b:∀l s,kT (row l s))(i:Ins)(s:aw):kT (vP row i s):=by
 have d:∀s x y,kT (iC row i s x y):=λs x y=>JU (b _ _) (b _ _);have e:∀x y z,kT (dM row i x y z):=λx y z=>by
  unfold dM;split
  .exact jy _
  .exact vg _ _
 have c:∀a s,kT (l7 row i a s):=λa s=>by
  unfold l7;split
  .exact jy _
  .split
   .exact jy 1
   .exact vg _ _
 unfold vP dG bO aP eG bP bJ dI cZ bF dO
 repeat' apply NQ
 all_goals first|exact vg _ _|exact jy _|exact noTys_fail|exact d _ _ _|exact e _ _ _|exact c _ _|exact NR (λT=>vg _ _)
def noTys_step:∀(N:Nat) (t:Tr) (s:aw),kT (stepF N t s)
 | 0,t,s=>jy 1
 | N+1,t,s=>by
  rw[stepF];split
  .exact ze (noTys_step N) _ _ _ oe
  .split
   .exact jy 1
   .exact NP (λl s=>ze (noTys_step N) _ _ _ oe) _ _
def stand_len:∀{s:aw}{ks:List Int},standF s ks->ks.length<=s.length
 | _,[],_=>oe
 | [],_::_,h=>by simp[standF]at h
 | T::s,k::ks,h=>by simp only[standF,qt]at h;have:=stand_len h.2;simp;omega
def stand_iff:∀(s:aw) (ks:List Int),standF s ks ↔ ks.length<=s.length/\∀i (h:i<ks.length) (a:i<s.length),ks[i]=0\/(s[i]).t=ks[i]
 | s,[]=>by cases s<;>simp[standF]
 | [],k::ks=>by simp[standF]
 | T::s,k::ks=>by
  have f:=stand_iff s ks;simp only[standF,qt,qe2,jt,f,js,Nat.add_le_add_iff_right];constructor
  .rintro⟨b,a,c⟩;refine⟨a,λi d e=>?_⟩
   cases i with
   | zero=>exact b
   | succ i=>exact c i od od
  .rintro⟨b,a⟩;exact⟨a 0 od od,b,λi d e=>a (i+1) od od⟩
def oG{w w':cg}{a:Addr}{v:cm}(b:cq w w' none)(h:w.cell? a=some v):w'.cell? a=some v:=(ke (b.block _ (qb7 w _ h) oe)).trans h
def dh{w w':cg}{b:Nat}{o:Obj}(h:w.heap[b]?=some o)(a:cq w w' none):w'.heap[b]?=some o:=(a.block _ (kj.1 h).1 oe).trans h
def Ip{s:aw}{ks:List Int}(h:standF s ks)(i:Nat)(k:Int)(hk:ks[i]?=some k)(h0:k≠0):(aJ s i).t=k:=by
 have⟨d,b⟩:=(stand_iff s ks).1 h;have⟨c,e⟩:=qT.1 hk;have a:i<s.length:=od
 have:=b i c a;rw[e]at this;unfold aJ;rw[qu a];rcases this with h|h
 .exact absurd h h0
 .exact h
def Lt{s:aw}(h:s.all ai){i:Nat}(hi:i<s.length):ai (aJ s i):=by unfold aJ;rw[qu hi];exact kd.1 h _ (yy hi)
def xL{T:Ty}(h:ai T):(T.args.length:Int)=bT T.t:=by have⟨t,args⟩:=T;simp only[ai,bf,qt,jt]at h;exact h.1.1.1.2.2
section
variable {P:Program}{ops:Array Oper}{Q:Exit->Act->cg->Prop}{md:Region.Mode}{S:cg->Prop}
def LX(i:Nat)(d:Tmp){v:cm}{e:Nat}{b:Array Bool}{a:Act}{w:cg}(hi:∃f,ops[i]?=some f/\f.dst=some d/\Region.wanted f (yielded ops a.tmps)/\∀w,S w->(execOp a.eval f).run P w =.ok (.value v) w)
 (h:wpAnyH P md ops Q S e (b.setIfInBounds i true) (a.put (some d) v) w)
 (hs:Region.noSelect ops:=by kernel_rfl) (hf:Region.free md ops b i:=by kernel_rfl) (hr:(Region.ready md ops b).contains i:=by kernel_rfl)
 (hQ:∀c a w,Q (.panic c) (a.put (some d) v) w->Q (.panic c) a w:=by exact λ_ _ _ h=>h) (hS:S w:=by assumption):wpAnyH P md ops Q S (e+1) b a w:=by
 have⟨f,g,j,k,l⟩:=hi;rw[<-j]at hQ h;exact wpAnyH_take g hs hf hr hQ (.inl ⟨k,l⟩) hS h
end
def bu(i:Nat)(d:Tmp){P:Program}{e:Array Oper}{Q:Exit->Act->cg->Prop}{md:Region.Mode}{S:cg->Prop}{v:cm}{g:Oper}{f:Nat}{b:Array Bool}{a:Act}{w:cg}(h:wpAnyH P md e Q S f (b.setIfInBounds i true) (a.put (some d) v) w)
 (h1:e[i]?=some g:=by rfl) (h2:g.dst=some d:=by rfl) (h3:Region.wanted g (yielded e a.tmps):=by rfl)
 (h4:∀w,S w->(execOp a.eval g).run P w =.ok (.value v) w:=by intro w j;go_simp;try with_reducible rfl)
 (hs:Region.noSelect e:=by kernel_rfl) (hf:Region.free md e b i:=by kernel_rfl) (hr:(Region.ready md e b).contains i:=by kernel_rfl)
 (hQ:∀c a w,Q (.panic c) (a.put (some d) v) w->Q (.panic c) a w:=by exact λ_ _ _ h=>h) (hS:S w:=by assumption):wpAnyH P md e Q S (f+1) b a w :=
 LX i d ⟨g,h1,h2,h3,h4⟩ h hs hf hr hQ hS
def pS{α:Type} : (∀(l:List α) (i:Nat) (a:α),l.toArray.setIfInBounds i a=(l.set i a).toArray)/\(∀(a b:α) (l:List α),(a::l).set 0 b=b::l)/\(∀(a b:α) (l:List α) (n:Nat),(a::l).set (n+1) b=a::l.set n b) :=
 ⟨λl i a=>zj ..,λa b l=>yW ..,λa b l n=>xT ..⟩
def jI(n:Int)(w:cg):Calls prog 87 #[.i n] w λe w'=>e =.returned (.bool (kE n))/\w'=w:=by
 go_enter func87,ntmps87
 go_wp2
 all_goals
  go_ret;refine Lf.kZ ?_ rfl;rw[jd1];simp[kE]
  try omega
def tT (T:Ty):Bool:=ai T&&storeT T
def rU (f:Bool) (ts:aw) (T:Ty):Bool:=f||(match ts with
 | [t]=>sameT t T
 | _=>false)
def jG (v:Va):Bool:=match codeF (.nd 3 0 0 ⟨#[]⟩ v.code) (v.types.take 1)with
 | .no _=>false
 | .ok f ts=>rU f ts (aJ v.types 1) && !mintsTs v.code
mutual
def lamsF:Va->Bool
 | .mk k n a s args types code=>(!decide (k=14)||jG (.mk k n a s args types code))&&lamsFs args
def lamsFs:ao->Bool
 | []=>true
 | x::xs=>lamsF x&&lamsFs xs
end
def qC (T:Ty) (v:Va):Bool:=pY T v&&lamsF v
def bs (l:bw):bp:=⟨l.toArray⟩
def eQ(l:bw):(bs l).size=l.length:=by simp[bs,ByteArray.size]
def TM(l:bw)(k:Nat)(h:k<=l.length):(bs l).extract 0 k=bs (l.take k):=by apply ByteArray.ext;rw[je4];apply Array.ext';simp[bs]
def TL(l:bw)(k:Nat):(bs l).extract k l.length=bs (l.drop k):=by apply ByteArray.ext;rw[je4];apply Array.ext';simp[bs];exact ux oe
def DL(w:cg):Calls prog 266 #[.int .u64 1152921504606846976] w λr w'=>r =.returned (.i 61)/\w'=w:=by
 go_enter func266,ntmps266
 go_wp2
 go_ret;exact Lf.lX vx rfl
def numTail:Nat->Nat->Nat->UInt8->bw->Option (Nat×UInt8×bw)
 | 0,_,size,last,l=>if last.toNat<128 then some (size,last,l)else none
 | k+1,sh,size,last,l=>if last.toNat<128 then some (size,last,l)else
  match l with
  | []=>none
  | b::l=>numTail k (sh+7) (size+b.toNat % 128*2 ^ sh) b l
def wK(k sh a:Nat)(last:UInt8)(l:bw)(h:last.toNat<128):numTail k sh a last l=some (a,last,l):=by
 cases k<;>rw[numTail.eq_def]<;>simp[h]
def zR(k sh a:Nat)(last:UInt8)(h:¬last.toNat<128):numTail (k+1) sh a last []=none:=by rw[numTail.eq_def];simp[h]
def xX(k sh a:Nat)(last b:UInt8)(l:bw)(h:¬last.toNat<128):numTail (k+1) sh a last (b::l)=numTail k (sh+7) (a+b.toNat % 128*2 ^ sh) b l:=by rw[numTail.eq_def];simp[h]
def pNum:bw->Option (Int×bw)
 | []=>none
 | f::l=>match numTail 8 6 (f.toNat % 64) f l with
  | none=>none
  | some (size,last,l')=>if (128<=f.toNat/\last.toNat=0)\/1152921504606846976<size\/(f.toNat / 64 % 2=1/\size=0)then none
   else some (if f.toNat / 64 % 2=1 then -(size:Int)else size,l')
def yE{a:UInt8}{n:Nat}(h:a.toNat=n):a=n.toUInt8:=by apply UInt8.toNat_inj.1;rw[h];have:=a.toNat_lt;show n=n % 256;omega
def CX(k:Nat):∀(sh e:Nat) (f:UInt8) (l:bw) (d:Nat) (b:UInt8) (i:bw),numTail k sh e f l=some (d,b,i) ->
 ∃m,d=e+m*2 ^ sh/\m<128 ^ k/\((f.toNat<128/\m=0/\b=f/\i=l)\/(128<=f.toNat/\(b.toNat≠0->m≠0/\f::l=wD (f.toNat - 128) m++i))):=by
 induction k with
 | zero =>
  intro sh e f l d b i h;rw[numTail]at h
  by_cases g:f.toNat<128
  .rw[if_pos g]at h;simp at h;obtain⟨rfl,rfl,rfl⟩:=h;exact⟨0,oe,oe,.inl ⟨g,rfl,rfl,rfl⟩⟩
  .rw[if_neg g]at h;simp at h
 | succ k v =>
  intro sh e f l d b i h
  by_cases g:f.toNat<128
  .rw[wK _ _ _ _ _ g]at h;simp at h;obtain⟨rfl,rfl,rfl⟩:=h;exact⟨0,oe,by have:=Nat.pow_pos (n:=k+1) (show 0<128 by omega);omega,.inl ⟨g,rfl,rfl,rfl⟩⟩
  .cases l with
   | nil=>rw[zR _ _ _ _ g]at h;simp at h
   | cons c y =>
    rw[xX _ _ _ _ _ _ g]at h;have⟨j,u,x,t⟩:=v _ _ _ _ _ _ _ h;have w:=c.toNat_lt;refine⟨c.toNat % 128+128*j,?_,?_,.inr ⟨od,λs=>?_⟩⟩
    .rw[u,Nat.pow_add,qg3,qg2];congr 2;rw[jh4 128 j,Nat.mul_assoc];congr 1;rw[jh4]
    .rw[Nat.pow_succ];omega
    .rcases t with⟨r,o,q,p⟩|⟨r,o⟩
     .subst o;subst q;subst p;refine⟨od,?_⟩;rw[wD,oa,show (b.toNat % 128+128*0) % 128=b.toNat from by omega,show (b.toNat % 128+128*0) / 128=0 from by omega,wD,if_pos rfl];rw[<-yE (a:=b) rfl,<-yE (a:=f) od];rfl
     .have⟨q,p⟩:=o s;refine⟨od,?_⟩;rw[wD,oa,show (c.toNat % 128+128*j) % 128=c.toNat - 128 from by omega,show (c.toNat % 128+128*j) / 128=j from by omega,p];rw[<-yE (a:=f) od];rfl
def oQ{l p:bw}{n:Int}(h:pNum l=some (n,p)):(-1152921504606846976<=n/\n<=1152921504606846976)/\l=pE n++p:=by
 cases l with
 | nil=>simp[pNum]at h
 | cons f l =>
  rw[pNum]at h
  cases j:numTail 8 6 (f.toNat % 64) f l with
  | none=>rw[j]at h;simp at h
  | some r =>
   have⟨size,c,y⟩:=r;rw[j]at h;simp only at h
   by_cases o:(128<=f.toNat/\c.toNat=0)\/1152921504606846976<size\/(f.toNat / 64 % 2=1/\size=0)
   .rw[if_pos o]at h;simp at h
   rw[if_neg o]at h;simp only[qq,ju]at h;obtain⟨e,rfl⟩:=h;have⟨m,u,x,t⟩:=CX 8 _ _ _ _ _ _ _ j;have w:=f.toNat_lt;have i:(2:Nat) ^ 6=64:=rfl;rw[i]at u;have s:(-1152921504606846976<=n/\n<=1152921504606846976):=by split at e<;>omega
   have k:n.natAbs=size:=by split at e<;>omega
   have b:(if n<0 then 64 else 0)=f.toNat / 64 % 2*64:=by
    by_cases d:f.toNat / 64 % 2=1
    .rw[if_pos d]at e;rw[oc];omega
    .rw[if_neg d]at e;rw[oa];omega
   refine⟨s,?_⟩;unfold pE;rw[b,k,show size % 64=f.toNat % 64 from by omega,show size / 64=m from by omega];rcases t with⟨d,g,v,q⟩|⟨d,g⟩
   .subst g;subst q;rw[show f.toNat / 64 % 2*64+f.toNat % 64=f.toNat from by omega,wD,if_pos rfl,<-yE (a:=f) rfl];rfl
   .rw[show f.toNat / 64 % 2*64+f.toNat % 64=f.toNat - 128 from by omega];exact (g od).2
def Kb(k:Nat)(hk:k<=8):2 ^ (6+7*(8 - k))<=4611686018427387904:=by
 have : ∀k:Fin 9,2 ^ (6+7*(8 - k.val))<=4611686018427387904:=vx
 exact this ⟨k,od⟩
def KS(x:Nat)(h:x<9223372036854775808):wrap64 (x:Int)=(x:Int):=by unfold wrap64;omega
def Xt(sh size x:Nat)(h:size<2 ^ sh)(hx:x<128)(hs:sh<=55):bits .or .i64 (size:Int) (wrap64 ((x:Int)*2 ^ sh))=((size+x*2 ^ sh:Nat):Int)/\size+x*2 ^ sh<2 ^ (sh+7):=by
 have hp:2 ^ sh<=36028797018963968:=by
  have : (36028797018963968:Nat)=2 ^ 55:=vx
  rw[this];exact Nat.pow_le_pow_right od hs
 have hp0:0<2 ^ sh:=Nat.pow_pos od;have hxs:x*2 ^ sh+2 ^ sh<=128*2 ^ sh:=by have:=ja3 (2 ^ sh) (show x+1<=128 by omega);rw[qg3,Nat.one_mul]at this;exact this
 have e:((x:Int)*2 ^ sh)=((x*2 ^ sh:Nat):Int):=by push_cast;rfl
 rw[e,KS _ od,oO _ _ od od];have h2:=Nat.two_pow_add_eq_or_of_lt h x;rw[Nat.or_comm,jh4 x,<-h2];refine⟨by congr 1;omega,?_⟩;rw[Nat.pow_add,jh4];have : (2:Nat) ^ 7=128:=rfl;rw[this];omega
def kR (l:bw):Option (Nat×bw):=match pNum l with
 | some (m,l')=>if m<0 then none else some (m.toNat,l')
 | none=>none
def yf (l:bw):Option (bw×bw):=match kR l with
 | some (m,l')=>if 200<m\/l'.length<m then none else some (l'.take m,l'.drop m)
 | none=>none
def zm (f:Nat->bw->Except Int (Tr×Nat×bw)):Nat->Nat->bw->Except Int (aE×Nat×bw)
 | 0,n,l=>.ok ([],n,l)
 | k+1,n,l=>match f n l with
  | .error e=>.error e
  | .ok (t,n',l')=>match zm f k n' l' with
   | .error e=>.error e
   | .ok (ts,n'',l'')=>.ok (t::ts,n'',l'')
def pQ (f:Nat->bw->Except Int (Tr×Nat×bw)) (n:Nat) (l:bw):Except Int (aE×Nat×bw) :=
 match kR l with
 | none=>.error 1
 | some (c,l')=>zm f c n l'
def pNode:Nat->Nat->bw->Except Int (Tr×Nat×bw)
 | 0,_,_=>.error 4
 | d+1,n,l=>if n=300 then .error 4 else match l with
  | []=>.error 1
  | b::l =>
   if b.toNat=0 then match pNum l with
    | none=>.error 1
    | some (m,l')=>.ok (.nd 0 m 0 (bs []) [],n+1,l')
   else if b.toNat=1 then match yf l with
    | none=>.error 1
    | some (s,l')=>.ok (.nd 1 0 0 (bs s) [],n+1,l')
   else if b.toNat=2 then match l with
    | []=>.error 1
    | p::l=>if Lf.gD p.toNat=false then .error 1 else match pQ (λn l=>pNode d n l) (n+1) l with
     | .error e=>.error e
     | .ok (ts,n',l')=>.ok (.nd 2 0 p.toNat (bs []) ts,n',l')
   else if b.toNat=3 then match pQ (λn l=>pNode d n l) (n+1) l with
    | .error e=>.error e
    | .ok (ts,n',l')=>.ok (.nd 3 0 0 (bs []) ts,n',l')
   else .error 1
def aeS(l:bw):(bs l).data.toList=l:=by simp[bs]
def sF{l d:bw}{c:Nat}(h:kR l=some (c,d)):c<=1152921504606846976/\l=pE c++d:=by
 unfold kR at h
 cases a:pNum l with
 | none=>rw[a]at h;simp at h
 | some r =>
  have⟨x,g⟩:=r;have⟨f,e⟩:=oQ a;rw[a]at h;simp only at h
  by_cases b:x<0
  .rw[if_pos b]at h;simp at h
  .rw[if_neg b]at h;simp only[qq,ju]at h;obtain⟨rfl,rfl⟩:=h;rw[Int.toNat_of_nonneg od];exact⟨od,e⟩
def zS{l s c:bw}(h:yf l=some (s,c)):s.length<=200/\l=pE s.length++s++c:=by
 unfold yf at h
 cases a:kR l with
 | none=>rw[a]at h;simp at h
 | some r =>
  have⟨m,d⟩:=r;have⟨g,e⟩:=sF a;rw[a]at h;simp only at h
  by_cases b:200<m\/d.length<m
  .rw[if_pos b]at h;simp at h
  rw[if_neg b]at h;simp only[qq,ju]at h;obtain⟨rfl,rfl⟩:=h;have f:(d.take m).length=m:=vc
  rw[f];exact⟨od,by rw[qa3,qc6];exact e⟩
def Sound (d:Nat) (n:Nat) (l:bw) (t:Tr) (n':Nat) (l':bw):Prop:=l=encTr t++l'/\n'=n+t.size/\n'<=300/\bC (25 - d) t=0
def J7{d:Nat}{f:Nat->bw->Except Int (Tr×Nat×bw)}(z:∀n l t a b,n<=300->f n l =.ok (t,a,b)->Sound d n l t a b) :
 ∀(k n:Nat) (l:bw) (ts:aE) (a:Nat) (b:bw),n<=300->zm f k n l =.ok (ts,a,b)->l=encTrs ts++b/\a=n+sizes ts/\a<=300/\bG (25 - d) ts=0/\ts.length=k:=by
 intro k
 induction k with
 | zero =>
  intro n l ts a b i h;simp only[zm,jf4,ju]at h;obtain⟨rfl,rfl,rfl⟩:=h;exact⟨by simp[encTrs],by simp[sizes],i,by simp[bG],rfl⟩
 | succ k A =>
  intro n l ts a b i h;rw[zm]at h
  cases c:f n l with
  | error e=>rw[c]at h;simp at h
  | ok r =>
   have⟨t,n1,j⟩:=r;rw[c]at h;simp only at h
   cases g:zm f k n1 j with
   | error e=>rw[g]at h;simp at h
   | ok r =>
    have⟨m,C,B⟩:=r;rw[g]at h;simp only[jf4,ju]at h;obtain⟨rfl,rfl,rfl⟩:=h;have⟨o,p,q,s⟩:=z n l t n1 j i c;have⟨u,v,w,x,y⟩:=A n1 j m C B q g;refine⟨by rw[o,u,encTrs];simp,by rw[v,p,sizes];omega,w,?_,by simp[y]⟩;rw[bG,s];simpa using x
def vM(k n p:Int)(s:bp)(l:Nat)(a:Lf.rP k)(b:¬(k=2/\Lf.gD p=false))(c:Lf.qM k n p s l=false)(d:-1152921504606846976<=n/\n<=1152921504606846976)(e:s.size<=200):Lf.fD k n p s l=0:=by unfold Lf.fD;rw[if_neg (by simp[a]),if_neg b,if_neg (by simp[c]),oa,oa]
def pR{d:Nat}{f:Nat->bw->Except Int (Tr×Nat×bw)}(p:∀n l t a b,n<=300->f n l =.ok (t,a,b)->Sound d n l t a b){n:Nat}{l:bw}{ts:aE}{a:Nat}{b:bw}(hn:n<=300)
 (h:pQ f n l =.ok (ts,a,b)):l=pE ts.length++encTrs ts++b/\a=n+sizes ts/\a<=300/\bG (25 - d) ts=0:=by
 unfold pQ at h
 cases e:kR l with
 | none=>rw[e]at h;simp at h
 | some r =>
  have⟨c,q⟩:=r;have⟨s,o⟩:=sF e;rw[e]at h;have⟨g,i,j,k,m⟩:=J7 p c n q ts a b hn h;subst m;exact⟨by rw[o,g];simp,i,j,k⟩
def pU(d:Nat):d<=24->∀(n:Nat) (l:bw) (t:Tr) (u:Nat) (q:bw),n<=300->pNode d n l =.ok (t,u,q)->Sound d n l t u q:=by
 induction d with
 | zero=>intro _ n l t u q E h;simp[pNode]at h
 | succ d o =>
  intro I n l t u q E h;have o:=o od;rw[pNode.eq_def]at h;simp only at h
  by_cases g:n=300
  .rw[if_pos g]at h;simp at h
  rw[if_neg g]at h;have hF:∀(k m p:Int) (s:bp) (f:aE),Lf.fD k m p s f.length=0->bG (25 - d) f=0->bC (25 - (d+1)) (.nd k m p s f)=0:=by intro k m p s f G F;rw[bC,oa,if_neg (by simpa using G),show 25 - (d+1)+1=25 - d from by omega];exact F
  cases l with
  | nil=>simp at h
  | cons b l =>
   simp only at h
   by_cases x:b.toNat=0
   .rw[if_pos x]at h
    cases c:pNum l with
    | none=>rw[c]at h;simp at h
    | some r =>
     have⟨m,C⟩:=r;have⟨i,j⟩:=oQ c;rw[c]at h;simp only[jf4,ju]at h;obtain⟨rfl,rfl,rfl⟩:=h;refine⟨?_,by simp[Tr.size,sizes],od,?_⟩
     .rw[encTr,if_pos rfl,j,yE x];rfl
     .exact hF 0 m 0 (bs []) [] (vM _ _ _ _ _ ot ot (by rfl) i (by rw[eQ];simp)) (by simp[bG])
   rw[if_neg x]at h
   by_cases y:b.toNat=1
   .rw[if_pos y]at h
    cases c:yf l with
    | none=>rw[c]at h;simp at h
    | some r =>
     have⟨s,C⟩:=r;have⟨i,j⟩:=zS c;rw[c]at h;simp only[jf4,ju]at h;obtain⟨rfl,rfl,rfl⟩:=h;refine⟨?_,by simp[Tr.size,sizes],od,?_⟩
     .rw[encTr,if_neg ot,if_pos rfl,j,yE y,eQ,aeS];rfl
     .exact hF 1 0 0 (bs s) [] (vM _ _ _ _ _ ot ot (by rfl) od (by rw[eQ];exact i)) (by simp[bG])
   rw[if_neg y]at h
   by_cases z:b.toNat=2
   .rw[if_pos z]at h
    cases l with
    | nil=>simp at h
    | cons p l =>
     simp only at h
     by_cases B:Lf.gD p.toNat=false
     .rw[if_pos B]at h;simp at h
     rw[if_neg B]at h
     cases c:pQ (λn l=>pNode d n l) (n+1) l with
     | error e=>rw[c]at h;simp at h
     | ok r =>
      have⟨D,H,C⟩:=r;have⟨i,j,v,w⟩:=pR o od c;rw[c]at h;simp only[jf4,ju]at h;obtain⟨rfl,rfl,rfl⟩:=h;refine⟨?_,by rw[j,Tr.size];omega,v,?_⟩
      .rw[encTr,if_neg ot,if_neg ot,if_pos rfl,i,yE z];simp only[qd2,Int.toNat_natCast];rw[<-yE (a:=p) rfl];rfl
      .exact hF 2 0 p.toNat (bs []) D (vM _ _ _ _ _ ot (by simpa using B) (by rfl) od (by rw[eQ];simp)) w
   rw[if_neg z]at h
   by_cases A:b.toNat=3
   .rw[if_pos A]at h
    cases c:pQ (λn l=>pNode d n l) (n+1) l with
    | error e=>rw[c]at h;simp at h
    | ok r =>
     have⟨D,H,C⟩:=r;have⟨i,j,v,w⟩:=pR o od c;rw[c]at h;simp only[jf4,ju]at h;obtain⟨rfl,rfl,rfl⟩:=h;refine⟨?_,by rw[j,Tr.size];omega,v,?_⟩
     .rw[encTr,if_neg ot,if_neg ot,if_neg ot,i,yE A];rfl
     .exact hF 3 0 0 (bs []) D (vM _ _ _ _ _ ot ot (by rfl) od (by rw[eQ];simp)) w
   .rw[if_neg A]at h;simp at h
def mE (l:bw):Except Int Tr:=match pNode 24 0 l with
 | .ok (t,_,l')=>if l'=[]then .ok t else .error 1
 | .error e=>.error e
def jw (T:Ty):bw->Option Va
 | []=>none
 | b::r=>if b=5/\r.length<=199 then (match mE r with
  | .error _=>none
  | .ok t=>match jf T t with
   | none=>none
   | some x=>if eB T then some x else none)else none
def TR (T:Ty) (x:Va):Bool:=pY T x&&eB T
def M8{T:Ty}{x:Va}(h:TR T x):ai T/\hasV x T/\eB T:=by unfold TR pY at h;simp only[qt]at h;exact⟨h.1.1,h.1.2,h.2⟩
def P9{T:Ty}{x:Va}(h:TR T x):(dR x).size<=301:=by have⟨a,b,c⟩:=M8 h;exact (OD b c (dE a).1).2.2
