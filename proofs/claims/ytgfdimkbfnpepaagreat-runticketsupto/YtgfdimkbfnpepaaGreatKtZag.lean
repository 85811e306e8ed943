import Derived.Test.YtgfdimkbfnpepaaGreatKtZaf
import Derived.Deep.RegionWith
namespace Go.Proofs.YtgfdimkbfnpepaaGreat
set_option linter.all false
open Go.Proofs.Tryz
set_option maxRecDepth 100000
set_option maxHeartbeats 4000000
section
open Pe
def brS:ao->D
 | []=>.s 0 []
 | T::ts=>.s 2 (tysD (T::ts))
def brA:Option (Int×ao)->AV
 | none=>.rz [iA 0,.one (.d (brS [])),bA false]
 | some (m,ts)=>.rz [iA m,.one (.d (brS ts)),bA true]
def O3{T:Ty}{d:Nat}(m:j5 d T)(p:Int):Hd ⟨190,[tyA T,iA p],brA (dL T p)⟩:=by
 have⟨e,_⟩:=jU m;have⟨t,args⟩:=T;simp only[Ty.t,Ty.args]at e;have c:∀{a b:Int},a≠b->jJ (decide (a=b)) false:=λh=>eT (qa6 h);have i:args.length=2->∃A B,args=[A,B]:=λh=>by match args,h with|[A,B],_=>exact⟨A,B,rfl⟩
 by_cases l:t=1
 .subst l
  by_cases q:p=20
  .subst q;exact aF func190 []
  .rw[show dL (.nd 1 args) p=none by simp[dL,Ty.t,q]];exact runT func190 [(13,bA false)] [] (al (c q) al0)
 by_cases j:t=2
 .subst j
  by_cases q:p=22
  .subst q;exact aF func190 []
  by_cases r:p=21
  .subst r;exact aF func190 []
  rw[show dL (.nd 2 args) p=none by simp[dL,Ty.t,q,r]];exact runT func190 [(21,bA false),(29,bA false)] [] (al (c q) (al (c r) al0))
 by_cases k:t=9
 .subst k;obtain⟨A,rfl⟩:=jd7.1 (show args.length=1 by simp[bT]at e;omega)
  by_cases q:p=27
  .subst q;exact aF func190 []
  by_cases r:p=26
  .subst r;exact aF func190 []
  rw[show dL (.nd 9 [A]) p=none by simp[dL,Ty.t,q,r]];exact runT func190 [(37,bA false),(45,bA false)] [] (al (c q) (al (c r) al0))
 by_cases g:t=11
 .subst g;obtain⟨A,B,rfl⟩:∃A B,args=[A,B]:=i (by simp[bT]at e;omega)
  by_cases q:p=23
  .subst q;exact aF func190 []
  rw[show dL (.nd 11 [A,B]) p=none by simp[dL,Ty.t,q]];exact runT func190 [(55,bA false)] [] (al (c q) al0)
 by_cases f:t=12
 .subst f;obtain⟨A,B,rfl⟩:∃A B,args=[A,B]:=i (by simp[bT]at e;omega)
  by_cases q:p=24
  .subst q;exact aF func190 []
  by_cases r:p=25
  .subst r;exact aF func190 []
  rw[show dL (.nd 12 [A,B]) p=none by simp[dL,Ty.t,q,r]];exact runT func190 [(65,bA false),(76,bA false)] [] (al (c q) (al (c r) al0))
 rw[show dL (.nd t args) p=none by simp[dL,Ty.t,l,j,k,g,f]];exact runT func190 [(10,bA false),(18,bA false),(26,bA false),(34,bA false),(42,bA false),(52,bA false),(62,bA false),(73,bA false)] [] (al (c l) (al (c j) (al (c j) (al (c k) (al (c k) (al (c g) (al (c f) (al (c f) al0))))))))
def M7{T:Ty}{p m:Int}{ts:ao}(h:dL T p=some (m,ts)):∀U∈ts,U∈T.args:=by
 unfold dL at h
 repeat' split at h
 all_goals first
  | (cases h;done)
  | (simp only[qk,kh]at h
     obtain⟨rfl,rfl⟩:=h
     first
      | exact λU a=>a
      | exact λU a=>qe2 a
      | exact λU a=>qh2 a
      | (intro U a;cases a;done))
def vw{a b:Int}{s:bo}{l:an}(c:bD a)(d:bD b)(e:s.size<=maxLen)(f:okVs l):okV (fM a b s l):=⟨⟨c,d,i64,e⟩,f,trivial,trivial⟩
mutual
def readT_okV:∀(t:Tr) (T:Ty) (x:Va),okN t->readT t T=some x->okV x
 | .nd k n p s a,T,x,d=>by
  intro h;have g:(⟨#[]⟩:bo).size<=maxLen:=ov
  rw[readT]at h;split at h
  .rename_i c;split at h
   .simp only[qk]at h;subst h;exact vw vm d.1.2.1 g trivial
   .cases h
  .split at h
   .split at h
    .simp only[qk]at h;subst h;exact vw i64 i64 d.1.2.2.2 trivial
    .cases h
   .split at h
    .split at h
     .simp only[kd]at h;obtain⟨e,b,rfl⟩:=h;exact vw i64 i64 g (readTs_okV a _ e d.2 b)
     .cases h
    .split at h
     .split at h
      .simp only[kd]at h;obtain⟨e,b,rfl⟩:=h;exact vw i64 i64 g (readEs_okV a _ e d.2 b)
      .cases h
     .split at h
      .cases h
      .rename_i m ts f;simp only[kd]at h;obtain⟨e,b,rfl⟩:=h;unfold dL at f;have i:(0<=T.t/\T.t<=20)/\(m=0\/m=1):=by
        repeat' split at f
        all_goals first|(cases f;done)|(simp only[qk,kh]at f;omega)
       exact vw vm vm g (readTs_okV a _ e d.2 b)
def readTs_okV:∀(l:aE) (ts:ao) (xs:an),okNs l->readTs l ts=some xs->okVs xs
 | [],[],xs,_=>by intro h;simp[readTs]at h;subst h;trivial
 | [],_::_,xs,_=>by intro h;simp[readTs]at h
 | _::_,[],xs,_=>by intro h;simp[readTs]at h
 | t::l,T::ts,xs,b=>by
  intro h;rw[readTs]at h
  cases a:readT t T with
  | none=>rw[a]at h;cases h
  | some x =>
   rw[a]at h;simp only[kd]at h;obtain⟨d,c,rfl⟩:=h;exact⟨readT_okV t T x b.1 a,readTs_okV l ts d b.2 c⟩
def readEs_okV:∀(l:aE) (ts:ao) (xs:an),okNs l->readEs l ts=some xs->okVs xs
 | [],ts,xs,_=>by intro h;simp[readEs]at h;subst h;trivial
 | .nd k n p s a::l,ts,xs,c=>by
  intro h;rw[readEs]at h
  cases b:readTs a ts with
  | none=>rw[b]at h;cases h
  | some e =>
   rw[b]at h;simp only at h;split at h
   .simp only[kd]at h;obtain⟨f,d,rfl⟩:=h;exact⟨vw i64 i64 ov (readTs_okV a ts e c.1.2 b),readEs_okV l ts f c.2 d⟩
   .cases h
end
def rdA (T:Ty) (m:Int) (s:bo):Option Va->AV
 | some x=>.rz [pF x,bA true]
 | none=>.rz [.agg [.d (.v (.i T.t)),.d (.v (.i m)),.d (.v (.i 0)),.d (.v (.string s)),.d (.s 0 []),.d (.s 0 []),.d (.s 0 [])],bA false]
def F7 (N:Nat):Prop:=∀(t:Tr) (T:Ty) (d:Nat),t.size<=N->t.size<=900->okN t->okT T->j5 d T->∃m s,Hd ⟨152,[tyA T,ndA t],rdA T m s (readT t T)⟩
def readTs_len:∀(l:aE) (ts:ao),l.length≠ts.length->readTs l ts=none
 | [],[],h=>by simp at h
 | [],_::_,_=>by simp[readTs]
 | _::_,[],_=>by simp[readTs]
 | t::l,T::ts,h=>by
  rw[readTs]
  cases readT t T with
  | none=>rfl
  | some x=>simp[readTs_len l ts (by simpa using h)]
def eachA:Option an->AV
 | some xs=>.rz [qi xs,bA true]
 | none=>.rz [nilA,bA false]
def Pe.Holds.abj{f:FuncId}{args:List A1}(h:Hd ⟨f,args,.rz [nilA,bA true]⟩):Hd ⟨f,args,.rz [qi [],bA true]⟩:=h.conv (λ_ _ _ h=>h) λok w v h=>by
 have⟨d,e,c⟩:=h
 match d,c with
 | [u,v],⟨a,b,_⟩=>exact⟨_,e,gG (show fI ok w (.s 0 []) u from a),b,trivial⟩
def ecS (k:Nat) (l:aE) (ts:ao) (xs:an) (j:Nat):St:=[((0,1),.of (dZ ts)),((0,6),.of (.one (.g k 7 j))),((k+1,0),.vT 36 7 (vasD xs)),((0,19),.of (CW l)),((0,20),lW (ndsD l).length),((0,21),.of (jA j))]
abbrev ecP:St:=[((0,4),.of nilA),((0,5),.of (bA false))]
abbrev ecQ (k n:Nat) (xs:an):St:=[((0,6),.of (.one (.g k 7 n))),((k+1,0),.vT 36 7 (vasD xs))]
section
variable {N d:Nat}{l:aE}{ts:ao}
def aaO(c:F7 N)(f:okNs l)(g:okTs ts)(e:∀U∈ts,j5 d U)(n:sizes l<=N)(k:sizes l<=900){j:Nat}(a:j<l.length)(b:j<ts.length):∃m s,Hd ⟨152,[tyA ts[j],ndA l[j]],rdA ts[j] m s (readT l[j] ts[j])⟩:=by have h:=gH l j a;have i:=jF l (j+1);exact c _ _ d od od (okNs_at.1 f _ (zd a)) (okTs_at.1 g _ (zd b)) (e _ (zd b))
def Ym(hN:F7 N)(D:okNs l)(F:okTs ts)(C:∀U∈ts,j5 d U)(hz:sizes l<=N)(B:sizes l<=900){j k:Nat}{xs:an}{x:Va}{ex:Nat}{post:St}(hk:k=3000018\/k=3000040)(O:xs.length=j)(q:j<l.length)(r:j<ts.length)(G:readT l[j] ts[j]=some x)
 (hn:vO prog f188.ntmps ⟨gF f188,ecS 3000040 l ts (xs++[x]) (j+1),ex,post⟩):vO prog f188.ntmps ⟨gF f188,ecS k l ts xs j,ex,post⟩:=by
 have⟨m,s,hR⟩:=aaO hN D F C hz B q r;rw[G]at hR;have E:=cB l;have H:=is_lt (a:=Int.ofNat j) (b:=((ndsD l).length:Int)) Kx;have I:=WV (qn q);have c:∃t a,ts[j] =.nd t a:=by cases ts[j];exact⟨_,_,rfl⟩
 have⟨t,a,c⟩:=c;have J:=EK (s:=ts) (m:=j) (t:=t) (a:=a) (by rw[qn r,c]);rw[c]at hR;have K:mD (lW (IntKind.i64.wrap (Int.ofNat j+1))) (jA (j+1)):=yY (zF ot oB oB);have L:rowsLe ((vasD xs).take j++[vaD x]) (vasD (xs++[x])):=by rw[UU,qc0 KK];exact rows_refl _
 have M:=za (y:=112) (l:=j) (es:=vasD xs) (rows:=[vaD x]) KK ot (Cr [x]) oB ov;generalize l[j]=y at *;have⟨u,v,w,A,z⟩:=y;have⟨h,i,g,p,n,o,f⟩:=x;rcases hk with rfl|rfl<;>exact LG [(22,bA true),(24,.one (.e (ndD (.nd u v w A z)) 0)),(29,.one (.e (tyD (.nd t a)) 0)),(2000040,.one (.d (.s 7 (vasD (xs++[.mk h i g p n o f]))))),(41,jA (j+1))] [⟨_,hR⟩] hn (al H (al I (al J (al L (al M (al K al0))))))
def aaN(hN:F7 N)(u:okNs l)(v:okTs ts)(r:∀U∈ts,j5 d U)(hz:sizes l<=N)(q:sizes l<=900){j k:Nat}{xs:an}(hk:k=3000018\/k=3000040)(c:j<l.length)(f:j<ts.length)(w:readT l[j] ts[j]=none):vO prog f188.ntmps ⟨gF f188,ecS k l ts xs j,1,ecP⟩:=by
 have⟨m,s,hR⟩:=aaO hN u v r hz q c f;rw[w]at hR;have x:=is_lt (a:=Int.ofNat j) (b:=((ndsD l).length:Int)) Kx;have z:=WV (qn c);have⟨t,a,g⟩:∃t a,ts[j] =.nd t a:=by cases ts[j];exact⟨_,_,rfl⟩
 have A:=EK (s:=ts) (m:=j) (t:=t) (a:=a) (by rw[qn f,g]);rw[g]at hR;generalize l[j]=y at *;have⟨h,i,n,p,o⟩:=y;rcases hk with rfl|rfl<;>exact xQ (e:=0) [(22,bA true),(24,.one (.e (ndD (.nd h i n p o)) 0)),(29,.one (.e (tyD (.nd t a)) 0))] [⟨_,hR⟩] (al x (al z (al A al0)))
def Yy(g:F7 N)(m:okNs l)(n:okTs ts)(k:∀U∈ts,j5 d U=true)(p:sizes l<=N)(f:sizes l<=900)(a:l.length=ts.length):∀(i j:Nat) (xs:List Va),j+i=l.length->xs.length=j -> 
 (readTs (l.drop j) (ts.drop j)=none->vO prog f188.ntmps ⟨gF f188,ecS 3000040 l ts xs j,1,ecP⟩)/\∀ys,readTs (l.drop j) (ts.drop j)=some ys->vO prog f188.ntmps ⟨gF f188,ecS 3000040 l ts xs j,2,ecQ 3000040 l.length (xs++ys)⟩
 | 0,j,xs,t,o=>by
  have r:l.drop j=[]:=je0 od;have s:ts.drop j=[]:=je0 od;rw[r,s];refine⟨λh=>by simp[readTs]at h,λys h=>?_⟩;simp only[readTs,qk]at h;subst h;rw[qd1];obtain rfl:j=l.length:=od
  exact xQ (e:=1) [(22,bA false)] [] (ob:=[mD (aQ (decide (Int.ofNat l.length<((ndsD l).length:Int)))) (bA false)]) (al (wH (by rw[Hf];simp)) al0)
 | i+1,j,xs,t,o=>by
  have b:j<l.length:=od
  have c:j<ts.length:=od
  rw[yW b,yW c,readTs]
  cases q:readT l[j] ts[j]with
  | none=>exact⟨λ_=>aaN g m n k p f (.inr rfl) b c q,λys h=>by cases h⟩
  | some x =>
   obtain⟨u,v⟩:=Yy g m n k p f a i (j+1) (xs++[x]) od (by simp[o]);refine⟨λh=>Ym g m n k p f (.inr rfl) o b c q (u (by simpa using h)),λys h=>?_⟩;simp only[kd]at h;obtain⟨w,h,rfl⟩:=h;have:=Ym g m n k p f (.inr rfl) o b c q (v w h);rwa [ur,jb2]at this
def PO(hN:F7 N){n:Nat}(hn:n=2\/ts=[])(m:okNs l)(o:okTs ts)(k:∀U∈ts,j5 d U=true)(hz:sizes l<=N)(j:sizes l<=900):Hd ⟨188,[CW l,.one (.d (.s n (tysD ts)))],eachA (readTs l ts)⟩:=by
 have z:=cB l
 by_cases a:l.length=ts.length
 .have v:jJ (!decide (((ndsD l).length:Int)=((tysD ts).length:Int))) false:=eT (by rw[Hf,eY];simp[a]);rcases l with _|⟨y,l⟩
  .obtain rfl:ts=[]:=jx (by simpa using a.symm);have w:vO prog f188.ntmps ⟨gF f188,[((0,6),.of nilA),((0,20),lW 0),((0,21),.of (jA 0))],2,[((0,6),.of nilA)]⟩:=xQ (e:=1) [] [] (ob:=[]) al0;have : Hd ⟨188,[CW [],.one (.d (.s n (tysD [])))],.rz [nilA,bA true]⟩:=Ce func188 [] [⟨gF f188,[((0,6),.of nilA),((0,20),lW 0),((0,21),.of (jA 0))],2,[((0,6),.of nilA)]⟩] (by intro x b;rw[js]at b;subst b;exact w) [⟨_,Qc gV⟩] (wI (S:=[((0,6),.of nilA),((0,20),lW 0),((0,21),.of (jA 0))]) (q:=gF f188=gF f188) rfl (ps:=[]) al0);exact this.abj
  .obtain rfl:n=2:=hn.resolve_right (λh=>by rw[h]at a;simp at a);have t:=PH gV (n:=(ndsD (y::l)).length) (by simp[ndsD]) (by rw[Hf];omega);have p:0<(y::l).length:=by simp
   have i:0<ts.length:=od
   have u:=Yy hN m o k hz j a l.length 1;have g:(readTs (y::l) ts=none->vO prog f188.ntmps ⟨gF f188,ecS 3000018 (y::l) ts [] 0,1,ecP⟩)/\∀f,readTs (y::l) ts=some f->vO prog f188.ntmps ⟨gF f188,ecS 3000018 (y::l) ts [] 0,2,ecQ 3000040 (y::l).length f⟩:=by
    rcases ts with _|⟨T,ts⟩
    .simp at i
    rw[readTs]
    cases c:readT y T with
    | none=>exact⟨λ_=>aaN hN m o k hz j (.inl rfl) p i c,λf h=>by cases h⟩
    | some x =>
     obtain⟨A,B⟩:=u [x] oB rfl;refine⟨λh=>Ym hN m o k hz j (.inl rfl) rfl p i c (A (by simpa using h)),λf h=>?_⟩;simp only[kd]at h;obtain⟨C,h,rfl⟩:=h;exact Ym hN m o k hz j (.inl rfl) rfl p i c (B C (by simpa using h))
   clear u
   cases c:readTs (y::l) ts with
   | none=>exact Ce func188 [(15,fA)] [_] (by intro x b;rw[js]at b;subst b;exact g.1 c) [⟨_,t⟩] (wI (S:=ecS 3000018 (y::l) ts [] 0) (q:=gF f188=gF f188) rfl (ps:=[jJ (!decide (((ndsD (y::l)).length:Int)=((tysD ts).length:Int))) false]) (al v al0))
   | some f =>
    have D:=readTs_length _ _ _ c;exact Ce func188 [(15,fA)] [_] (by intro x b;rw[js]at b;subst b;exact g.2 f c) [⟨_,t⟩] (oH (wI (S:=ecS 3000018 (y::l) ts [] 0) (q:=gF f188=gF f188) rfl (ps:=[jJ (!decide (((ndsD (y::l)).length:Int)=((tysD ts).length:Int))) false]) (al v al0)) (r:=[(y::l).length=(vasD f).length]) (al KK al0))
 .rw[readTs_len l ts a];exact runT func188 [(15,bA true)] [] (ob:=[jJ (!decide (((ndsD l).length:Int)=((tysD ts).length:Int))) true]) (al (eT (by rw[Hf,eY];simp;omega)) al0)
end
def readEs_length:∀(l:aE) (ts:ao) (ys:an),readEs l ts=some ys->l.length=ys.length
 | [],ts,ys,h=>by simp only[readEs,qk]at h;subst h;rfl
 | .nd k n p s r::l,ts,ys,h=>by
  rw[readEs]at h;split at h
  .cases h
  .split at h
   .simp only[kd]at h;obtain⟨a,h,rfl⟩:=h;simp[readEs_length l ts a h]
   .cases h
def esS (t:Int) (b:Bool) (l:aE) (ts:ao) (xs:an) (j:Nat):St:=[((0,2),.of (.one (.p 2 0))),((3,0),.of (iA t)),((3,1),.of (dZ ts)),((0,11),.of (CW l)),((0,12),lW (ndsD l).length),((0,13),.of (jA j))]++match b with
 | false=>[((0,6),.of nilA)]
 | true=>[((0,6),.of (.one (.g 3000036 7 j))),((3000037,0),.vT 36 7 (vasD xs))]
section
variable {N d:Nat}{t:Int}{l:aE}{ts:ao}
def aaP(hN:F7 N)(u:okNs l)(z:okTs ts)(p:∀U∈ts,j5 d U)(hz:sizes l<=N)(H:sizes l<=900){b:Bool}{j:Nat}{xs ys:an}{ex:Nat}{post:St}(hb:b\/xs=[])(q:xs.length=j){k n:Int}{s:bo}{r:aE}(h:l[j]?=some (.nd k n 28 s r))(A:readTs r ts=some ys)
 (hn:vO prog f189.ntmps ⟨gF f189,esS t true l ts (xs++[fM 11 0 ⟨#[]⟩ ys]) (j+1),ex,post⟩):vO prog f189.ntmps ⟨gF f189,esS t b l ts xs j,ex,post⟩:=by
 have⟨f,c⟩:=qv.1 h;have x:=okNs_at.1 u _ (c ▸ zd f);have o:=gH l j f;have G:=jF l (j+1);rw[c,Tr.size]at o;have g:=PO hN (l:=r) (ts:=ts) (n:=2) (d:=d) (.inl rfl) x.2 z p od od;rw[A]at g;have w:=cB l;have B:=is_lt (a:=Int.ofNat j) (b:=((ndsD l).length:Int)) Kx;have C:=WV h;have D:mD (lW (IntKind.i64.wrap (Int.ofNat j+1))) (jA (j+1)):=yY (zF ot oB oB);have E:rowsLe ((vasD xs).take j++[[.v (.i 11),.v (.i 0),.v (.i 0),.v (.string ⟨#[]⟩),.s 7 (vasD ys),.s 0 [],.s 0 []]]) (vasD (xs++[fM 11 0 ⟨#[]⟩ ys])):=by rw[UU,qc0 KK];refine N9 (b:=vaD (fM 11 0 ⟨#[]⟩ ys)) ?_ _;exact⟨.inl rfl,.inl rfl,.inl rfl,.inl rfl,.inl rfl,.inr ⟨rfl,2,ov,rfl⟩,.inr ⟨rfl,5,ov,rfl⟩,trivial⟩
 have F:=za (y:=112) (l:=j) (es:=vasD xs) (rows:=[[.v (.i 11),.v (.i 0),.v (.i 0),.v (.string ⟨#[]⟩),.s 7 (vasD ys),.s 0 [],.s 0 []]]) KK ot rfl oB ov;have m:=al B (al C (al E (al F (al D al0))));rcases b with _|_
 .obtain rfl:=hb.resolve_left ot;obtain rfl:j=0:=q.symm;exact LG [(14,bA true),(15,.one (.e (ndD (.nd k n 28 s r)) 0)),(2000036,qi ([]++[fM 11 0 ⟨#[]⟩ ys])),(37,jA 1)] [⟨_,g⟩] hn m
 .exact LG [(14,bA true),(15,.one (.e (ndD (.nd k n 28 s r)) 0)),(2000036,qi (xs++[fM 11 0 ⟨#[]⟩ ys])),(37,jA (j+1))] [⟨_,g⟩] hn m
def aaQ(hN:F7 N)(w:okNs l)(y:okTs ts)(v:∀U∈ts,j5 d U)(hz:sizes l<=N)(B:sizes l<=900){b:Bool}{j:Nat}{xs:an}(hb:b\/j=0){k n p:Int}{s:bo}{r:aE}(o:l[j]?=some (.nd k n p s r))(z:readTs r ts=none\/p≠28):vO prog f189.ntmps ⟨gF f189,esS t b l ts xs j,1,ecP⟩:=by
 have⟨g,f⟩:=qv.1 o;have x:=okNs_at.1 w _ (f ▸ zd g);have u:=gH l j g;have A:=jF l (j+1);rw[f,Tr.size]at u;have c:=PO hN (l:=r) (ts:=ts) (n:=2) (d:=d) (.inl rfl) x.2 y v od od;have i:=is_lt (a:=Int.ofNat j) (b:=((ndsD l).length:Int)) Kx;have m:=WV o
 cases h:readTs r ts with
 | none =>
  rw[h]at c;rcases b with _|_
  .obtain rfl:=hb.resolve_left ot;exact xQ (e:=0) [(14,bA true),(15,.one (.e (ndD (.nd k n p s r)) 0))] [⟨_,c⟩] (al i (al m al0))
  .exact xQ (e:=0) [(14,bA true),(15,.one (.e (ndD (.nd k n p s r)) 0))] [⟨_,c⟩] (al i (al m al0))
 | some C =>
  rw[h]at c;have q:=al i (al m (al (show jJ (!decide (p=28)) true from eT (by simpa using z.resolve_left (by simp[h]))) al0));rcases b with _|_
  .obtain rfl:=hb.resolve_left ot;exact xQ (e:=0) [(14,bA true),(15,.one (.e (ndD (.nd k n p s r)) 0)),(30,bA true)] [⟨_,c⟩] q
  .exact xQ (e:=0) [(14,bA true),(15,.one (.e (ndD (.nd k n p s r)) 0)),(30,bA true)] [⟨_,c⟩] q
def YK(f:F7 N)(o:okNs l)(q:okTs ts)(m:∀U∈ts,j5 d U=true)(u:sizes l<=N)(c:sizes l<=900):∀(i j:Nat) (b:Bool) (xs:List Va),j+i=l.length->xs.length=j->(b=true\/j=0/\i≠0) ->
 (readEs (l.drop j) ts=none->vO prog f189.ntmps ⟨gF f189,esS t b l ts xs j,1,ecP⟩)/\∀ys,readEs (l.drop j) ts=some ys->vO prog f189.ntmps ⟨gF f189,esS t b l ts xs j,2,ecQ 3000036 l.length (xs++ys)⟩
 | 0,j,b,xs,B,w,x=>by
  rw[je0 od];refine⟨λh=>by simp[readEs]at h,λys h=>?_⟩;simp only[readEs,qk]at h;subst h;rw[qd1];obtain rfl:j=l.length:=od
  obtain rfl:b=true:=x.resolve_right ot;exact xQ (e:=1) [(14,bA false)] [] (ob:=[mD (aQ (decide (Int.ofNat l.length<((ndsD l).length:Int)))) (bA false)]) (al (wH (by rw[Hf];simp)) al0)
 | i+1,j,b,xs,B,w,x=>by
  have A:j<l.length:=od
  rw[yW A];cases e:l[j]with|nd k n p s r =>
  have v:l[j]?=some (.nd k n p s r):=by rw[qn A,e]
  have a:b=true\/j=0:=x.imp id And.left;have g:b=true\/xs=[]:=a.imp id λh=>jx od;rw[readEs]
  cases z:readTs r ts with
  | none=>exact⟨λ_=>aaQ f o q m u c a v (.inl z),λys h=>by cases h⟩
  | some F =>
   by_cases y:p=28
   .subst y;obtain⟨C,D⟩:=YK f o q m u c i (j+1) true (xs++[fM 11 0 ⟨#[]⟩ F]) od (by simp[w]) (.inl rfl);refine⟨λh=>aaP f o q m u c g w v z (C (by simpa using h)),λys h=>?_⟩;simp only[if_true,kd]at h;obtain⟨E,h,rfl⟩:=h;have:=aaP f o q m u c g w v z (D E h);rwa [ur,jb2]at this
   .exact⟨λ_=>aaQ f o q m u c a v (.inr y),λys h=>by simp[y]at h⟩
def aau(hN:F7 N){T:Ty}(k:okNs l)(i:okT T)(j:∀U∈T.args,j5 d U)(hz:sizes l<=N)(g:sizes l<=900):Hd ⟨189,[tyA T,CW l],eachA (readEs l T.args)⟩:=by
 have⟨t,ts⟩:=T;rcases l with _|⟨y,l⟩
 .have h:vO prog f189.ntmps ⟨gF f189,[((0,6),.of nilA),((0,12),lW 0),((0,13),.of (jA 0))],2,[((0,6),.of nilA)]⟩:=xQ (e:=1) [] [] al0;have : Hd ⟨189,[tyA (.nd t ts),CW []],.rz [nilA,bA true]⟩:=Ce func189 [] [_] (by intro x a;rw[js]at a;subst a;exact h) [] (wI (S:=[((0,6),.of nilA),((0,12),lW 0),((0,13),.of (jA 0))]) (q:=gF f189=gF f189) rfl (ps:=[]) al0);exact this.abj
 .have⟨m,n⟩:=YK (t:=t) hN k i.2 j hz g (y::l).length 0 false [] ot rfl (.inr ⟨rfl,ot⟩);have f:=wI (S:=esS t false (y::l) ts [] 0) (q:=gF f189=gF f189) rfl (ps:=[]) al0
  cases b:readEs (y::l) ts with
  | none =>
   have : Hd ⟨189,[tyA (.nd t ts),CW (y::l)],eachA none⟩:=Ce func189 [] [_] (by intro x a;rw[js]at a;subst a;exact m b) [] f;rw[show (Ty.nd t ts).args=ts from rfl,b];exact this
  | some c =>
   have o:(y::l).length=c.length:=readEs_length _ _ _ b;have : Hd ⟨189,[tyA (.nd t ts),CW (y::l)],eachA (some c)⟩:=Ce func189 [] [_] (by intro x a;rw[js]at a;subst a;exact n c b) [] (oH f (r:=[(y::l).length=(vasD c).length]) (al KK al0));rw[show (Ty.nd t ts).args=ts from rfl,b];exact this
end
def bI.yX{ok:br}{w:bx}{t:Tr}{u:cg}(h:bI ok w t u):∃a c V,u=Go.Proofs.YtgfdimkbfnpepaaGreat.af t.k0 t.n0 t.p0 t.s0 a t.args0.length c/\(bD t.k0/\bD t.n0/\bD t.p0/\t.s0.size<=maxLen)/\cK ok w t.args0 a V:=by
 cases h with
 | mk V d f i g j b e=>exact⟨_,_,V,rfl,⟨i,g,j,f⟩,d,b,e⟩
end
open Pe
def Pe.Holds.aas{f:FuncId}{args:List A1}{k n:Int}{s:bo}{i:Nat}{al:an}(h:Hd ⟨f,args,.rz [.agg [.d (.v (.i k)),.d (.v (.i n)),.d (.v (.i 0)),.d (.v (.string s)),.d (.s i (vasD al)),.d (.s 0 []),.d (.s 0 [])],bA true]⟩)(c:i=7\/al=[]):Hd ⟨f,args,.rz [pF (fM k n s al),bA true]⟩:=h.conv (λ_ _ _ h=>h) λok w v h=>by
 have⟨z,e,j⟩:=h
 match z,j with
 | [x,y],⟨⟨u,b,q⟩,g,_⟩ =>
  subst b
  match u,q with
  | [A,B,C,D,E,F,G],⟨l,m,o,p,a,r,t,_⟩ =>
   refine⟨_,e,⟨_,rfl,l,m,o,p,?_,gG r,gG t,trivial⟩,g,trivial⟩;rcases c with rfl|rfl
   .exact a
   .exact gG a
def Od{N:Nat}(hN:F7 N):F7 (N+1):=by
 intro Q T d hz P G D I;have⟨k,n,p,s,l⟩:=Q;have⟨r,g⟩:=jU I;have O:Tr.size (.nd k n p s l)=sizes l+1:=by rw[Tr.size]
 have L:=cB l;have y:=O3 I p;have⟨t,c⟩:=T;simp only[Ty.t,Ty.args]at r g;have j:∀{a b:Int},a≠b->jJ (decide (a=b)) false:=λh=>eT (qa6 h);have K:t=3\/t=4\/t=5\/t=7->Hd ⟨152,[tyA (.nd t c),ndA (.nd k n p s l)],.rz [.agg [.d (.v (.i t)),.d (.v (.i n)),.d (.v (.i 0)),.d (.v (.string ⟨#[]⟩)),.d (.s 0 []),.d (.s 0 []),.d (.s 0 [])],bA (decide (k=0))]⟩:=by rintro (rfl|rfl|rfl|rfl)<;>exact aF func152 []
 by_cases o:t=3\/t=4\/t=5\/t=7
 .have H:=K o;rw[readT,if_pos (by simpa[Ty.t]using o)]
  by_cases hk:k=0
  .rw[qg0 hk]at H;rw[if_pos hk];exact⟨0,s,H.aas (al:=[]) (.inr rfl)⟩
  .rw[qa6 hk]at H;rw[if_neg hk];exact⟨n,_,H⟩
 by_cases E:t=6
 .subst E;have H:Hd ⟨152,[tyA (.nd 6 c),ndA (.nd k n p s l)],.rz [.agg [.d (.v (.i 6)),.d (.v (.i 0)),.d (.v (.i 0)),.d (.v (.string s)),.d (.s 0 []),.d (.s 0 []),.d (.s 0 [])],bA (decide (k=1))]⟩:=aF func152 [];rw[readT,if_neg vp,if_pos (show (Ty.nd 6 c).t=6 from rfl)]
  by_cases hk:k=1
  .rw[qg0 hk]at H;rw[if_pos hk];exact⟨0,s,H.aas (al:=[]) (.inr rfl)⟩
  .rw[qa6 hk]at H;rw[if_neg hk];exact⟨0,_,H⟩
 by_cases w:t=10
 .subst w;rw[readT,if_neg vp,if_neg vp,if_pos (show (Ty.nd 10 c).t=10 from rfl)]
  by_cases hk:k=3
  .subst hk;rw[if_pos rfl];obtain⟨A,rfl⟩:=jd7.1 (show c.length=1 by simp[bT]at r;omega);have e:(ndsD l).length=l.length:=by simp[ndsD_map]
   have hR:=QS (T:=A) (n:=(ndsD l).length) D.2.1 od;have f:=PO hN (l:=l) (ts:=List.replicate (ndsD l).length A) (n:=2) (d:=d+1) (.inl rfl) G.2 (okTs_at.2 λU z=>by rw[qe1 z];exact D.2.1) (λU z=>by rw[qe1 z];exact g A ot) od od;rw[show List.replicate l.length (bB (Ty.nd 10 [A]).args 0)=List.replicate (ndsD l).length A by rw[e];rfl]
   cases u:readTs l (List.replicate (ndsD l).length A)with
   | none =>
    rw[u]at f;exact⟨0,⟨#[]⟩,aF func152 [⟨_,hR⟩,⟨_,f⟩]⟩
   | some C =>
    rw[u]at f;exact⟨0,⟨#[]⟩,Holds.aas (i:=7) (al:=C) (aF func152 [⟨_,hR⟩,⟨_,f⟩]) (.inl rfl)⟩
  .rw[if_neg hk];exact⟨0,⟨#[]⟩,runT func152 [(55,bA false)] [] (al (j hk) al0)⟩
 by_cases x:t=13
 .subst x;rw[readT,if_neg vp,if_neg vp,if_neg vp,if_pos (show (Ty.nd 13 c).t=13 from rfl)]
  by_cases hk:k=3
  .subst hk;rw[if_pos rfl];have f:=aau hN (l:=l) G.2 D g od od
   cases u:readEs l (Ty.nd 13 c).args with
   | none =>
    rw[u]at f;exact⟨0,⟨#[]⟩,aF func152 [⟨_,f⟩]⟩
   | some C =>
    rw[u]at f;exact⟨0,⟨#[]⟩,Holds.aas (i:=7) (al:=C) (aF func152 [⟨_,f⟩]) (.inl rfl)⟩
  .rw[if_neg hk];exact⟨0,⟨#[]⟩,runT func152 [(73,bA false)] [] (al (j hk) al0)⟩
 rw[readT,if_neg (by exact o),if_neg (by exact E),if_neg (by exact w),if_neg (by exact x)];simp only[not_or]at o;have B:=al (j o.1) (al (j o.2.1) (al (j o.2.2.1) (al (j o.2.2.2) (al (j E) (al (j w) (al (j x) al0))))))
 cases F:dL (.nd t c) p with
 | none =>
  rw[F]at y;exact⟨0,⟨#[]⟩,runT func152 [(33,fA),(34,fA),(35,fA),(36,fA),(44,fA),(52,fA),(70,fA)] [⟨_,y⟩] B⟩
 | some q =>
  have⟨m,ts⟩:=q;rw[F]at y;have J:=M7 F;have f:=λ{n:Nat} M=>PO hN (l:=l) (ts:=ts) (n:=n) (d:=d+1) M G.2 (okTs_at.2 λU z=>okTs_at.1 D.2 U (J U z)) (λU z=>g U (J U z)) od od;dsimp only
  cases u:readTs l ts with
  | none =>
   rw[u]at f;refine⟨m,⟨#[]⟩,?_⟩
   cases ts with
   | nil=>exact runT func152 [(33,fA),(34,fA),(35,fA),(36,fA),(44,fA),(52,fA),(70,fA)] [⟨_,y⟩,⟨_,f (n:=0) (.inr rfl)⟩] B
   | cons A ts=>exact runT func152 [(33,fA),(34,fA),(35,fA),(36,fA),(44,fA),(52,fA),(70,fA)] [⟨_,y⟩,⟨_,f (n:=2) (.inl rfl)⟩] B
  | some C =>
   rw[u]at f;refine⟨0,⟨#[]⟩,Holds.aas (i:=7) (al:=C) ?_ (.inl rfl)⟩
   cases ts with
   | nil=>exact runT func152 [(33,fA),(34,fA),(35,fA),(36,fA),(44,fA),(52,fA),(70,fA)] [⟨_,y⟩,⟨_,f (n:=0) (.inr rfl)⟩] B
   | cons A ts=>exact runT func152 [(33,fA),(34,fA),(35,fA),(36,fA),(44,fA),(52,fA),(70,fA)] [⟨_,y⟩,⟨_,f (n:=2) (.inl rfl)⟩] B
def read_all:∀N,F7 N
 | 0=>λt _ _ h=>by have:=size_pos t;omega
 | N+1=>Od (read_all N)
open Go.ChangeShapes Go.WideShapes Go.ChangeAt Go.RowKit
mutual
def encTr:Tr->bw
 | .nd k n p s args=>k.toNat.toUInt8::(if k=0 then pE n else if k=1 then pE s.size++s.data.toList else if k=2 then p.toNat.toUInt8::(pE args.length++encTrs args)else pE args.length++encTrs args)
def encTrs:aE->bw
 | []=>[]
 | t::ts=>encTr t++encTrs ts
end
def vV(a b:aE):encTrs (a++b)=encTrs a++encTrs b:=by
 induction a with
 | nil=>simp[encTrs]
 | cons t ts c=>simp[encTrs,c]
def yP(l:aE)(i:Nat)(h:i<l.length):encTrs (l.take (i+1))=encTrs (l.take i)++encTr l[i]:=by rw[qb2 h,vV];simp[encTrs]
def Ab(l:aE)(i:Nat):(encTrs (l.take i)).length<=(encTrs l).length:=by have h:=vV (l.take i) (l.drop i);rw[qc4]at h;rw[h];simp
def nJ (B:Nat) (w:bx) (vb:cg) (l:bw) (e:Ending) (w':bx):Prop:=∃v',e =.returned v'/\om B w' v' l/\Gr w vb w' v'
def VU (B:Nat) (w0:bx) (v:cg) (t:Tr):Prop:=∀(xs:bw) (vb:cg) (w2:bx),Below B w0 w2->om B w2 vb xs->xs.length+(encTr t).length<=1000000 ->
 Calls prog 214 #[vb,v] w2 (nJ B w2 vb (xs++encTr t))
def BZ{B:Nat}{w0:bx}{args:aE}{a:bj}{c:Nat}(V:bt)(C:B<=w0.heap.size)(hc:∀i,i<args.length->ky (· < B) w0 a i (V i))(J:∀i (h:i<args.length),VU B w0 (V i) args[i])
 (xs:bw) (vb:cg) (w2:bx) (hb:Below B w0 w2) (hown:om B w2 vb xs) (hlen:xs.length+(pE args.length++encTrs args).length<=1000000) (hal:args.length<=1000000) :
 Calls prog 222 #[vb,.slice a args.length c] w2 (nJ B w2 vb (xs++(pE args.length++encTrs args))):=by
 have⟨Q,HI,F⟩:=we hc J hb;have k:B<=w2.heap.size:=km C hb.size;have T:=jh hown;have G:=jh (qf B args.length ⟨od,od⟩ od vb xs w2 hown k od);rw[qT]at hlen;clear hc J hb hown;go_enter func222,ntmps222;go_wp2_with fail;refine G.out.mono ?_;rintro e w3 ⟨v3,rfl,d,p⟩;have z:=jh d;have x:=jh p;clear d p G;go_wp2_with fail;go_loopw [0,13] (λv i wr=>∃j:Nat,j<=args.length/\i =.i j/\om B wr v (xs++pE args.length++encTrs (args.take j))/\Gr w2 vb wr v) (λ_ i _=>args.length - (intOf i).toNat)
 case atStart=>exact⟨0,zE _,rfl,by simpa[encTrs]using z.out,x.out⟩
 case round =>
  obtain⟨j,hj,rfl,m,r⟩:=hrel;have hb:=r.below T.out k
  by_cases l:j<args.length
  .have U:=(Q.out j l).same (Same.below (F.out.trans hb));obtain⟨b,o,rfl,W,L,N,O,P,H,M,I,K,X,Y,Z,e3,e4⟩:=U;have n:=yP args j l;have D:=Ab args (j+1);have t:=congrArg List.length n;rw[qT]at t;have E:B<=wr.heap.size:=km k hb.size;have w:=HI.out j l (xs++pE args.length++encTrs (args.take j)) u0 (wr.alloc (.cells #[.i L,.i N,.i O,.string P,.slice H M I] 26))
    ((F.out.trans hb).alloc E _) (ue m _) (by simp only[qT];omega)
   rw[K]at w;unfold af at w;have⟨S,A,y⟩:=we w n (r.alloc (.cells #[.i L,.i N,.i O,.string P,.slice H M I] 26));clear w n hb r m K D t;go_wp2_with fail;refine S.out.mono ?_;rintro e w4 ⟨v4,rfl,u,q⟩;have g:=jh u;have f:=jh q;clear u q;go_wp2;go_roundw
   case rel=>exact⟨j+1,od,OS,by rw[A.out,<-ur];exact g.out,y.out.trans f.out⟩
   case measure=>simp[intOf];omega
  .have s:j=args.length:=by omega
   have⟨g,f,R⟩:=we m r s;clear m hb r s;go_wp2;go_ret;have m:=g.out;rw[R.out,qh4,ur]at m;exact⟨_,rfl,m,f.out⟩
def CG{k n p:Int}{s:bo}{l:Nat}(h:Lf.fD k n p s l=0):(0<=k/\k<=3)/\(k=2->Lf.gD p)/\Lf.qM k n p s l=false/\(-1152921504606846976<=n/\n<=1152921504606846976)/\s.size<=200:=by
 unfold Lf.fD at h
 by_cases a:Lf.rP k=false
 .simp[a]at h
 rw[if_neg a]at h
 by_cases b:k=2/\Lf.gD p=false
 .simp[b]at h
 rw[if_neg b]at h
 by_cases c:Lf.qM k n p s l
 .simp[c]at h
 rw[if_neg c]at h
 by_cases d:n < -1152921504606846976\/1152921504606846976<n
 .rw[if_pos d]at h;omega
 rw[if_neg d]at h
 by_cases f:200<s.size
 .rw[if_pos f]at h;omega
 refine⟨by simpa[Lf.rP]using a,λe=>?_,by simpa using c,od,od⟩;simpa[e]using b
def zP{d:Nat}{k n p:Int}{s:bo}{args:aE}(h:bC d (.nd k n p s args)=0):d<=24/\Lf.fD k n p s args.length=0/\bG (d+1) args=0:=by
 rw[bC]at h
 by_cases b:24<d
 .rw[if_pos b]at h;omega
 rw[if_neg b]at h
 by_cases a:Lf.fD k n p s args.length=0
 .rw[if_neg (by simpa using a)]at h;exact⟨od,a,h⟩
 .rw[if_pos a]at h;exact absurd h a
def rJ{d:Nat}{args:aE}(h:bG d args=0):∀t∈args,bC d t=0:=by
 induction args with
 | nil=>simp
 | cons t ts c =>
  rw[bG]at h
  by_cases a:bC d t=0
  .rw[if_neg (by simpa using a)]at h;intro x b;rcases zr.1 b with rfl|b
   .exact a
   .exact c h x b
  .rw[if_pos a]at h;exact absurd h a
def BS{p:Int}(h:Lf.gD p):1<=p/\p<=95:=by simp[Lf.gD]at h;omega
def Nh(t:Tr):1<=(encTr t).length:=by cases t;simp[encTr]
def BB(l:aE):l.length<=(encTrs l).length:=by
 induction l with
 | nil=>simp
 | cons t ts a=>have:=Nh t;simp[encTrs];omega
def IJ(k:Int)(a:0<=k)(b:k<=255):k=(k.toNat.toUInt8).toNat:=by rw[show k.toNat.toUInt8.toNat=k.toNat % 256 from rfl,je3 od];omega
def nJ.mk{B:Nat}{w w':bx}{b v':cg}{l a:bw}(e:om B w' v' a)(c:Gr w b w' v')(d:a=l):nJ B w b l (.returned v') w':=by subst d;exact⟨v',rfl,e,c⟩
def H5{B:Nat}{w0:bx}{t:Tr}{v:cg}(P:B<=w0.heap.size)(hL:bI (· < B) w0 t v):∀d,bC d t=0->VU B w0 v t:=by
 induction hL with
 | @mk k n p s args a c _ V Z hS ik iN ip S hr T =>
  intro d W y M q G g j;have⟨hd,Y,A⟩:=zP W;have⟨hk,X,hm,hN,hs⟩:=CG Y;have U:B<=q.heap.size:=km P G.size;have C:some q.heap.size≠M.ownBlock:=λe=>by have:=(zp g _ e.symm).2;omega
  rcases (show k=0\/k=1\/k=2\/k=3 from by omega)with rfl|rfl|rfl|rfl
  .have H:encTr (.nd 0 n p s args)=(0:Int).toNat.toUInt8::pE n:=by simp[encTr]
   rw[H]at j|-;unfold af;have O:=jh (IJ 0 od od);have HO:=jh g;simp only[jt]at j;clear W Y A hm S hr T G g H hk X;generalize (0:Int).toNat.toUInt8=u at *;go_enter func214,ntmps214;go_wp2_with (first
    | (at_builtin;refine app1 B y u _ (q.alloc (.cells #[.i 0,.i n,.i p,.string s,.slice a args.length c] 26)) M rfl _ _ rfl rfl rfl ot O (ue HO _) oB od ?_;intro R N b f;have⟨b0,b1,b2,b3,b4⟩:=bE ((f.block (k:=q.heap.size) ot C).trans (jj _ _));have x:=f.1.size;have r:=jh b;have m:=jh f;clear b f))
   simp at x;refine (qf B n iN od R (y++[u]) N r od oB).mono ?_;rintro e w3 ⟨v3,rfl,I,l⟩;have E:=jh I;have z:=jh l;clear I l;go_wp2;go_ret;exact nJ.mk E (((Gr.refl _ _).alloc _).trans (m.trans z)) ot
  .have H:encTr (.nd 1 n p s args)=(1:Int).toNat.toUInt8::(pE s.size++s.data.toList):=by simp[encTr]
   rw[H]at j|-;unfold af;simp only[jt,qT]at j;have O:=jh (IJ 1 od od);have HO:=jh g;clear W Y A hm S hr T G g H hk X;generalize (1:Int).toNat.toUInt8=u at *;go_enter func214,ntmps214;go_wp2_with (first
    | (at_builtin;refine app1 B y u _ (q.alloc (.cells #[.i 1,.i n,.i p,.string s,.slice a args.length c] 26)) M rfl (.tmp 5) _ rfl rfl rfl ot O (ue HO _) oB od ?_;intro R N b f;have⟨b0,b1,b2,b3,b4⟩:=bE ((f.block (k:=q.heap.size) ot C).trans (jj _ _));have x:=f.1.size;simp at x;have r:=jh b;have m:=jh f;clear b f))
   have HN:=jh (λw'=>qf B s.size ⟨od,od⟩ od R (y++[u]) w');go_region_law (first
    | (refine Ai B (y++[u]++pE s.size) s _ v3 rfl (.tmp 25) (.tmp 27) rfl rfl rfl E US US od ?_;intro v4 w4 L o;have F:=jh L;have D:=jh o;clear L o)
    | (go_simp;go_at_call 221;refine (HN N.drew r.drew oB oB).mono ?_;rintro e w3 ⟨v3,rfl,I,l⟩;have w:=m.out.trans l.QY;have⟨e0,e1,e2,e3,e4⟩:=bE ((w.block (k:=q.heap.size) ot C).trans (jj _ _));have ad:=l.1.size;simp at ad;have E:=jh I;have z:=jh w;clear I l w))
   all_goals
    go_wp2;go_ret;exact nJ.mk F (((Gr.refl _ _).alloc _).trans (z.trans D)) ot
  .have H:encTr (.nd 2 n p s args)=(2:Int).toNat.toUInt8::p.toNat.toUInt8::(pE args.length++encTrs args):=by simp[encTr]
   rw[H]at j|-;unfold af;have⟨ae,ah⟩:=BS (X rfl);have ab:=BB args;simp only[jt,qT]at j;have⟨O,aa,HO,HA,HB⟩:=wg (IJ 2 od od) (IJ p od od) g (λy M q G ho Z=>BZ (c:=c) V P S (λi h=>T i h (d+1) (rJ A _ (zd h))) y M q G ho Z od) G;clear W Y A hm S hr T G g H hk X;generalize (2:Int).toNat.toUInt8=u at *;generalize p.toNat.toUInt8=u2 at *;go_enter func214,ntmps214;go_wp2_with (first
    | (at_builtin;refine app1 B y u _ (q.alloc (.cells #[.i 2,.i n,.i p,.string s,.slice a args.length c] 26)) M rfl (.tmp 5) _ rfl rfl rfl ot O (ue HO _) oB od ?_;intro R N b f;have⟨b0,b1,b2,b3,b4⟩:=bE ((f.block (k:=q.heap.size) ot C).trans (jj _ _));have x:=f.1.size;simp at x;have r:=jh b;have m:=jh f;clear b f)
    | (at_builtin;refine app1 B (y++[u]) u2 _ N R rfl (.tmp 31) _ rfl rfl rfl ot aa r od oB ?_;intro v3 w3 K l;have w:=m.out.trans l;have⟨e0,e1,e2,e3,e4⟩:=bE ((w.block (k:=q.heap.size) ot C).trans (jj _ _));have E:=jh K;have z:=jh w;clear K l w))
   have Q:Below B w0 w3:=(HB.out.alloc U _).trans (z.below (ue HO _) oB);refine (HA (y++[u]++[u2]) v3 w3 Q E US).mono ?_;rintro e w4 ⟨v4,rfl,J,o⟩;have F:=jh J;have D:=jh o;clear J o;go_wp2;go_ret;exact nJ.mk F (((Gr.refl _ _).alloc _).trans (z.trans D)) ot
  .have H:encTr (.nd 3 n p s args)=(3:Int).toNat.toUInt8::(pE args.length++encTrs args):=by simp[encTr]
   rw[H]at j|-;unfold af;have ab:=BB args;simp only[jt,qT]at j;have⟨O,HO,HA,HB⟩:=JT (IJ 3 od od) g (λy M q G ho Z=>BZ (c:=c) V P S (λi h=>T i h (d+1) (rJ A _ (zd h))) y M q G ho Z od) G;clear W Y A hm S hr T G g H hk X;generalize (3:Int).toNat.toUInt8=u at *;go_enter func214,ntmps214;go_wp2_with (first
    | (at_builtin;refine app1 B y u _ (q.alloc (.cells #[.i 3,.i n,.i p,.string s,.slice a args.length c] 26)) M rfl (.tmp 5) _ rfl rfl rfl ot O (ue HO _) oB od ?_;intro R N b f;have⟨b0,b1,b2,b3,b4⟩:=bE ((f.block (k:=q.heap.size) ot C).trans (jj _ _));have x:=f.1.size;simp at x;have r:=jh b;have m:=jh f;clear b f))
   have Q:Below B w0 N:=(HB.out.alloc U _).trans (m.below (ue HO _) oB);refine (HA (y++[u]) R N Q r US).mono ?_;rintro e w4 ⟨v4,rfl,J,o⟩;have F:=jh J;have D:=jh o;clear J o;go_wp2;go_ret;exact nJ.mk F (((Gr.refl _ _).alloc _).trans (m.trans D)) ot
def Rc{B:Nat}{w:bx}{v:cg}{l:bw}(h:om B w v l):(convert 222 9 v).run prog w =.ok (.string ⟨l.toArray⟩) w:=by
 have b:=h;unfold om at b;rcases b.2 with⟨rfl,e⟩|⟨g,a,d,rfl,f,o,n,i,k,c⟩
 .have : l=[]:=jx e;subst this;exact run_convert_bytes_nil w 222 5 underlying222 underlying5 0 0 9 underlying9
 .refine run_convert_bytes_back w 222 9 5 ⟨g,0,none⟩ a l underlying222 underlying5 underlying9 λj m=>?_;exact qb0 b (g:=g) rfl j _ (by simp[cs,qn m])
mutual
def tX(d:Nat):∀t,bC d t=0->t.size<=1000000->(encTr t).length<=215*t.size
 | .nd k n p s a,h,l=>by
  have⟨u,j,b⟩:=zP h;have⟨v,x,w,r,y⟩:=CG j;rw[Tr.size]at l;have z:=xy (d+1) a b od;have i:=cB a;have m:=xx n ⟨od,od⟩;have o:=xx s.size ⟨od,od⟩;have q:=xx a.length ⟨od,od⟩;have c:s.data.toList.length=s.size:=ot
  rw[encTr,Tr.size]
  by_cases e:k=0
  .rw[if_pos e];simp;omega
  rw[if_neg e]
  by_cases f:k=1
  .rw[if_pos f];simp only[jt,qT,c];omega
  rw[if_neg f]
  by_cases g:k=2
  .rw[if_pos g];simp only[jt,qT];omega
  .rw[if_neg g];simp only[jt,qT];omega
def xy(d:Nat):∀ts,bG d ts=0->sizes ts<=1000000->(encTrs ts).length<=215*sizes ts
 | [],_,_=>by simp[encTrs]
 | t::ts,h,c=>by
  rw[sizes]at c;have e:=tX d t (rJ h t ot) od;have b:bG d ts=0:=by
   rw[bG]at h
   by_cases a:bC d t=0
   .rwa [if_neg (by simpa using a)]at h
   .rw[if_pos a]at h;exact absurd h a
  have f:=xy d ts b od;rw[encTrs,sizes,qT];omega
end
def iV{t:Tr}(h:dS t=0):bC 1 t=0/\t.size<=300:=by
 unfold dS at h
 by_cases a:bC 1 t=0
 .rw[if_neg (by simpa using a)]at h
  by_cases b:300<t.size
  .rw[if_pos b]at h;omega
  .exact⟨a,od⟩
 .rw[if_pos a]at h;exact absurd h a
def Ju{w:bx}{t:Tr}{v:cg}(z:bI (· < w.heap.size) w t v)(B:dS t=0) :
 Calls prog 203 #[v] w λe w'=>e =.returned (.tuple #[.string ⟨(encTr t).toArray⟩,.i 0])/\cm w w' none:=by
 have⟨y,H⟩:=iV B;have q:=tX 1 t y od;have u:∃k n p s a l c,v=af k n p s a l c:=by cases z;exact⟨_,_,_,_,_,_,_,rfl⟩
 have⟨k,n,p,s,a,l,c,u⟩:=u;have d:∀o,bI (· < (w.alloc o).heap.size) (w.alloc o) t v:=λo=>(z.same (w':=w.alloc o) (λb _ f _=>jf4 _ _ _ f)).ae (λb _ f=>by simp;have : b<w.heap.size:=f;omega);have j:=Bj (d (.cells #[.i k,.i n,.i p,.string s,.slice a l c] 26)) od;have r:∀w',(w.alloc (.cells #[.i k,.i n,.i p,.string s,.slice a l c] 26)).grownBy w' none->Calls prog 214 #[.n0,v] w' (nJ w'.heap.size w' (.n0) (encTr t)):=by intro w' C;have I:Same (· < (w.alloc (.cells #[.i k,.i n,.i p,.string s,.slice a l c] 26)).heap.size) (w.alloc (.cells #[.i k,.i n,.i p,.string s,.slice a l c] 26)) w':=λb o f _=>Lf.Qr C b o f;have A:=((d _).same I).ae (ok':=(· < w'.heap.size)) (λb f _=>f);exact H5 (qS _) A 1 y [] (.n0) w' (Below.refl _ _) (qg1 _ _ _ _) oB
 rw[B]at j;rw[u]at j r|-;unfold af at j r|-;have F:=jh j;have G:=jh r;clear j r z d u B y H q;generalize encTr t=O at *;go_enter func203,ntmps203;go_wp2_with fail;refine F.mono ?_;rintro e Q ⟨rfl,g⟩;have⟨J,K,L,M,N⟩:=bE ((g.block w.heap.size ot ot).trans (jj _ _));have h:=jh g;clear g;go_wp2_with fail;refine (G _ h).mono ?_;rintro e R ⟨P,rfl,D,m⟩;have E:=Rc D;have x:=jh m.1;clear D m;go_wp2_with fail;go_ret2;refine⟨rfl,aJ (aK _) (aJ h ?_)⟩;exact x
def Ni{w:bx}{t:Tr}{v:cg}(m:bI (· < w.heap.size) w t v)(y:t.size<=4611686018427387904 - 1)(u:dS t≠0) :
 Calls prog 203 #[v] w λe w'=>e =.returned (.tuple #[.string ⟨#[]⟩,.i (dS t)])/\cm w w' none:=by
 have h:∃k n p s a l c,v=af k n p s a l c:=by cases m;exact⟨_,_,_,_,_,_,_,rfl⟩
 have⟨k,n,p,s,a,l,c,h⟩:=h;have d:∀o,bI (· < (w.alloc o).heap.size) (w.alloc o) t v:=λo=>(m.same (w':=w.alloc o) (λb _ q _=>jf4 _ _ _ q)).ae (λb _ q=>by simp;have : b<w.heap.size:=q;omega);have g:=Bj (d (.cells #[.i k,.i n,.i p,.string s,.slice a l c] 26)) od;rw[h]at g|-;unfold af at g|-;have r:=jh g;clear g m d h;generalize dS t=x at *;go_enter func203,ntmps203;go_wp2_with fail;refine r.mono ?_;rintro e z ⟨rfl,f⟩;have j:=jh f;clear f;go_wp2_with fail;go_ret2;exact⟨rfl,aJ (aK _) j⟩
def iR(w:bx)(o a:Obj):((w.alloc o).alloc a).heap[w.heap.size+1]?=some a:=by have:=jj (w.alloc o) a;rwa [show (w.alloc o).heap.size=w.heap.size+1 from by simp]at this
def ma (C:List (Ty×Va)):List bd:=C.map λp=>tyD p.1++vaD p.2
abbrev aaw (C:List (Ty×Va)):A1:=.one (.d (.s 9 (ma C)))
def qO(C:List (Ty×Va)):(ma C).length=C.length:=by simp[ma]
def Uh(C:List (Ty×Va)):nC (ma C):=by simp only[nC,ma,List.all_map,kB,Function.comp];rintro⟨T,x⟩ _ y b;have⟨t,a⟩:=T;have⟨k,n,i,s,r,u,c⟩:=x;simp only[tyD,vaD,qd0,qe5,zr,qe4,or_false]at b;rcases b with rfl|rfl|rfl|rfl|rfl|rfl|rfl|rfl|rfl<;>rfl
def ofA:Option (List (Ty×Va))->AV
 | some C=>.rz [aaw C,bA true]
 | none=>.rz [nilA,bA false]
def Pe.Holds.abk{f:FuncId}{args:List A1}(h:Hd ⟨f,args,.rz [nilA,bA true]⟩):Hd ⟨f,args,ofA (some [])⟩:=h.conv (λ_ _ _ h=>h) λok w v h=>by
 have⟨d,e,c⟩:=h
 match d,c with
 | [u,v],⟨a,b,_⟩=>exact⟨_,e,gG (show fI ok w (.s 0 []) u from a),b,trivial⟩
def XT (l:an) (m:Nat) (x:Va):Prop:=Bp 7 7 (vasD l) m=some (.of (.one (.e (vaD x) 0)))
def PT{l:an}{m:Nat}{x:Va}(h:l[m]?=some x):XT l m x:=by unfold XT Bp;rw[vasD_map,qb7,h];cases x;rfl
def oeS (k:Nat) (l:an) (ts:ao) (j:Nat):St:=[((0,1),.of (dZ ts)),((0,6),.of (.one (.g k 9 j))),((k+1,0),.vT 111 9 (ma ((ts.zip l).take j))),((0,17),.of (qi l)),((0,18),lW (vasD l).length),((0,19),.of (jA j))]
abbrev oeQ (k n:Nat) (C:List (Ty×Va)):St:=[((0,6),.of (.one (.g k 9 n))),((k+1,0),.vT 111 9 (ma C))]
section
variable {l:an}{ts:ao}
def aaR(w:l.length=ts.length)(M:l.length<=20000000){j k ex:Nat}{post:St}(hk:k=3000016\/k=3000032)(C:j<l.length)
 (hn:vO prog f133.ntmps ⟨gF f133,oeS 3000032 l ts (j+1),ex,post⟩):vO prog f133.ntmps ⟨gF f133,oeS k l ts j,ex,post⟩:=by
 have D:j<ts.length:=od
 have⟨t,a,B⟩:∃t a,ts[j] =.nd t a:=by cases ts[j];exact⟨_,_,rfl⟩
 have⟨g,h,f,q,o,p,c,A⟩:∃k n i z r t d,l[j] =.mk k n i z r t d:=by cases l[j];exact⟨_,_,_,_,_,_,_,rfl⟩
 have F:(ts.zip l).length=l.length:=oB
 have v:ma ((ts.zip l).take (j+1))=ma ((ts.zip l).take j)++[tyD (.nd t a)++vaD (.mk g h f q o p c)]:=by rw[qb2 od,List.getElem_zip,B,A];simp[ma]
 have u:(ma ((ts.zip l).take j)).length=j:=by rw[qO,qc5];exact jd1 od
 have G:=is_lt (a:=Int.ofNat j) (b:=((vasD l).length:Int)) OF;have H:=PT (l:=l) (m:=j) (x:=.mk g h f q o p c) (by rw[qn C,A]);have I:=EK (s:=ts) (m:=j) (t:=t) (a:=a) (by rw[qn D,B]);have J:mD (lW (IntKind.i64.wrap (Int.ofNat j+1))) (jA (j+1)):=yY Kf;have K:rowsLe ((ma ((ts.zip l).take j)).take j++[tyD (.nd t a)++vaD (.mk g h f q o p c)]) (ma ((ts.zip l).take (j+1))):=by rw[v,qc0 od];exact rows_refl _
 have L:=za (y:=144) (l:=j) (es:=ma ((ts.zip l).take j)) (rows:=[tyD (.nd t a)++vaD (.mk g h f q o p c)]) od ot (Uh [(.nd t a,.mk g h f q o p c)]) oB ov;have E:=al G (al H (al I (al K (al L (al J al0)))));clear v u;rcases hk with rfl|rfl<;>exact LG [(20,bA true),(22,.one (.e (vaD (.mk g h f q o p c)) 0)),(27,.one (.e (tyD (.nd t a)) 0)),(2000032,aaw ((ts.zip l).take (j+1))),(33,jA (j+1))] [] hn E
def Y1(a:l.length=ts.length)(b:l.length<=20000000):∀(i j:Nat),j+i=l.length->vO prog f133.ntmps ⟨gF f133,oeS 3000032 l ts j,2,oeQ 3000032 l.length (ts.zip l)⟩
 | 0,j,c=>by
  obtain rfl:j=l.length:=od
  have h:vO prog f133.ntmps ⟨gF f133,oeS 3000032 l ts l.length,2,oeQ 3000032 l.length ((ts.zip l).take l.length)⟩:=xQ (e:=1) [(20,bA false)] [] (ob:=[mD (aQ (decide (Int.ofNat l.length<((vasD l).length:Int)))) (bA false)]) (al (wH (by rw[qY];simp)) al0);rwa [qc0 (show (ts.zip l).length<=l.length by simp;omega)]at h
 | i+1,j,c=>aaR a b (.inr rfl) od (Y1 a b i (j+1) od)
def Mj{n:Nat}(hn:n=2\/ts=[])(c:l.length<=20000000):Hd ⟨133,[qi l,.one (.d (.s n (tysD ts)))],ofA (if l.length=ts.length then some (ts.zip l)else none)⟩:=by
 by_cases a:l.length=ts.length
 .rw[if_pos a];have j:jJ (!decide (((vasD l).length:Int)=((tysD ts).length:Int))) false:=eT (by rw[qY,eY];simp[a]);rcases l with _|⟨y,l⟩
  .obtain rfl:ts=[]:=jx (by simpa using a.symm);have g:vO prog f133.ntmps ⟨gF f133,[((0,6),.of nilA),((0,18),lW 0),((0,19),.of (jA 0))],2,[((0,6),.of nilA)]⟩:=xQ (e:=1) [] [] (ob:=[]) al0;have : Hd ⟨133,[qi [],.one (.d (.s n (tysD [])))],.rz [nilA,bA true]⟩:=Ce func133 [] [_] (by intro x b;rw[js]at b;subst b;exact g) [⟨_,Qc gK⟩] (wI (S:=[((0,6),.of nilA),((0,18),lW 0),((0,19),.of (jA 0))]) (q:=gF f133=gF f133) rfl (ps:=[]) al0);exact this.abk
  .obtain rfl:n=2:=hn.resolve_right (λh=>by rw[h]at a;simp at a);have f:=PH gK (n:=(vasD (y::l)).length) (by simp[vasD]) KK;have i:=aaR (ts:=ts) (k:=3000016) a c (.inl rfl) ot (Y1 a c l.length 1 oB);exact Ce func133 [(13,fA)] [_] (by intro x b;rw[js]at b;subst b;exact i) [⟨_,f⟩] (oH (wI (S:=oeS 3000016 (y::l) ts 0) (q:=gF f133=gF f133) rfl (ps:=[jJ (!decide (((vasD (y::l)).length:Int)=((tysD ts).length:Int))) false]) (al j al0)) (r:=[(y::l).length=(ma (ts.zip (y::l))).length]) (al (by rw[qO];simp;simp at a;omega) al0))
 .rw[if_neg a];exact runT func133 [(13,bA true)] [] (ob:=[jJ (!decide (((vasD l).length:Int)=((tysD ts).length:Int))) true]) (al (eT (by rw[qY,eY];simp;omega)) al0)
def aat{T:Ty}(d:okT T):Hd ⟨134,[qi l,tyA T],ofA (if l.length<=24 then some ((List.replicate l.length T).zip l)else none)⟩:=by
 by_cases h:l.length<=24
 .rw[if_pos h];have e:=qY l;have c:=QS (T:=T) (n:=(vasD l).length) d od;have b:=Mj (l:=l) (ts:=List.replicate (vasD l).length T) (n:=2) (.inl rfl) od;rw[if_pos (by simp[e])]at b;rw[<-e];obtain⟨t,a⟩:=T;exact runT func134 [(8,fA)] [⟨_,c⟩,⟨_,b⟩] (ob:=[jJ (decide ((24:Int)<((vasD l).length:Int))) false]) (al (eT (qa6 od)) al0)
 .rw[if_neg h];obtain⟨t,a⟩:=T;exact runT func134 [(8,bA true)] [] (ob:=[jJ (decide ((24:Int)<((vasD l).length:Int))) true]) (al (eT (qg0 KK)) al0)
end
structure IQ (T:Ty) (x:Va):Prop where
 len:(T.args.length:Int)=bT T.t
 side:T.t=12->x.n=0\/x.n=1
def Z5{T:Ty}{x:Va}(z:okT T)(v:IQ T x)(hz:x.size<=20000000):Hd ⟨85,[tyA T,pF x],ofA (partsOf T x)⟩:=by
 have G:=kS x.args;have J:=eP x;have⟨len,side⟩:=v;have d:=λ{ts:ao} {n:Nat} H=>Mj (l:=x.args) (ts:=ts) (n:=n) H od;have f:=λ{T:Ty} h=>aat (l:=x.args) (T:=T) h;have r:∀{a b:Int},a≠b->jJ (decide (a=b)) false:=λh=>eT (qa6 h);unfold partsOf bS;simp only[]
 by_cases u:T.t=8
 .have d:=d (ts:=x.types) (n:=2) (.inl rfl);rw[if_pos u];split<;>rename_i c<;>first|rw[if_pos c]at d|rw[if_neg c]at d
  all_goals
   have⟨t,e⟩:=T;have⟨k,n,a,s,args,types,code⟩:=x;obtain rfl:t=8:=u;exact aF func85 [⟨_,d⟩]
 rw[if_neg u]
 by_cases q:T.t=9/\x.args.length=0
 .rw[if_pos q];have⟨t,e⟩:=T;have⟨k,n,a,s,args,types,code⟩:=x;have⟨q,F⟩:=q;obtain rfl:t=9:=q;obtain rfl:args=[]:=jx F;exact Holds.abk (aF func85 [])
 rw[if_neg q]
 by_cases g:T.t=10
 .rw[if_pos g];have⟨t,e⟩:=T;obtain rfl:t=10:=g;obtain⟨A,rfl⟩:∃A,e=[A]:=jd7.1 (show e.length=1 by simp[bT,Ty.t,Ty.args]at len;omega);have f:=f (T:=A) z.2.1;split<;>rename_i c<;>first|rw[if_pos c]at f|rw[if_neg c]at f
  all_goals
   have⟨y,w⟩:=A;have⟨k,n,a,s,args,types,code⟩:=x;exact aF func85 [⟨_,f⟩]
 rw[if_neg g]
 by_cases m:T.t=13
 .rw[if_pos m];have f:=f (T:=.nd 11 T.args) (by have⟨t,e⟩:=T;exact⟨⟨ov,ov⟩,z.2⟩);split<;>rename_i c<;>first|rw[if_pos c]at f|rw[if_neg c]at f
  all_goals
   have⟨t,e⟩:=T;have⟨k,n,a,s,args,types,code⟩:=x;obtain rfl:t=13:=m;exact aF func85 [⟨_,f⟩]
 rw[if_neg m]
 by_cases j:T.t=12
 .rw[if_pos j];have⟨t,e⟩:=T;obtain rfl:t=12:=j;obtain⟨A,B,rfl⟩:∃A B,e=[A,B]:=by
   have : e.length=2:=by simp[bT,Ty.t,Ty.args]at len;omega
   match e,this with|[A,B],_=>exact⟨A,B,rfl⟩
  have d:=λC=>d (ts:=[C]) (n:=2) (.inl rfl);have⟨y,w⟩:=A;have⟨E,D⟩:=B;split<;>rename_i c
  all_goals
   first|simp only[if_pos (show x.args.length=[_].length from c)]at d|simp only[if_neg (show ¬x.args.length=[_].length from c)]at d
   have⟨k,n,a,s,args,types,code⟩:=x;rcases (show n=0\/n=1 from side rfl)with rfl|rfl
   .have d:=d (.nd y w);exact aF func85 [⟨_,d⟩]
   .have d:=d (.nd E D);exact aF func85 [⟨_,d⟩]
 rw[if_neg j]
 by_cases o:T.t=14
 .have d:=d (ts:=[]) (n:=0) (.inr rfl);rw[if_pos o];split<;>rename_i c<;>first|rw[if_pos (show x.args.length=[].length from c)]at d|rw[if_neg (show ¬x.args.length=[].length from c)]at d
  all_goals
   have⟨t,e⟩:=T;have⟨k,n,a,s,args,types,code⟩:=x;obtain rfl:t=14:=o;exact aF func85 [⟨_,d⟩]
 rw[if_neg o];have d:=d (ts:=T.args) (n:=2) (.inl rfl);have i:T.t=9->jJ (decide (((vasD x.args).length:Int)=0)) false:=λh=>eT (qa6 (by rw[qY];simp only[h,true_and]at q;omega))
 by_cases p:T.t=9
 .replace i:=i p;split<;>rename_i c<;>first|rw[if_pos c]at d|rw[if_neg c]at d
  all_goals
   have⟨t,e⟩:=T;have⟨k,n,a,s,args,types,code⟩:=x;obtain rfl:t=9:=p;exact runT func85 [(22,fA)] [⟨_,d⟩] (al i al0)
 have I:=al (r u) (al (r p) (al (r g) (al (r m) (al (r j) (al (r o) al0)))));split<;>rename_i c<;>first|rw[if_pos c]at d|rw[if_neg c]at d
 all_goals
  have⟨t,e⟩:=T;have⟨k,n,a,s,args,types,code⟩:=x;exact runT func85 [(9,fA),(18,fA),(24,fA),(35,fA),(45,fA),(59,fA)] [⟨_,d⟩] I
def jI(n:Int)(w:bx):Calls prog 78 #[.i n] w λe w'=>e =.returned (.bool (kE n))/\w'=w:=by
 go_enter func78,ntmps78
 go_wp2
 all_goals
  go_ret;refine Lf.kZ ?_ rfl;rw[qd5];simp[kE]
  try omega
def E5(n:Int)(w:bx):Calls prog 179 #[.i n] w λe w'=>e =.returned (.bool (gN n))/\w'=w:=by
 have H:=jh (λw=>jI n w)
 by_cases h:0<=n
 .have a:gN n=kE n:=by
   rw[qd5];simp[gN,kE];omega
  rw[a];generalize kE n=b at *;clear a;go_enter func179,ntmps179;go_wp2_with ((go_at_call 78;refine (H _).mono ?_;rintro e w' ⟨rfl,rfl⟩));go_ret;exact⟨rfl,rfl⟩
 .have a:gN n=false:=by simp[gN];omega
  rw[a];clear a;go_enter func179,ntmps179;go_wp2;go_ret;exact⟨rfl,rfl⟩
def Br(n:Int)(w:bx):Calls prog 131 #[.i n] w λe w'=>e =.returned (.bool (lY n))/\w'=w:=by
 go_enter func131,ntmps131
 go_wp2
 all_goals
  go_ret;refine Lf.kZ ?_ rfl;rw[qd5];simp[lY]
  try omega
def JI(n:Int)(w:bx):Calls prog 130 #[.i n] w λe w'=>e =.returned (.bool (decide (n=8\/n=15)))/\w'=w:=by
 go_enter func130,ntmps130
 go_wp2
 all_goals
  go_ret;refine Lf.kZ ?_ rfl;rw[qd5];simp
  try omega
def Nr(t n:Int)(w:bx):Calls prog 129 #[.i t,.i n] w λe w'=>e =.returned (.bool (bQ t n))/\w'=w:=by
 have⟨b,c,d⟩:=we (λw=>jI n w) (λw=>E5 n w) (λw=>Br n w);have g:Hid (bQ t n=bQ t n):=rfl;generalize a:bQ t n=r;have f:=jh a;clear a g;go_enter func129,ntmps129;go_wp2_with (first
  | (go_at_call 78;refine (b _).mono ?_;rintro e w' ⟨rfl,rfl⟩)
  | (go_at_call 179;refine (c _).mono ?_;rintro e w' ⟨rfl,rfl⟩)
  | (go_at_call 131;refine (d _).mono ?_;rintro e w' ⟨rfl,rfl⟩))
 all_goals
  go_ret;refine Lf.kZ ?_ rfl;have a:=f.out;clear f b c d;subst a;rw[qd5];simp_all [bQ]
def dw.up{w W:bx}{ts:ao}{a:bj}{V:bt}(h:dw (λ_=>True) w ts a V)(d:cm w W none):dw (· < W.heap.size) W ts a V :=
 (h.same (ni d)).ae (λb c _=>c)
def aH.up{w W:bx}{T:Ty}{v:cg}(h:aH (λ_=>True) w T v)(c:cm w W none):aH (· < W.heap.size) W T v :=
 (h.same (ni c)).ae (λb a _=>a)
def FC{l:ao}{i:Nat}(h:i<l.length):l[i].size<=tysizes l:=jS (zd h)
def ent_ksame:∀args w,(callFunc 39 args).run prog w =.ok (.enter 39 args) w:=λargs w=>OK
def nS (x y:ao) (i:Nat):Bool:=match x[i]?,y[i]? with
 | some p,some q=>sameT p q
 | _,_=>true
def Ko{x y:ao}{i:Nat}(a:i<x.length)(b:i<y.length):nS x y i=sameT x[i] y[i]:=by simp[nS,qn a,qn b]
def sameTs_all:∀(x y:ao),x.length=y.length->((∀i,i<x.length->nS x y i)->sameTs x y)/\((∃i,i<x.length/\nS x y i=false)->sameTs x y=false)
 | [],[],_=>⟨λ_=>rfl,λ⟨i,h,_⟩=>by simp at h⟩
 | _::_,[],h=>by simp at h
 | [],_::_,h=>by simp at h
 | p::x,q::y,h=>by
  have⟨f,g⟩:=sameTs_all x y (by simpa using h);refine⟨λb=>?_,λ⟨i,a,c⟩=>?_⟩
  .have d:=b 0 ot;have e:=f (λi a=>by have:=b (i+1) (by simpa using a);simpa[nS]using this);simp[sameTs,e];simpa[nS]using d
  .cases i with
   | zero =>
    have j:sameT p q=false:=by simpa[nS]using c
    simp[sameTs,j]
   | succ i =>
    have:=g ⟨i,by simpa using a,by simpa[nS]using c⟩;simp[sameTs,this]
def tY{w:bx}{x y:ao}{a b:bj}{ca cb:Nat}{V q:bt}(l:dw (λ_=>True) w x a V)(p:dw (λ_=>True) w y b q)(hz:tysizes x<=50000000)(W:bx)(k:cm w W none) :
 Calls prog 38 #[.slice a x.length ca,.slice b y.length cb,.func (.func 39) #[] #[]] W λe w'=>e =.returned (.bool (sameTs x y))/\cm W w' none:=by
 by_cases g:x.length=y.length
 .have h:=Dq 39 #[] x.length a b ca cb V q (nS x y) (λ_ f=>cm W f none) (λf=>cm W f none) l.1 ent_ksame
   (λi f d c=>((l.2.1 i d).same (ni (aJ k c)))) (λi f d c=>((p.2.1 i od).same (ni (aJ k c)))) (λi f o c=>aJ c (aK _))
   (λi f d c=>by have r:=aH.up (l.2.2 i d) (aJ k c);have s:=aH.up (p.2.2 i od) (aJ k c);have t:=Ik r s (km (FC d) hz);rw[Ko d od];exact t.mono λe w' h=>⟨h.1,λ_=>aJ c h.2,λ_=>aJ c h.2⟩) W (bM _ _)
  rw[g]at h|-;have⟨z,A⟩:=sameTs_all x y g;refine h.mono λe w' h=>?_;rcases h with⟨rfl,m,j⟩|⟨i,d,u,rfl,m⟩
  .rw[z (by rw[g];exact j)];exact⟨rfl,m⟩
  .rw[A ⟨i,by rw[g];exact d,u⟩];exact⟨rfl,m⟩
 .have h:=Dr (.func (.func 39) #[] #[]) x.length y.length a b ca cb g l.1 p.1 W;have n:sameTs x y=false:=by
   cases v:sameTs x y with
   | false=>rfl
   | true=>exact absurd (sameTs_len v) g
  rw[n];exact h.mono λe w' h=>⟨h.1,by rw[h.2];exact bM _ _⟩
def Ns{w:bx}{T:Ty}{u:cg}{types:ao}{ta:bj}{tc:Nat}{VT:bt}(q:aH (λ_=>True) w T u)(n:dw (λ_=>True) w types ta VT)(y:tysizes types<=50000000)(W:bx)(s:cm w W none) :
 Calls prog 132 #[u,.slice ta types.length tc] W λe w'=>e =.returned (.bool (eZ T types))/\cm W w' none:=by
 obtain⟨a,c,V,rfl,A,g⟩:=q.inv;have H:=n.1;unfold maxLen at H;have⟨k,d,m,o⟩:=JT n g s y
 by_cases h:T.t=8
 .have hF:eZ T types=oneGood types:=by unfold eZ;rw[if_pos h]
  rw[hF]
  by_cases z:types.length=1
  .obtain⟨x,rfl⟩:=jd7.1 z;obtain⟨L,X,P,K,O,M,rfl,_,I,E,N⟩:=((k.2.1 0 ot).same (ni m)).cells;have G:∀l,cm W l none->Calls prog 45 #[bY P K O M] l λe w'=>e =.returned (.bool (bn x))/\cm l w' none:=λl B=>by
    have F:=k.out.2.2 0 ot;rw[I]at F;exact nT (aH.up F (aJ m B))
   have D:=jh G;rw[jc0,qd3]at E N;have Y:L<W.heap.size:=zv W _ E;rw[show oneGood [x]=bn x from rfl];generalize bn x=r at *;clear G q n g s y A hF z I k d o;have b:=jh (aK (w:=W) (.cells #[.i T.t,.slice a T.args.length c] 54));rw[h]at b|-;clear h;unfold bY at D|-;simp only[qa1]at H|-;go_enter func132,ntmps132;go_wp2_with fail;refine (D _ b).mono ?_;rintro e Q ⟨rfl,v⟩;have j:=jh (aJ b v);clear v;go_wp2;go_ret;exact⟨rfl,j⟩
  .have p:=J3 z;rw[p];have R:¬(types.length:Int)=1:=by omega
   have Z:((types.length:Int)==1)=false:=by rw[qa5];exact R
   clear q n g s y A hF p z k d o m;rw[h];clear h;unfold bY;go_enter func132,ntmps132;go_wp2;go_ret;exact⟨rfl,aK _⟩
 .by_cases f:T.t=14
  .have hF:eZ T types=sameTs types T.args:=by unfold eZ;rw[if_neg h,if_pos f]
   rw[hF];have J:=jh (λl (B:cm W l none)=>tY (ca:=tc) (cb:=c) k d o l (aJ m B));generalize sameTs types T.args=r at *;have C:=d.out.1;unfold maxLen at C;clear q n g s y A hF h k d o m;have b:=jh (aK (w:=W) (.cells #[.i T.t,.slice a T.args.length c] 54));rw[f]at b|-;clear f;unfold bY;go_enter func132,ntmps132;go_wp2_with fail;refine (J _ b).mono ?_;rintro e Q ⟨rfl,v⟩;have j:=jh (aJ b v);clear v;go_wp2;go_ret;exact⟨rfl,j⟩
  .have hF:eZ T types=decide (types.length=0):=by unfold eZ;rw[if_neg h,if_neg f]
   rw[hF];have S:(T.t==8)=false:=by simpa using h
   have U:(T.t==14)=false:=by simpa using f
   clear q n g s y A hF k d o m;unfold bY;go_enter func132,ntmps132;go_wp2;go_ret;refine Lf.kZ ?_ (aK _);rw[qd5];simp
def Y0(n:Int):Hd ⟨131,[iA n],aQ (lY n)⟩:=jM (bK func131) λf w d h=>by
 match d,h with
 | [v],⟨c,_⟩=>rw[bW c];exact (Br n w).mono λe g ⟨a,b⟩=>⟨a,b ▸ bM _ _⟩
def WG(n:Int):Hd ⟨130,[iA n],aQ (decide (n=8\/n=15))⟩:=jM (bK func130) λf w d h=>by
 match d,h with
 | [v],⟨c,_⟩=>rw[bW c];exact (JI n w).mono λe g ⟨a,b⟩=>⟨a,b ▸ bM _ _⟩
def SL(t n:Int):Hd ⟨129,[iA t,iA n],aQ (bQ t n)⟩:=jM (bK func129) λd w c h=>by
 match c,h with
 | [u,v],⟨a,b,_⟩=>rw[bW a,bW b];exact (Nr t n w).mono λe f ⟨a,b⟩=>⟨a,b ▸ bM _ _⟩
def SQ{T:Ty}{l:ao}(e:okT T)(g:okTs l)(hz:tysizes l<=50000000):Hd ⟨132,[tyA T,dZ l],aQ (eZ T l)⟩:=jM (bK func132) λok w i h=>by
 match i,h with
 | [u,v],⟨b,d,_⟩ =>
  obtain⟨a,c,V,rfl,_,f⟩:=jR g (.inl rfl) d;exact Ns ((jC e b).ae λ_ _ _=>trivial) (f.ae λ_ _ _=>trivial) hz w (bM _ _)
def Tn{T:Ty}{x:Va}(E:okT T)(H:okV x)(I:x.size<=20000000):Hd ⟨84,[tyA T,pF x],aQ (eX T x)⟩:=by
 have⟨t,q⟩:=T;have⟨k,n,a,s,J,r,m⟩:=x;have K:=SL t n;have L:=WG t;have M:=Y0 a;have N:=SQ (T:=.nd t q) (l:=r) E H.2.2.1 (by simp only[Va.size]at I;omega);have hF:eX (.nd t q) (.mk k n a s J r m)=(decide (k=t)&&bQ t n&&(decide (a=0)||decide (t=8\/t=15)&&lY a)&&(decide (s.size=0)||decide (t=6)&&decide (s.size<=200))&&eZ (.nd t q) r&&(decide (m.length=0)||decide (t=14))):=rfl;have w:decide (s.size=0)=(s.toList==([]:bw)):=by rw[qd5,kj,beq_iff_eq];exact (Lf.Au s).symm
 have o:decide (m.length=0)=decide (((ndsD m).length:Int)=0):=by rw[ndsD_map,qf3,qd5,kj,kj];omega
 have y:decide (s.size<=200)=decide ((s.size:Int)<=200):=by rw[qd5,kj,kj];omega
 rw[hF,w,y,o];clear hF w y o E H I;generalize z:decide (k=t)=b;generalize bQ t n=d at *;generalize A:decide (a=0)=c;generalize decide (t=8\/t=15)=e at *;generalize lY a=g at *;generalize B:(s.toList==([]:bw))=f;generalize C:decide (t=6)=i;generalize D:decide ((s.size:Int)<=200)=j;generalize eZ (.nd t q) r=u at *;generalize F:decide (((ndsD m).length:Int)=0)=p;generalize G:decide (t=14)=v;refine runT func84 [(9,bA b),(20,bA c),(35,bA f),(39,bA i),(44,bA j),(58,bA p),(62,bA v)]
  (Xk [(b,⟨_,K⟩),(b&&d && !c,⟨_,L⟩),(b&&d && !c&&e,⟨_,M⟩),(b&&d&&(c||e&&g)&&(f||i&&j),⟨_,N⟩)])
  (ob:=Xk [(true,jJ (decide (k=t)) b),(b&&d,jJ (decide (a=0)) c),(b&&d&&(c||e&&g),jJ (s.toList==([]:bw)) f),(b&&d&&(c||e&&g) && !f,jJ (decide (t=6)) i),(b&&d&&(c||e&&g) && !f&&i,jJ (decide ((s.size:Int)<=200)) j),(b&&d&&(c||e&&g)&&(f||i&&j)&&u,jJ (decide (((ndsD m).length:Int)=0)) p),(b&&d&&(c||e&&g)&&(f||i&&j)&&u && !p,jJ (decide (t=14)) v)]) (h:=?_)
  (IM (eT z) (IM (eT A) (IM (eT B) (IM (eT C) (IM (eT D) (IM (eT F) (IM (eT G) al0)))))))
 clear z A B C D F G;cases b
 .kernel_rfl
 cases d
 .kernel_rfl
 cases c
 case' false =>
  cases e
  .kernel_rfl
  cases g
  .kernel_rfl
 all_goals
  cases f
  case' false =>
   cases i
   .kernel_rfl
   cases j
   .kernel_rfl
  all_goals
   cases u
   .kernel_rfl
   cases p
   case' false=>cases v
   all_goals kernel_rfl
def QN(a:Int)(w:bx):Calls prog 91 #[.i a] w λe w'=>e =.returned (.bool false)/\w'=w:=by
 go_enter func91,ntmps91
 go_wp2
 all_goals
  go_ret
  first|exact⟨rfl,rfl⟩|exact Lf.kZ ot rfl
def QO(a:bo)(w:bx):Calls prog 209 #[.string a] w λe w'=>e =.returned (.bool false)/\w'=w:=by
 go_enter func209,ntmps209
 go_wp2
 all_goals
  go_ret
  first|exact⟨rfl,rfl⟩|exact Lf.kZ ot rfl
def tT(a b:Int)(w:bx):Calls prog 58 #[.i a,.i b] w λe w'=>e =.returned (.i (gP a b))/\w'=w:=by
 have H:=jh QN
 by_cases d:a<b
 .have c:gP a b = -1:=by rw[gP,if_pos d]
  rw[c];clear c;go_enter func58,ntmps58;go_wp2_with ((go_at_call 91;refine (H _ _).mono ?_;rintro e w' ⟨rfl,rfl⟩));go_ret;exact⟨rfl,rfl⟩
 .by_cases f:b<a
  .have c:gP a b=1:=by rw[gP,if_neg d,if_pos f]
   rw[c];clear c;go_enter func58,ntmps58;go_wp2_with ((go_at_call 91;refine (H _ _).mono ?_;rintro e w' ⟨rfl,rfl⟩));go_ret;exact⟨rfl,rfl⟩
  .have c:gP a b=0:=by rw[gP,if_neg d,if_neg f]
   rw[c];clear c;go_enter func58,ntmps58;go_wp2_with ((go_at_call 91;refine (H _ _).mono ?_;rintro e w' ⟨rfl,rfl⟩));go_ret;exact⟨rfl,rfl⟩
def Qa(a b:bo)(w:bx):Calls prog 184 #[.string a,.string b] w λe w'=>e =.returned (.i (Jn a b))/\w'=w:=by
 have H:=jh QO;have h:∀w,(binOp BinOp.gtr 9 (.string a) (.string b)).run prog w =.ok (.bool (!(Op.bytesLess a.toList b.toList||a.toList==b.toList))) w:=λw=>by simp[binOp,Op.stringOp]
 have j:Jn a b=if Op.bytesLess a.toList b.toList then -1 else if a.toList=b.toList then 0 else 1:=rfl
 rw[j]
 cases f:Op.bytesLess a.toList b.toList with
 | true =>
  rw[if_pos rfl];go_enter func184,ntmps184;go_wp2_with ((go_at_call 209;refine (H _ _).mono ?_;rintro e w' ⟨rfl,rfl⟩));go_ret;exact⟨rfl,rfl⟩
 | false =>
  rw[if_neg ov]
  by_cases c:a.toList=b.toList
  .rw[if_pos c];have d:(a.toList==b.toList):=by simpa using c
   have k:a=b:=by
    have g:a.data=b.data:=by apply Array.ext';rw[jc4,jc4]at c;exact c
    cases a;cases b;simp_all
   subst k;clear c d;go_enter func184,ntmps184;go_wp2_with ((go_at_call 209;refine (H _ _).mono ?_;rintro e w' ⟨rfl,rfl⟩));go_ret;exact⟨rfl,rfl⟩
  .rw[if_neg c];have d:(a.toList==b.toList)=false:=by simpa using c
   have g:(Op.bytesLess a.toList b.toList||a.toList==b.toList)=false:=by rw[f,d];rfl
   go_enter func184,ntmps184;go_wp2_with ((go_at_call 209;refine (H _ _).mono ?_;rintro e w' ⟨rfl,rfl⟩));go_ret;exact⟨rfl,rfl⟩
def OM(k n a:Int)(s:bo)(b:bj)(al ac:Nat)(ta:bj)(tl tc:Nat)(na:bj)(c nc:Nat)(w:bx) :
 Calls prog 36 #[bg k n a s b al ac ta tl tc na c nc] w λe w'=>e =.returned (.slice b al ac)/\cm w w' none:=by
 unfold bg;go_enter func36,ntmps36;go_wp2;go_ret;exact⟨rfl,aK _⟩
def LQ(b:Nat)(x y:Int)(w:bx)(q:w.cell? ⟨b,0,none⟩=some (.i x))(s:w.cell? ⟨b,1,none⟩=some (.i y)) :
 Calls prog 183 #[.o b 2 2] w λe w'=>e =.returned (.i (if x≠0 then x else y))/\cm w w' none:=by
 generalize t:(if x≠0 then x else y)=r;have n:=jh t;clear t;have⟨c,l,m⟩:=we (bM w none) q s;clear q s;go_enter func183,ntmps183;go_wp2_with fail;go_loopw [8] (λi wr=>∃j:Nat,j<=2/\i =.i j/\wr=w/\(0<j->x=0)/\(1<j->y=0)) (λi _=>2 - (intOf i).toNat)
 case atStart=>exact⟨0,od,rfl,rfl,λh=>od,λh=>od⟩
 case round =>
  obtain⟨j,A,rfl,rfl,o,p⟩:=hrel;have k:=jh o;have u:=jh p;have v:=l.out;have z:=m.out;clear o p;rcases (show j=0\/j=1\/j=2 from by omega)with rfl|rfl|rfl
  .by_cases a:x=0
   .have g:=jh a;have d:(x==0):=by simpa using a
    have f:(x != 0)=false:=by simpa using a
    clear a;go_wp2;go_roundw
    case rel=>exact⟨1,od,OS,trivial,λ_=>g,λh=>od⟩
    case measure=>simp[intOf]
   .have g:=jh a;have d:(x==0)=false:=by simpa using a
    have f:(x != 0):=by simpa using a
    go_wp2;go_ret;exact Lf.lX (by rw[<-n.out,if_pos g.out]) c
  .by_cases a:y=0
   .have g:=jh a;have d:(y==0):=by simpa using a
    have f:(y != 0)=false:=by simpa using a
    clear a;go_wp2;go_roundw
    case rel=>exact⟨2,od,OS,trivial,λ_=>k od,λ_=>g⟩
    case measure=>simp[intOf]
   .have g:=jh a;have d:(y==0)=false:=by simpa using a
    have f:(y != 0):=by simpa using a
    go_wp2;go_ret;exact Lf.lX (by rw[<-n.out,if_neg (by simpa using k.out od)]) c
  .clear v z;go_wp2;go_ret;exact Lf.lX (by rw[<-n.out,if_neg (by simpa using k.out od),u.out od]) c
def UB(w0:bx)(T:TypeId)(x y:Int)(H:Nat)(b:w0.heap.size=H) :
 Calls prog 183 #[.o H 2 2] (w0.alloc (.cells #[.i x,.i y] T)).drew λe w'=>e =.returned (.i (if x≠0 then x else y))/\cm w0 w' none:=by
 subst b;have a:(w0.alloc (.cells #[.i x,.i y] T)).drew.heap[w0.heap.size]?=some (.cells #[.i x,.i y] T):=jj w0 (.cells #[.i x,.i y] T);exact (LQ w0.heap.size x y _ (xq a) (wy a)).mono λe w' h=>⟨h.1,aJ (fK (aK _)) h.2⟩
def Q5{w:bx}{x y:Va}{u v:cg}(N:aA (λ_=>True) w x u)(O:aA (λ_=>True) w y v)(W:bx) :
 Calls prog 182 #[u,v] W λe w'=>e =.returned (.i (nQ x y))/\cm W w' none:=by
 obtain⟨q,t,D,E,B,C,_,_,_,rfl,_,_,_,_⟩:=N.inv;obtain⟨f,g,m,o,j,l,_,_,_,rfl,_,_,_,_⟩:=O.inv;clear N O;have HO:=jh LQ;have G:nQ x y=if gP x.n y.n≠0 then gP x.n y.n else Jn x.s y.s:=rfl
 rw[G];have P:=jh (λw=>tT x.n y.n w);have Q:=jh (λw=>Qa x.s y.s w);clear G;generalize gP x.n y.n=J at *;generalize Jn x.s y.s=L at *;unfold bg;generalize G:(if J≠0 then J else L)=r;have M:=jh G;clear G HO;have HO:Hid (∀(I:bx) (T:TypeId) (H:Nat),I.heap.size=H->Calls prog 183 #[.o H 2 2] (I.alloc (.cells #[.i J,.i L] T)).drew λe w'=>e =.returned (.i r)/\cm I w' none):=λI T H X=>by rw[<-M.out];exact UB I T J L H X
 clear M;go_enter func182,ntmps182;go_wp2_with fail;have z:((W.alloc (.cells #[.i x.k,.i x.n,.i x.a,.string x.s,.slice q x.args.length t,.slice D x.types.length E,.slice B x.code.length C] 36)).alloc (.cells #[.i y.k,.i y.n,.i y.a,.string y.s,.slice f y.args.length g,.slice m y.types.length o,.slice j y.code.length l] 36)).heap[W.heap.size]?=some (.cells #[.i x.k,.i x.n,.i x.a,.string x.s,.slice q x.args.length t,.slice D x.types.length E,.slice B x.code.length C] 36 (0,0)):=CJ _ _ _;have A:((W.alloc (.cells #[.i x.k,.i x.n,.i x.a,.string x.s,.slice q x.args.length t,.slice D x.types.length E,.slice B x.code.length C] 36)).alloc (.cells #[.i y.k,.i y.n,.i y.a,.string y.s,.slice f y.args.length g,.slice m y.types.length o,.slice j y.code.length l] 36)).heap[W.heap.size+1]?=some (.cells #[.i y.k,.i y.n,.i y.a,.string y.s,.slice f y.args.length g,.slice m y.types.length o,.slice j y.code.length l] 36 (0,0)):=by have:=jj (W.alloc (.cells #[.i x.k,.i x.n,.i x.a,.string x.s,.slice q x.args.length t,.slice D x.types.length E,.slice B x.code.length C] 36)) (.cells #[.i y.k,.i y.n,.i y.a,.string y.s,.slice f y.args.length g,.slice m y.types.length o,.slice j y.code.length l] 36);rwa [show (W.alloc (.cells #[.i x.k,.i x.n,.i x.a,.string x.s,.slice q x.args.length t,.slice D x.types.length E,.slice B x.code.length C] 36)).heap.size=W.heap.size+1 from by simp]at this
 have F:cm W ((W.alloc (.cells #[.i x.k,.i x.n,.i x.a,.string x.s,.slice q x.args.length t,.slice D x.types.length E,.slice B x.code.length C] 36)).alloc (.cells #[.i y.k,.i y.n,.i y.a,.string y.s,.slice f y.args.length g,.slice m y.types.length o,.slice j y.code.length l] 36)) none:=aJ (aK _) (aK _);generalize (W.alloc (.cells #[.i x.k,.i x.n,.i x.a,.string x.s,.slice q x.args.length t,.slice D x.types.length E,.slice B x.code.length C] 36)).alloc (.cells #[.i y.k,.i y.n,.i y.a,.string y.s,.slice f y.args.length g,.slice m y.types.length o,.slice j y.code.length l] 36)=p at *;have c:∀b:bx,cm p b none->b.heap[W.heap.size]?=_:=λb h=>(h.block _ (qq.1 z).1 ot).trans z;have d:∀b:bx,cm p b none->b.heap[W.heap.size+1]?=_:=λb h=>(h.block _ (qq.1 A).1 ot).trans A;have R:∀b:bx,cm p b none->b.cell? ⟨W.heap.size,1,none⟩=some (.i x.n):=λb h=>(cO (c b h)).2.1;have U:∀b:bx,cm p b none->b.cell? ⟨W.heap.size,3,none⟩=some (.string x.s):=λb h=>(cO (c b h)).2.2.2.1;have S:∀b:bx,cm p b none->b.cell? ⟨W.heap.size+1,1,none⟩=some (.i y.n):=λb h=>(cO (d b h)).2.1;have V:∀b:bx,cm p b none->b.cell? ⟨W.heap.size+1,3,none⟩=some (.string y.s):=λb h=>(cO (d b h)).2.2.2.1;have K:=jh F;clear c d z A F;go_region_held3 (λw'=>cm p w' none) (first|assumption|exact fK (bM _ _)|exact aJ oS (aK _)) (first
  | (go_at_call 58;refine (P _).mono ?_;rintro e w' ⟨rfl,rfl⟩)
  | (go_at_call 184;refine (Q _).mono ?_;rintro e w' ⟨rfl,rfl⟩)
  | (go_at_call 183;refine (HO _ _ _ ot).mono ?_;rintro e w' ⟨rfl,Y⟩))
 all_goals
  go_wp2;go_ret;exact⟨rfl,aJ K oS⟩
