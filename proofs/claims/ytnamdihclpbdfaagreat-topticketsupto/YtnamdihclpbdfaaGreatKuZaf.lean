import Derived.Test.YtnamdihclpbdfaaGreatKuZae
namespace Go.Proofs.YtnamdihclpbdfaaGreat
set_option linter.all false
open Go.Proofs.Tryz
set_option maxRecDepth 100000
section
open Pe
def brS:aw->D
 | []=>.s 0 []
 | T::ts=>.s 2 (tysD (T::ts))
def brA:Option (Int×aw)->AV
 | none=>.rz [iA 0,.one (.d (brS [])),bA false]
 | some (m,ts)=>.rz [iA m,.one (.d (brS ts)),bA true]
def O3{T:Ty}{d:Nat}(m:bf d T)(p:Int):Hd ⟨180,[tyA T,iA p],brA (dL T p)⟩:=by
 have⟨e,_⟩:=jU m;have⟨t,args⟩:=T;simp only[Ty.t,Ty.args]at e;have c:∀{a b:Int},a≠b->jJ (decide (a=b)) false:=λh=>eT (zE h);have i:args.length=2->∃A B,args=[A,B]:=λh=>by match args,h with|[A,B],_=>exact⟨A,B,rfl⟩
 by_cases l:t=1
 .subst l
  by_cases q:p=20
  .subst q;exact aF func180 []
  .rw[show dL (.nd 1 args) p=none by simp[dL,Ty.t,q]];exact runT func180 [(13,bA false)] [] (al (c q) al0)
 by_cases j:t=2
 .subst j
  by_cases q:p=22
  .subst q;exact aF func180 []
  by_cases r:p=21
  .subst r;exact aF func180 []
  rw[show dL (.nd 2 args) p=none by simp[dL,Ty.t,q,r]];exact runT func180 [(21,bA false),(29,bA false)] [] (al (c q) (al (c r) al0))
 by_cases k:t=9
 .subst k;obtain⟨A,rfl⟩:=ja6.1 (show args.length=1 by simp[bT]at e;omega)
  by_cases q:p=27
  .subst q;exact aF func180 []
  by_cases r:p=26
  .subst r;exact aF func180 []
  rw[show dL (.nd 9 [A]) p=none by simp[dL,Ty.t,q,r]];exact runT func180 [(37,bA false),(45,bA false)] [] (al (c q) (al (c r) al0))
 by_cases g:t=11
 .subst g;obtain⟨A,B,rfl⟩:∃A B,args=[A,B]:=i (by simp[bT]at e;omega)
  by_cases q:p=23
  .subst q;exact aF func180 []
  rw[show dL (.nd 11 [A,B]) p=none by simp[dL,Ty.t,q]];exact runT func180 [(55,bA false)] [] (al (c q) al0)
 by_cases f:t=12
 .subst f;obtain⟨A,B,rfl⟩:∃A B,args=[A,B]:=i (by simp[bT]at e;omega)
  by_cases q:p=24
  .subst q;exact aF func180 []
  by_cases r:p=25
  .subst r;exact aF func180 []
  rw[show dL (.nd 12 [A,B]) p=none by simp[dL,Ty.t,q,r]];exact runT func180 [(65,bA false),(76,bA false)] [] (al (c q) (al (c r) al0))
 rw[show dL (.nd t args) p=none by simp[dL,Ty.t,l,j,k,g,f]];exact runT func180 [(10,bA false),(18,bA false),(26,bA false),(34,bA false),(42,bA false),(52,bA false),(62,bA false),(73,bA false)] [] (al (c l) (al (c j) (al (c j) (al (c k) (al (c k) (al (c g) (al (c f) (al (c f) al0))))))))
def M7{T:Ty}{p m:Int}{ts:aw}(h:dL T p=some (m,ts)):∀U∈ts,U∈T.args:=by
 unfold dL at h
 repeat' split at h
 all_goals first
  | (cases h;done)
  | (simp only[qq,ju]at h
     obtain⟨rfl,rfl⟩:=h
     first
      | exact λU a=>a
      | exact λU a=>qe6 a
      | exact λU a=>qh2 a
      | (intro U a;cases a;done))
def vw{a b:Int}{s:bp}{l:ao}(c:bD a)(d:bD b)(e:s.size<=maxLen)(f:okVs l):okV (fM a b s l):=⟨⟨c,d,i64,e⟩,f,trivial,trivial⟩
mutual
def readT_okV:∀(t:Tr) (T:Ty) (x:Va),okN t->readT t T=some x->okV x
 | .nd k n p s a,T,x,d=>by
  intro h;have g:(⟨#[]⟩:bp).size<=maxLen:=ot
  rw[readT]at h;split at h
  .rename_i c;split at h
   .simp only[qq]at h;subst h;exact vw vm d.1.2.1 g trivial
   .cases h
  .split at h
   .split at h
    .simp only[qq]at h;subst h;exact vw i64 i64 d.1.2.2.2 trivial
    .cases h
   .split at h
    .split at h
     .simp only[qS]at h;obtain⟨e,b,rfl⟩:=h;exact vw i64 i64 g (readTs_okV a _ e d.2 b)
     .cases h
    .split at h
     .split at h
      .simp only[qS]at h;obtain⟨e,b,rfl⟩:=h;exact vw i64 i64 g (readEs_okV a _ e d.2 b)
      .cases h
     .split at h
      .cases h
      .rename_i m ts f;simp only[qS]at h;obtain⟨e,b,rfl⟩:=h;unfold dL at f;have i:(0<=T.t/\T.t<=20)/\(m=0\/m=1):=by
        repeat' split at f
        all_goals first|(cases f;done)|(simp only[qq,ju]at f;omega)
       exact vw vm vm g (readTs_okV a _ e d.2 b)
def readTs_okV:∀(l:aE) (ts:aw) (xs:ao),okNs l->readTs l ts=some xs->okVs xs
 | [],[],xs,_=>by intro h;simp[readTs]at h;subst h;trivial
 | [],_::_,xs,_=>by intro h;simp[readTs]at h
 | _::_,[],xs,_=>by intro h;simp[readTs]at h
 | t::l,T::ts,xs,b=>by
  intro h;rw[readTs]at h
  cases a:readT t T with
  | none=>rw[a]at h;cases h
  | some x =>
   rw[a]at h;simp only[qS]at h;obtain⟨d,c,rfl⟩:=h;exact⟨readT_okV t T x b.1 a,readTs_okV l ts d b.2 c⟩
def readEs_okV:∀(l:aE) (ts:aw) (xs:ao),okNs l->readEs l ts=some xs->okVs xs
 | [],ts,xs,_=>by intro h;simp[readEs]at h;subst h;trivial
 | .nd k n p s a::l,ts,xs,c=>by
  intro h;rw[readEs]at h
  cases b:readTs a ts with
  | none=>rw[b]at h;cases h
  | some e =>
   rw[b]at h;simp only at h;split at h
   .simp only[qS]at h;obtain⟨f,d,rfl⟩:=h;exact⟨vw i64 i64 ot (readTs_okV a ts e c.1.2 b),readEs_okV l ts f c.2 d⟩
   .cases h
end
def rdA (T:Ty) (m:Int) (s:bp):Option Va->AV
 | some x=>.rz [pF x,bA true]
 | none=>.rz [.agg [.d (.v (.i T.t)),.d (.v (.i m)),.d (.v (.i 0)),.d (.v (.string s)),.d (.s 0 []),.d (.s 0 []),.d (.s 0 [])],bA false]
def F7 (N:Nat):Prop:=∀(t:Tr) (T:Ty) (d:Nat),t.size<=N->t.size<=900->okN t->okT T->bf d T->∃m s,Hd ⟨168,[tyA T,ndA t],rdA T m s (readT t T)⟩
def readTs_len:∀(l:aE) (ts:aw),l.length≠ts.length->readTs l ts=none
 | [],[],h=>by simp at h
 | [],_::_,_=>by simp[readTs]
 | _::_,[],_=>by simp[readTs]
 | t::l,T::ts,h=>by
  rw[readTs]
  cases readT t T with
  | none=>rfl
  | some x=>simp[readTs_len l ts (by simpa using h)]
def eachA:Option ao->AV
 | some xs=>.rz [qi xs,bA true]
 | none=>.rz [nilA,bA false]
def Pe.Holds.ac7{f:FuncId}{args:List A1}(h:Hd ⟨f,args,.rz [nilA,bA true]⟩):Hd ⟨f,args,.rz [qi [],bA true]⟩:=h.conv (λ_ _ _ h=>h) λok w v h=>by
 have⟨d,e,c⟩:=h
 match d,c with
 | [u,v],⟨a,b,_⟩=>exact⟨_,e,gG (show fI ok w (.s 0 []) u from a),b,trivial⟩
def ecS (k:Nat) (l:aE) (ts:aw) (xs:ao) (j:Nat):St:=[((0,1),.of (dZ ts)),((0,6),.of (.one (.g k 7 j))),((k+1,0),.kv 29 7 (vasD xs)),((0,19),.of (CW l)),((0,20),lW (ndsD l).length),((0,21),.of (jA j))]
abbrev ecP:St:=[((0,4),.of nilA),((0,5),.of (bA false))]
abbrev ecQ (k n:Nat) (xs:ao):St:=[((0,6),.of (.one (.g k 7 n))),((k+1,0),.kv 29 7 (vasD xs))]
section
variable {N d:Nat}{l:aE}{ts:aw}
def abr(c:F7 N)(f:okNs l)(g:okTs ts)(e:∀U∈ts,bf d U)(n:sizes l<=N)(k:sizes l<=900){j:Nat}(a:j<l.length)(b:j<ts.length):∃m s,Hd ⟨168,[tyA ts[j],ndA l[j]],rdA ts[j] m s (readT l[j] ts[j])⟩:=by have h:=gH l j a;have i:=jF l (j+1);exact c _ _ d od od (okNs_at.1 f _ (yy a)) (okTs_at.1 g _ (yy b)) (e _ (yy b))
def Pt(D:F7 N)(F:okNs l)(H:okTs ts)(E:∀U∈ts,bf d U)(J:sizes l<=N)(C:sizes l<=900){j k:Nat}{xs:ao}{x:Va}{ex:Nat}{post:St}(hk:k=3000018\/k=3000040)(R:xs.length=j)(r:j<l.length)(u:j<ts.length)(I:readT l[j] ts[j]=some x)
 (hn:vO prog f178.ntmps ⟨gF f178,ecS 3000040 l ts (xs++[x]) (j+1),ex,post⟩):vO prog f178.ntmps ⟨gF f178,ecS k l ts xs j,ex,post⟩:=by
 have⟨m,s,q⟩:=abr D F H E J C r u;rw[I]at q;have G:=cB l;have K:=is_lt (a:=Int.ofNat j) (b:=((ndsD l).length:Int)) OF;have L:=WV (qu r);have c:∃t a,ts[j] =.nd t a:=by cases ts[j];exact⟨_,_,rfl⟩
 have⟨t,a,c⟩:=c;have M:=EK (s:=ts) (m:=j) (t:=t) (a:=a) (by rw[qu u,c]);rw[c]at q;have O:mD (lW (IntKind.i64.wrap (Int.ofNat j+1))) (jA (j+1)):=yY (zF oe ov ov);have P:rowsLe ((vasD xs).take j++[vaD x]) (vasD (xs++[x])):=by rw[LQ,ux Up];exact rows_refl _
 have Q:=iL (y:=112) (l:=j) (es:=vasD xs) (rows:=[vaD x]) Up oe (DC [x]) ov ot;generalize l[j]=y at *;have⟨v,w,z,B,A⟩:=y;have⟨h,i,g,p,n,o,f⟩:=x;rcases hk with rfl|rfl<;>exact LG [(22,bA true),(24,.one (.e (ndD (.nd v w z B A)) 0)),(29,.one (.e (tyD (.nd t a)) 0)),(2000040,.one (.d (.s 7 (vasD (xs++[.mk h i g p n o f]))))),(41,jA (j+1))] [⟨_,q⟩] hn (al K (al L (al M (al P (al Q (al O al0))))))
def abq(u:F7 N)(w:okNs l)(x:okTs ts)(v:∀U∈ts,bf d U=true)(A:sizes l<=N)(r:sizes l<=900){j k:Nat}{xs:List Va}(hk:k=3000018\/k=3000040)(f:j<l.length)(g:j<ts.length)(z:readT l[j] ts[j]=none):vO prog f178.ntmps ⟨gF f178,ecS k l ts xs j,1,ecP⟩:=by
 obtain⟨m,s,c⟩:=abr u w x v A r f g;rw[z]at c;have B:=is_lt (a:=Int.ofNat j) (b:=((ndsD l).length:Int)) OF;have C:=WV (qu f);obtain⟨t,a,h⟩:∃t a,ts[j] =.nd t a:=by cases ts[j];exact⟨_,_,rfl⟩
 have D:=EK (s:=ts) (m:=j) (t:=t) (a:=a) (by rw[qu g,h]);rw[h]at c;generalize l[j]=y at *;obtain⟨i,n,o,q,p⟩:=y;rcases hk with rfl|rfl<;>exact xQ (e:=0) [(22,bA true),(24,.one (.e (ndD (.nd i n o q p)) 0)),(29,.one (.e (tyD (.nd t a)) 0))] [⟨_,c⟩] (ob:=[mD (aQ (decide (Int.ofNat j<((ndsD l).length:Int)))) (bA true),Yp l j (.nd i n o q p),OQ ts j t a]) (al B (al C (al D al0)))
def PH(g:F7 N)(m:okNs l)(n:okTs ts)(k:∀U∈ts,bf d U=true)(p:sizes l<=N)(f:sizes l<=900)(a:l.length=ts.length):∀(i j:Nat) (xs:List Va),j+i=l.length->xs.length=j -> 
 (readTs (l.drop j) (ts.drop j)=none->vO prog f178.ntmps ⟨gF f178,ecS 3000040 l ts xs j,1,ecP⟩)/\∀ys,readTs (l.drop j) (ts.drop j)=some ys->vO prog f178.ntmps ⟨gF f178,ecS 3000040 l ts xs j,2,ecQ 3000040 l.length (xs++ys)⟩
 | 0,j,xs,t,o=>by
  have r:l.drop j=[]:=List.drop_of_length_le od;have s:ts.drop j=[]:=List.drop_of_length_le od;rw[r,s];refine⟨λh=>by simp[readTs]at h,λys h=>?_⟩;simp only[readTs,qq]at h;subst h;rw[qc4];obtain rfl:j=l.length:=od
  exact xQ (e:=1) [(22,bA false)] [] (ob:=[mD (aQ (decide (Int.ofNat l.length<((ndsD l).length:Int)))) (bA false)]) (al (wH (by rw[Hf];simp)) al0)
 | i+1,j,xs,t,o=>by
  have b:j<l.length:=od
  have c:j<ts.length:=od
  rw[km b,km c,readTs]
  cases q:readT l[j] ts[j]with
  | none=>exact⟨λ_=>abq g m n k p f (.inr rfl) b c q,λys h=>by cases h⟩
  | some x =>
   obtain⟨u,v⟩:=PH g m n k p f a i (j+1) (xs++[x]) od (by simp[o]);refine⟨λh=>Pt g m n k p f (.inr rfl) o b c q (u (by simpa using h)),λys h=>?_⟩;simp only[qS]at h;obtain⟨w,h,rfl⟩:=h;have:=Pt g m n k p f (.inr rfl) o b c q (v w h);rwa [qa3,jb1]at this
def Hm(k:F7 N){n:Nat}(hn:n=2\/ts=[])(o:okNs l)(p:okTs ts)(m:∀U∈ts,bf d U=true)(t:sizes l<=N)(j:sizes l<=900):Hd ⟨178,[CW l,.one (.d (.s n (tysD ts)))],eachA (readTs l ts)⟩:=by
 have B:=cB l
 by_cases a:l.length=ts.length
 .have z:jJ (!decide (((ndsD l).length:Int)=((tysD ts).length:Int))) false:=eT (by rw[Hf,eY];simp[a]);rcases l with _|⟨y,l⟩
  .obtain rfl:ts=[]:=jz (by simpa using a.symm);have A:vO prog f178.ntmps ⟨gF f178,[((0,6),.of nilA),((0,20),lW 0),((0,21),.of (jA 0))],2,[((0,6),.of nilA)]⟩:=xQ (e:=1) [] [] (ob:=[]) al0;have : Hd ⟨178,[CW [],.one (.d (.s n (tysD [])))],.rz [nilA,bA true]⟩:=Ce func178 [] [⟨gF f178,[((0,6),.of nilA),((0,20),lW 0),((0,21),.of (jA 0))],2,[((0,6),.of nilA)]⟩] (by intro x b;rw[qv]at b;subst b;exact A) [⟨_,Hz gV⟩] (wI (S:=[((0,6),.of nilA),((0,20),lW 0),((0,21),.of (jA 0))]) (q:=gF f178=gF f178) rfl (ps:=[]) al0);exact this.ac7
  .obtain rfl:n=2:=hn.resolve_right (λh=>by rw[h]at a;simp at a);have v:=Hl gV (n:=(ndsD (y::l)).length) (by simp[ndsD]) (by rw[Hf];omega);have u:0<(y::l).length:=by simp
   have i:0<ts.length:=od
   have w:=PH k o p m t j a l.length 1;have g:(readTs (y::l) ts=none->vO prog f178.ntmps ⟨gF f178,ecS 3000018 (y::l) ts [] 0,1,ecP⟩)/\∀f,readTs (y::l) ts=some f->vO prog f178.ntmps ⟨gF f178,ecS 3000018 (y::l) ts [] 0,2,ecQ 3000040 (y::l).length f⟩:=by
    rcases ts with _|⟨T,ts⟩
    .simp at i
    rw[readTs]
    cases c:readT y T with
    | none=>exact⟨λ_=>abq k o p m t j (.inl rfl) u i c,λf h=>by cases h⟩
    | some x =>
     obtain⟨C,D⟩:=w [x] ov rfl;refine⟨λh=>Pt k o p m t j (.inl rfl) rfl u i c (C (by simpa using h)),λf h=>?_⟩;simp only[qS]at h;obtain⟨zs,h,rfl⟩:=h;exact Pt k o p m t j (.inl rfl) rfl u i c (D zs (by simpa using h))
   clear w
   cases c:readTs (y::l) ts with
   | none=>exact Ce func178 [(15,fA)] [_] (by intro x b;rw[qv]at b;subst b;exact g.1 c) [⟨_,v⟩] (wI (S:=ecS 3000018 (y::l) ts [] 0) (q:=gF f178=gF f178) rfl (ps:=[jJ (!decide (((ndsD (y::l)).length:Int)=((tysD ts).length:Int))) false]) (al z al0))
   | some f =>
    have E:=readTs_length _ _ _ c;exact Ce func178 [(15,fA)] [_] (by intro x b;rw[qv]at b;subst b;exact g.2 f c) [⟨_,v⟩] (jX (wI (S:=ecS 3000018 (y::l) ts [] 0) (q:=gF f178=gF f178) rfl (ps:=[jJ (!decide (((ndsD (y::l)).length:Int)=((tysD ts).length:Int))) false]) (al z al0)) (r:=[(y::l).length=(vasD f).length]) (al Up al0))
 .rw[readTs_len l ts a];exact runT func178 [(15,bA true)] [] (ob:=[jJ (!decide (((ndsD l).length:Int)=((tysD ts).length:Int))) true]) (al (eT (by rw[Hf,eY];simp;omega)) al0)
end
def readEs_length:∀(l:aE) (ts:aw) (ys:ao),readEs l ts=some ys->l.length=ys.length
 | [],ts,ys,h=>by simp only[readEs,qq]at h;subst h;rfl
 | .nd k n p s r::l,ts,ys,h=>by
  rw[readEs]at h;split at h
  .cases h
  .split at h
   .simp only[qS]at h;obtain⟨a,h,rfl⟩:=h;simp[readEs_length l ts a h]
   .cases h
def esS (t:Int) (b:Bool) (l:aE) (ts:aw) (xs:ao) (j:Nat):St:=[((0,2),.of (.one (.p 2 0))),((3,0),.of (iA t)),((3,1),.of (dZ ts)),((0,11),.of (CW l)),((0,12),lW (ndsD l).length),((0,13),.of (jA j))]++match b with
 | false=>[((0,6),.of nilA)]
 | true=>[((0,6),.of (.one (.g 3000036 7 j))),((3000037,0),.kv 29 7 (vasD xs))]
section
variable {N d:Nat}{t:Int}{l:aE}{ts:aw}
def abu(p:F7 N)(w:okNs l)(A:okTs ts)(q:∀U∈ts,bf d U)(J:sizes l<=N)(I:sizes l<=900){b:Bool}{j:Nat}{xs ys:ao}{ex:Nat}{post:St}(hb:b\/xs=[])(u:xs.length=j){k n:Int}{s:bp}{r:aE}(h:l[j]?=some (.nd k n 28 s r))(B:readTs r ts=some ys)
 (hn:vO prog f179.ntmps ⟨gF f179,esS t true l ts (xs++[fM 11 0 ⟨#[]⟩ ys]) (j+1),ex,post⟩):vO prog f179.ntmps ⟨gF f179,esS t b l ts xs j,ex,post⟩:=by
 have⟨f,c⟩:=qT.1 h;have z:=okNs_at.1 w _ (c ▸ yy f);have o:=gH l j f;have H:=jF l (j+1);rw[c,Tr.size]at o;have g:=Hm p (l:=r) (ts:=ts) (n:=2) (d:=d) (.inl rfl) z.2 A q od od;rw[B]at g;have x:=cB l;have C:=is_lt (a:=Int.ofNat j) (b:=((ndsD l).length:Int)) OF;have D:=WV h;have E:mD (lW (IntKind.i64.wrap (Int.ofNat j+1))) (jA (j+1)):=yY (zF oe ov ov);have F:rowsLe ((vasD xs).take j++[[.v (.i 11),.v (.i 0),.v (.i 0),.v (.string ⟨#[]⟩),.s 7 (vasD ys),.s 0 [],.s 0 []]]) (vasD (xs++[fM 11 0 ⟨#[]⟩ ys])):=by rw[LQ,ux Up];refine vG (b:=vaD (fM 11 0 ⟨#[]⟩ ys)) ?_ _;exact⟨.inl rfl,.inl rfl,.inl rfl,.inl rfl,.inl rfl,.inr ⟨rfl,2,ot,rfl⟩,.inr ⟨rfl,5,ot,rfl⟩,trivial⟩
 have G:=iL (y:=112) (l:=j) (es:=vasD xs) (rows:=[[.v (.i 11),.v (.i 0),.v (.i 0),.v (.string ⟨#[]⟩),.s 7 (vasD ys),.s 0 [],.s 0 []]]) Up oe rfl ov ot;have m:=al C (al D (al F (al G (al E al0))));rcases b with _|_
 .obtain rfl:=hb.resolve_left oe;obtain rfl:j=0:=u.symm;exact LG [(14,bA true),(15,.one (.e (ndD (.nd k n 28 s r)) 0)),(2000036,qi ([]++[fM 11 0 ⟨#[]⟩ ys])),(37,jA 1)] [⟨_,g⟩] hn m
 .exact LG [(14,bA true),(15,.one (.e (ndD (.nd k n 28 s r)) 0)),(2000036,qi (xs++[fM 11 0 ⟨#[]⟩ ys])),(37,jA (j+1))] [⟨_,g⟩] hn m
def abv(v:F7 N)(x:okNs l)(z:okTs ts)(w:∀U∈ts,bf d U)(D:sizes l<=N)(C:sizes l<=900){b:Bool}{j:Nat}{xs:ao}(hb:b\/j=0){k n p:Int}{s:bp}{r:aE}(o:l[j]?=some (.nd k n p s r))(A:readTs r ts=none\/p≠28):vO prog f179.ntmps ⟨gF f179,esS t b l ts xs j,1,ecP⟩:=by
 have⟨g,f⟩:=qT.1 o;have y:=okNs_at.1 x _ (f ▸ yy g);have u:=gH l j g;have B:=jF l (j+1);rw[f,Tr.size]at u;have c:=Hm v (l:=r) (ts:=ts) (n:=2) (d:=d) (.inl rfl) y.2 z w od od;have i:=is_lt (a:=Int.ofNat j) (b:=((ndsD l).length:Int)) OF;have m:=WV o
 cases h:readTs r ts with
 | none =>
  rw[h]at c;rcases b with _|_
  .obtain rfl:=hb.resolve_left oe;exact xQ (e:=0) [(14,bA true),(15,.one (.e (ndD (.nd k n p s r)) 0))] [⟨_,c⟩] (al i (al m al0))
  .exact xQ (e:=0) [(14,bA true),(15,.one (.e (ndD (.nd k n p s r)) 0))] [⟨_,c⟩] (al i (al m al0))
 | some E =>
  rw[h]at c;have q:=al i (al m (al (show jJ (!decide (p=28)) true from eT (by simpa using A.resolve_left (by simp[h]))) al0));rcases b with _|_
  .obtain rfl:=hb.resolve_left oe;exact xQ (e:=0) [(14,bA true),(15,.one (.e (ndD (.nd k n p s r)) 0)),(30,bA true)] [⟨_,c⟩] q
  .exact xQ (e:=0) [(14,bA true),(15,.one (.e (ndD (.nd k n p s r)) 0)),(30,bA true)] [⟨_,c⟩] q
def PK(f:F7 N)(o:okNs l)(q:okTs ts)(m:∀U∈ts,bf d U=true)(u:sizes l<=N)(c:sizes l<=900):∀(i j:Nat) (b:Bool) (xs:List Va),j+i=l.length->xs.length=j->(b=true\/j=0/\i≠0) ->
 (readEs (l.drop j) ts=none->vO prog f179.ntmps ⟨gF f179,esS t b l ts xs j,1,ecP⟩)/\∀ys,readEs (l.drop j) ts=some ys->vO prog f179.ntmps ⟨gF f179,esS t b l ts xs j,2,ecQ 3000036 l.length (xs++ys)⟩
 | 0,j,b,xs,B,w,x=>by
  rw[List.drop_of_length_le od];refine⟨λh=>by simp[readEs]at h,λys h=>?_⟩;simp only[readEs,qq]at h;subst h;rw[qc4];obtain rfl:j=l.length:=od
  obtain rfl:b=true:=x.resolve_right oe;exact xQ (e:=1) [(14,bA false)] [] (ob:=[mD (aQ (decide (Int.ofNat l.length<((ndsD l).length:Int)))) (bA false)]) (al (wH (by rw[Hf];simp)) al0)
 | i+1,j,b,xs,B,w,x=>by
  have A:j<l.length:=od
  rw[km A];cases e:l[j]with|nd k n p s r =>
  have v:l[j]?=some (.nd k n p s r):=by rw[qu A,e]
  have a:b=true\/j=0:=x.imp id And.left;have g:b=true\/xs=[]:=a.imp id λh=>jz od;rw[readEs]
  cases z:readTs r ts with
  | none=>exact⟨λ_=>abv f o q m u c a v (.inl z),λys h=>by cases h⟩
  | some F =>
   by_cases y:p=28
   .subst y;obtain⟨C,D⟩:=PK f o q m u c i (j+1) true (xs++[fM 11 0 ⟨#[]⟩ F]) od (by simp[w]) (.inl rfl);refine⟨λh=>abu f o q m u c g w v z (C (by simpa using h)),λys h=>?_⟩;simp only[if_true,qS]at h;obtain⟨E,h,rfl⟩:=h;have:=abu f o q m u c g w v z (D E h);rwa [qa3,jb1]at this
   .exact⟨λ_=>abv f o q m u c a v (.inr y),λys h=>by simp[y]at h⟩
def aaa(i:F7 N){T:Ty}(m:okNs l)(j:okT T)(k:∀U∈T.args,bf d U)(n:sizes l<=N)(g:sizes l<=900):Hd ⟨179,[tyA T,CW l],eachA (readEs l T.args)⟩:=by
 have⟨t,ts⟩:=T;rcases l with _|⟨y,l⟩
 .have h:vO prog f179.ntmps ⟨gF f179,[((0,6),.of nilA),((0,12),lW 0),((0,13),.of (jA 0))],2,[((0,6),.of nilA)]⟩:=xQ (e:=1) [] [] al0;have : Hd ⟨179,[tyA (.nd t ts),CW []],.rz [nilA,bA true]⟩:=Ce func179 [] [_] (by intro x a;rw[qv]at a;subst a;exact h) [] (wI (S:=[((0,6),.of nilA),((0,12),lW 0),((0,13),.of (jA 0))]) (q:=gF f179=gF f179) rfl (ps:=[]) al0);exact this.ac7
 .have⟨o,p⟩:=PK (t:=t) i m j.2 k n g (y::l).length 0 false [] oe rfl (.inr ⟨rfl,oe⟩);have f:=wI (S:=esS t false (y::l) ts [] 0) (q:=gF f179=gF f179) rfl (ps:=[]) al0
  cases b:readEs (y::l) ts with
  | none =>
   have : Hd ⟨179,[tyA (.nd t ts),CW (y::l)],eachA none⟩:=Ce func179 [] [_] (by intro x a;rw[qv]at a;subst a;exact o b) [] f;rw[show (Ty.nd t ts).args=ts from rfl,b];exact this
  | some c =>
   have s:(y::l).length=c.length:=readEs_length _ _ _ b;have : Hd ⟨179,[tyA (.nd t ts),CW (y::l)],eachA (some c)⟩:=Ce func179 [] [_] (by intro x a;rw[qv]at a;subst a;exact p c b) [] (jX f (r:=[(y::l).length=(vasD c).length]) (al Up al0));rw[show (Ty.nd t ts).args=ts from rfl,b];exact this
end
def bI.yX{ok:br}{w:cg}{t:Tr}{u:cm}(h:bI ok w t u):∃a c V,u=Go.Proofs.YtnamdihclpbdfaaGreat.af t.k0 t.n0 t.p0 t.s0 a t.args0.length c/\(bD t.k0/\bD t.n0/\bD t.p0/\t.s0.size<=maxLen)/\cK ok w t.args0 a V:=by
 cases h with
 | mk V d f i g j b e=>exact⟨_,_,V,rfl,⟨i,g,j,f⟩,d,b,e⟩
end
open Pe
def Pe.Holds.ZJ{f:FuncId}{args:List A1}{k n:Int}{s:bp}{i:Nat}{al:ao}(h:Hd ⟨f,args,.rz [.agg [.d (.v (.i k)),.d (.v (.i n)),.d (.v (.i 0)),.d (.v (.string s)),.d (.s i (vasD al)),.d (.s 0 []),.d (.s 0 [])],bA true]⟩)(c:i=7\/al=[]):Hd ⟨f,args,.rz [pF (fM k n s al),bA true]⟩:=h.conv (λ_ _ _ h=>h) λok w v h=>by
 have⟨z,e,j⟩:=h
 match z,j with
 | [x,y],⟨⟨u,b,q⟩,g,_⟩ =>
  subst b
  match u,q with
  | [A,B,C,D,E,F,G],⟨l,m,o,p,a,r,t,_⟩ =>
   refine⟨_,e,⟨_,rfl,l,m,o,p,?_,gG r,gG t,trivial⟩,g,trivial⟩;rcases c with rfl|rfl
   .exact a
   .exact gG a
def Od{N:Nat}(F:F7 N):F7 (N+1):=by
 intro S T d V R I D K;have⟨k,n,p,s,l⟩:=S;have⟨r,g⟩:=jU K;have Q:Tr.size (.nd k n p s l)=sizes l+1:=by rw[Tr.size]
 have O:=cB l;have y:=O3 K p;have⟨t,c⟩:=T;simp only[Ty.t,Ty.args]at r g;have j:∀{a b:Int},a≠b->jJ (decide (a=b)) false:=λh=>eT (zE h);have M:t=3\/t=4\/t=5\/t=7->Hd ⟨168,[tyA (.nd t c),ndA (.nd k n p s l)],.rz [.agg [.d (.v (.i t)),.d (.v (.i n)),.d (.v (.i 0)),.d (.v (.string ⟨#[]⟩)),.d (.s 0 []),.d (.s 0 []),.d (.s 0 [])],bA (decide (k=0))]⟩:=by rintro (rfl|rfl|rfl|rfl)<;>exact aF func168 []
 by_cases o:t=3\/t=4\/t=5\/t=7
 .have H:=M o;rw[readT,if_pos (by simpa[Ty.t]using o)]
  by_cases hk:k=0
  .rw[xb hk]at H;rw[if_pos hk];exact⟨0,s,H.ZJ (al:=[]) (.inr rfl)⟩
  .rw[zE hk]at H;rw[if_neg hk];exact⟨n,_,H⟩
 by_cases E:t=6
 .subst E;have H:Hd ⟨168,[tyA (.nd 6 c),ndA (.nd k n p s l)],.rz [.agg [.d (.v (.i 6)),.d (.v (.i 0)),.d (.v (.i 0)),.d (.v (.string s)),.d (.s 0 []),.d (.s 0 []),.d (.s 0 [])],bA (decide (k=1))]⟩:=aF func168 [];rw[readT,if_neg vy,if_pos (show (Ty.nd 6 c).t=6 from rfl)]
  by_cases hk:k=1
  .rw[xb hk]at H;rw[if_pos hk];exact⟨0,s,H.ZJ (al:=[]) (.inr rfl)⟩
  .rw[zE hk]at H;rw[if_neg hk];exact⟨0,_,H⟩
 by_cases w:t=10
 .subst w;rw[readT,if_neg vy,if_neg vy,if_pos (show (Ty.nd 10 c).t=10 from rfl)]
  by_cases hk:k=3
  .subst hk;rw[if_pos rfl];obtain⟨A,rfl⟩:=ja6.1 (show c.length=1 by simp[bT]at r;omega);have e:(ndsD l).length=l.length:=by simp[ndsD_map]
   have J:=Jr (T:=A) (n:=(ndsD l).length) D.2.1 od;have f:=Hm F (l:=l) (ts:=List.replicate (ndsD l).length A) (n:=2) (d:=d+1) (.inl rfl) I.2 (okTs_at.2 λU z=>by rw[qf6 z];exact D.2.1) (λU z=>by rw[qf6 z];exact g A oe) od od;rw[show List.replicate l.length (aJ (Ty.nd 10 [A]).args 0)=List.replicate (ndsD l).length A by rw[e];rfl]
   cases u:readTs l (List.replicate (ndsD l).length A)with
   | none =>
    rw[u]at f;exact⟨0,⟨#[]⟩,aF func168 [⟨_,J⟩,⟨_,f⟩]⟩
   | some C =>
    rw[u]at f;exact⟨0,⟨#[]⟩,Holds.ZJ (i:=7) (al:=C) (aF func168 [⟨_,J⟩,⟨_,f⟩]) (.inl rfl)⟩
  .rw[if_neg hk];exact⟨0,⟨#[]⟩,runT func168 [(55,bA false)] [] (al (j hk) al0)⟩
 by_cases x:t=13
 .subst x;rw[readT,if_neg vy,if_neg vy,if_neg vy,if_pos (show (Ty.nd 13 c).t=13 from rfl)]
  by_cases hk:k=3
  .subst hk;rw[if_pos rfl];have f:=aaa F (l:=l) I.2 D g od od
   cases u:readEs l (Ty.nd 13 c).args with
   | none =>
    rw[u]at f;exact⟨0,⟨#[]⟩,aF func168 [⟨_,f⟩]⟩
   | some C =>
    rw[u]at f;exact⟨0,⟨#[]⟩,Holds.ZJ (i:=7) (al:=C) (aF func168 [⟨_,f⟩]) (.inl rfl)⟩
  .rw[if_neg hk];exact⟨0,⟨#[]⟩,runT func168 [(73,bA false)] [] (al (j hk) al0)⟩
 rw[readT,if_neg (by exact o),if_neg (by exact E),if_neg (by exact w),if_neg (by exact x)];simp only[not_or]at o;have B:=al (j o.1) (al (j o.2.1) (al (j o.2.2.1) (al (j o.2.2.2) (al (j E) (al (j w) (al (j x) al0))))))
 cases G:dL (.nd t c) p with
 | none =>
  rw[G]at y;exact⟨0,⟨#[]⟩,runT func168 [(33,fA),(34,fA),(35,fA),(36,fA),(44,fA),(52,fA),(70,fA)] [⟨_,y⟩] B⟩
 | some q =>
  have⟨m,ts⟩:=q;rw[G]at y;have L:=M7 G;have f:=λ{n:Nat} P=>Hm F (l:=l) (ts:=ts) (n:=n) (d:=d+1) P I.2 (okTs_at.2 λU z=>okTs_at.1 D.2 U (L U z)) (λU z=>g U (L U z)) od od;dsimp only
  cases u:readTs l ts with
  | none =>
   rw[u]at f;refine⟨m,⟨#[]⟩,?_⟩
   cases ts with
   | nil=>exact runT func168 [(33,fA),(34,fA),(35,fA),(36,fA),(44,fA),(52,fA),(70,fA)] [⟨_,y⟩,⟨_,f (n:=0) (.inr rfl)⟩] B
   | cons A ts=>exact runT func168 [(33,fA),(34,fA),(35,fA),(36,fA),(44,fA),(52,fA),(70,fA)] [⟨_,y⟩,⟨_,f (n:=2) (.inl rfl)⟩] B
  | some C =>
   rw[u]at f;refine⟨0,⟨#[]⟩,Holds.ZJ (i:=7) (al:=C) ?_ (.inl rfl)⟩
   cases ts with
   | nil=>exact runT func168 [(33,fA),(34,fA),(35,fA),(36,fA),(44,fA),(52,fA),(70,fA)] [⟨_,y⟩,⟨_,f (n:=0) (.inr rfl)⟩] B
   | cons A ts=>exact runT func168 [(33,fA),(34,fA),(35,fA),(36,fA),(44,fA),(52,fA),(70,fA)] [⟨_,y⟩,⟨_,f (n:=2) (.inl rfl)⟩] B
def read_all:∀N,F7 N
 | 0=>λt _ _ h=>by have:=size_pos t;omega
 | N+1=>Od (read_all N)
def Jp(t:Int):Hd ⟨82,[iA t],aQ (jH t)⟩:=by
 by_cases a:1<=t
 .rw[show jH t=decide (t<=15) by simp[jH,a]];exact runT func82 [(4,bA true)] [] (al (is_le a) al0)
 .rw[show jH t=false by simp[jH,a]];exact runT func82 [(4,bA false)] [] (al (QA a) al0)
def Z9(t:Int):Hd ⟨83,[iA t],.of (iA (bT t))⟩:=by
 by_cases a:t=9\/t=10\/t=15
 .rw[show bT t=1 from if_pos a];rcases a with rfl|rfl|rfl<;>exact aF func83 []
 .by_cases b:t=11\/t=12\/t=13\/t=14
  .rw[show bT t=2 by unfold bT;rw[if_neg a,if_pos b]];rcases b with rfl|rfl|rfl|rfl<;>exact aF func83 []
  .rw[show bT t=0 by unfold bT;rw[if_neg a,if_neg b]];exact runT func83 [(5,bA false),(6,bA false),(7,bA false),(9,bA false),(10,bA false),(11,bA false),(12,bA false)] [] (al (show nq t 9 from oL od) (al (show nq t 10 from oL od) (al (show nq t 15 from oL od) (al (show nq t 11 from oL od) (al (show nq t 12 from oL od) (al (show nq t 13 from oL od) (al (show nq t 14 from oL od) al0)))))))
def xI (d:Nat) (T:Ty) (c:Int):Bool:=bf d T&&decide (c+T.size<=300)
def wG (d:Nat) (l:aw) (c:Int):Bool:=ig d l&&decide (c+tysizes l<=300)
def fmH (d:Nat) (c:Int):Hp:=⟨[(800100,[.d (.v (.i c))]),(800101,[.d (.v (.i (.ofNat d)))]),(800102,[.p 800100 0])],[]⟩
def Fm1 (d:Nat) (T:Ty):Prop:=∀c:Int,0<=c->c<=300->∃c':Int,(xI (d+1) T c->c'=c+T.size)/\HX 85 [tyA T,.one (.p 800101 0),.one (.p 800102 0)] (aQ (xI (d+1) T c)) (fmH d c) (fmH d c')
abbrev evL (β:Nat->Option Nat) (S:St) (ex:Nat) (q:St):Prop:=@vO (qh β) prog f84.ntmps ⟨gF f84,S,ex,q⟩
def fmS (d:Nat) (c:Int):St:=[((800101,0),.of (iA c)),((800102,0),.of (jA d)),((800103,0),.of (.one (.p 800100 0)))]
def evS (ts:aw) (j d:Nat) (c:Int):St:=[((0,1),.of (.one (.c 85 [800101,800102]))),((0,7),.of (dZ ts)),((0,8),lW (tysD ts).length),((0,9),.of (jA j))]++fmS d c
def JX{ts:aw}(w:ts.length<=100){d:Nat}(H:∀T∈ts,Fm1 d T):∀(l:aw) (j:Nat),ts.drop j=l->∀c:Int,0<=c->c<=300->∃g:Int,(wG (d+1) l c->g=c+tysizes l) /\
 (wG (d+1) l c->∀β,evL β (evS ts j d c) 2 (fmS d g))/\(wG (d+1) l c=false->∀β,evL β (evS ts j d c) 1 (((0,4),aQ false)::fmS d g))
 | [],j,f,c,h0,m=>by
  have k:ts.length<=j:=by have:=congrArg List.length f;simp at this;omega
  refine⟨c,λ_=>by simp[tysizes],λ_ β=>?_,λh=>by simp[wG,ig,tysizes,m]at h⟩;exact fF (e:=1) [(10,bA false)] [] (al (show mD (aQ (decide (Int.ofNat j<((tysD ts).length:Int)))) (bA false) from wH Ok) al0)
 | .nd t a::l,j,f,c,h0,m=>by
  have k:j<ts.length:=qb4 λh=>by rw[qb6 od]at f;cases f
  have p:ts[j]?=some (.nd t a):=by rw[km k]at f;rw[qu k];exact congrArg some (qe3 f).1
  have x:ts.drop (j+1)=l:=by rw[km k]at f;exact (qe3 f).2
  have⟨v,i,hF⟩:=H _ (ka p) c h0 m;have s:mD (aQ (decide (Int.ofNat j<((tysD ts).length:Int)))) (bA true):=is_lt Ok;have u:=EK p;have y:mD (lW (IntKind.i64.wrap (Int.ofNat j+1))) (jA (j+1)):=yY (zF oe ov ov);have z:=Cz (.nd t a)
  cases b:xI (d+1) (.nd t a) c with
  | false =>
   rw[b]at hF;have r:¬wG (d+1) (.nd t a::l) c:=λh=>by
    simp only[wG,xI,ig,tysizes,jd0,qt,jt,ka3,qe1]at h b;rcases b with b|b
    .rw[h.1.1]at b;cases b
    .first|(have:=h.2;omega)|(have:=qf7 h.2;omega)
   exact⟨v,λh=>absurd h r,λh=>absurd h r,λ_ β=>fF (e:=0) [(10,bA true),(11,.one (.e (tyD (.nd t a)) 0))] [⟨_,hF⟩] (al s (al u al0))⟩
  | true =>
   rw[b]at hF i;obtain rfl:=i rfl;simp only[xI,qt,jt]at b;have⟨g,n,o⟩:=JX w H l (j+1) x (c+((Ty.nd t a).size:Int)) od b.2;have e:wG (d+1) (.nd t a::l) c=wG (d+1) l (c+((Ty.nd t a).size:Int)):=by
    simp only[wG,ig,b.1,qa7,tysizes]
    congr 2
    simp only[jd0,eq_iff_iff];omega
   rw[e];have F:=λ(β:Nat->Option Nat) {ex:Nat} {q:St} (h:evL β (evS ts (j+1) d (c+((Ty.nd t a).size:Int))) ex q)=>(jC [(10,bA true),(11,.one (.e (tyD (.nd t a)) 0)),(17,jA (j+1))] [⟨_,hF⟩] h (al s (al u (al y al0))):evL β (evS ts j d c) ex q);exact⟨g,λh=>by rw[n h];simp only[tysizes];omega,λh β=>F β (o.1 h β),λh β=>F β (o.2 h β)⟩
def ad9{ts:aw}(i:ts.length<=100){d:Nat}(H:∀T∈ts,Fm1 d T){c:Int}(h0:0<=c)(h:c<=300):∃b:Int,(wG (d+1) ts c->b=c+tysizes ts) /\
 HX 84 [dZ ts,.one (.c 85 [800101,800102])] (aQ (wG (d+1) ts c)) (fmH d c) (fmH d b):=by
 have⟨b,j,f⟩:=JX i H ts 0 rfl c h0 h;have e:=wI (S:=evS ts 0 d c) (q:=gF f84=gF f84) rfl (ps:=[]) al0;refine⟨b,j,?_⟩;have e:=wI (S:=evS ts 0 d c) (q:=gF f84=gF f84) rfl (ps:=[]) al0
 cases g:wG (d+1) ts c with
 | true=>exact bH func84 [] [_] [] (λβ x a=>by rw[qv]at a;subst a;exact f.1 g β) e
 | false=>exact bH func84 [] [_] [] (λβ x a=>by rw[qv]at a;subst a;exact f.2 g β) e
def Rn{d:Nat}{T:Ty}(h:∀c:Int,0<=c->c<=300->∃b:Int,(xI (d+1) T c->b=c+T.size)/\HX 57 [tyA T,jA (d+1),.one (.p 800100 0)] (aQ (xI (d+1) T c)) ⟨[(800100,[.d (.v (.i c))])],[]⟩ ⟨[(800100,[.d (.v (.i b))])],[]⟩)(k:d<=24):Fm1 d T:=λc e f=>by have⟨b,g,hF⟩:=h c e f;have j:mD (lW (IntKind.i64.wrap (Int.ofNat d+1))) (jA (d+1)):=yY (zF oe ov ov);have⟨t,a⟩:=T;exact⟨b,g,bH func85 [(7,jA (d+1))] [] [⟨_,hF⟩] oe (al j al0)⟩
mutual
def H_formed:∀(T:Ty) (d:Nat),okT T->d<=25->∀c:Int,0<=c->c<=300->∃j:Int,(xI d T c->j=c+T.size)/\HX 57 [tyA T,jA d,.one (.p 800100 0)] (aQ (xI d T c)) ⟨[(800100,[.d (.v (.i c))])],[]⟩ ⟨[(800100,[.d (.v (.i j))])],[]⟩
 | .nd t a,d,u,B,c,y,A=>by
  have g:mD (lW (IntKind.i64.wrap (c+1))) (iA (c+1)):=yY (zF rfl od od);have l:(Ty.nd t a).size=1+tysizes a:=by simp only[Ty.size];omega
  by_cases z:24<d
  .refine⟨c+1,λh=>?_,?_⟩
   .simp only[xI,bf,qt,jt]at h;omega
   .rw[show xI d (.nd t a) c=false by simp[xI,bf,show ¬d<=24 by omega]];exact bH func57 [(10,iA (c+1)),(13,bA true)] [] [] oe (al g (al (is_lt (show (24:Int)<Int.ofNat d by simp;omega)) al0))
  have k:mD (aQ (decide ((24:Int)<Int.ofNat d))) (bA false):=wH ov
  by_cases o:300<c+1
  .refine⟨c+1,λh=>?_,?_⟩
   .simp only[xI,bf,qt,jt]at h;omega
   .rw[show xI d (.nd t a) c=false by simp only[xI,l,ka3,qe1];right;omega];exact bH func57 [(10,iA (c+1)),(13,bA false),(18,bA true)] [] [] oe (al g (al k (al (is_lt o) al0)))
  have m:mD (aQ (decide ((300:Int)<c+1))) (bA false):=wH o;have b:=Jp t;have q:=Z9 t
  cases e:jH t with
  | false =>
   rw[e]at b;refine⟨c+1,λh=>?_,?_⟩
   .simp[xI,bf,e]at h
   .rw[show xI d (.nd t a) c=false by simp[xI,bf,e]];exact bH func57 [(10,iA (c+1)),(13,bA false),(18,bA false)] [] [⟨_,b⟩] oe (al g (al k (al m al0)))
  | true =>
   rw[e]at b
   by_cases f:(a.length:Int)=bT t
   .have n:jJ (!decide (((tysD a).length:Int)=bT t)) false:=eT (by simp[eY,f]);have r:a.length<=100:=by
     have : bT t<=2:=by unfold bT;split<;>(try split)<;>omega
     omega
    have⟨j,s,hF⟩:=ad9 r (d:=d) (c:=c+1) (λT b=>Rn (λc w x=>H_formeds a (d+1) u.2 od T b c w x) od) od od;refine⟨j,λh=>?_,?_⟩
    .rw[s]
     .omega
     .simp only[xI,bf,wG,l,qt]at h|-;exact⟨h.1.2,xb (by first|(have:=h.2;omega)|(have:=qf7 h.2;omega))⟩
    .rw[show xI d (.nd t a) c=wG (d+1) a (c+1) by
      simp only[xI,bf,wG,l,e,f,show d<=24 by omega,decide_true,qa7,Bool.and_self]
      congr 2;simp only[jd0,eq_iff_iff];omega]
     exact bH func57 [(10,iA (c+1)),(13,bA false),(18,bA false),(31,bA false)] [] [⟨_,b⟩,⟨_,q⟩,⟨_,(HX.to hF 800101 4).to 800102 5⟩] oe (al g (al k (al m (al n al0))))
   .have n:jJ (!decide (((tysD a).length:Int)=bT t)) true:=eT (by simp[eY,f]);refine⟨c+1,λh=>?_,?_⟩
    .simp[xI,bf,f]at h
    .rw[show xI d (.nd t a) c=false by simp[xI,bf,f]];exact bH func57 [(10,iA (c+1)),(13,bA false),(18,bA false),(31,bA true)] [] [⟨_,b⟩,⟨_,q⟩] oe (al g (al k (al m (al n al0))))
def H_formeds:∀(l:aw) (d:Nat),okTs l->d<=25->∀T∈l,∀c:Int,0<=c->c<=300->∃b:Int,(xI d T c->b=c+T.size)/\HX 57 [tyA T,jA d,.one (.p 800100 0)] (aQ (xI d T c)) ⟨[(800100,[.d (.v (.i c))])],[]⟩ ⟨[(800100,[.d (.v (.i b))])],[]⟩
 | [],_,_,_,_,h=>by cases h
 | T::l,d,g,f,a,h=>by
  by_cases e:a=T
  .rw[e];exact H_formed T d g.1 f
  .exact H_formeds l d g.2 f a (by rcases kl.1 h with h|h;exact absurd h e;exact h)
end
def Ey (f:FuncId):X:=.d (.v (.func (.func f) #[] #[]))
def U3(T:Ty):Hd ⟨109,[tyA T],.of (dZ T.args)⟩:=by have⟨t,a⟩:=T;exact aF func109 []
def abZ(T:Ty):Hd ⟨134,[tyA T],.of (if T.t=14 then nilA else dZ T.args)⟩:=by
 have⟨t,a⟩:=T
 by_cases h:t=14
 .subst h;exact aF func134 []
 .rw[if_neg (show ¬(Ty.nd t a).t=14 from h)];exact runT func134 [(5,bA false)] [] (al (show nq t 14 from oL h) al0)
def Z0(t:Int):Hd ⟨110,[iA t],aQ (Qd t)⟩:=by
 by_cases h:t=8\/t=10\/t=13\/t=14\/t=15
 .rw[show Qd t=false by simp only[Qd,qe1];omega];rcases h with rfl|rfl|rfl|rfl|rfl<;>exact aF func110 []
 .rw[show Qd t=jH t by simp only[Qd,jH,qg7];omega];exact runT func110 [(5,bA false),(6,bA false),(7,bA false),(8,bA false),(9,bA false)] [⟨_,Jp t⟩] (al (show nq t 8 from oL od) (al (show nq t 10 from oL od) (al (show nq t 13 from oL od) (al (show nq t 14 from oL od) (al (show nq t 15 from oL od) al0)))))
def oZ{t k:Int}{b:Bool}(h:decide (t≠k)=b):jJ (!decide (t=k)) b:=eT (by rw[<-h];simp)
def Z5(t:Int):Hd ⟨161,[iA t],aQ (Qe t)⟩:=by
 by_cases h:t=15
 .subst h;exact aF func161 []
 .rw[show Qe t = !decide (t=8) by simp[Qe,h]];exact runT func161 [(4,bA true)] [] (al (oZ (xb h)) al0)
def Z8(t:Int):Hd ⟨167,[iA t],aQ (LU t)⟩:=by
 by_cases h:t=8
 .subst h;exact aF func167 []
 .by_cases a:t=14
  .subst a;exact aF func167 []
  .rw[show LU t = !decide (t=15) by simp[LU,h,a]];exact runT func167 [(4,bA true),(7,bA true)] [] (al (oZ (xb h)) (al (oZ (xb a)) al0))
def Vv(t:Int):Hd ⟨135,[iA t],aQ (Kz t)⟩:=by rw[show Kz t = !decide (t=8) by simp[Kz]];exact aF func135 []
def wl (inn:Int->Bool) (T:Ty):aw:=if inn T.t then T.args else []
def EY (inn:Int->Bool) (T:Ty):List aw:=if wl inn T=[]then []else [wl inn T]
def Lj (l:List aw):List bd:=l.map λts=>[.s 2 (tysD ts)]
def Ra(l:List aw):(Lj l).length=l.length:=by simp[Lj]
def Lv(l:List aw)(n:Nat):(Lj l).take n=Lj (l.take n):=by simp[Lj]
def lkB (kw kt kf:Nat) (w f:FuncId) (K n:Nat):List (Nat×List X):=[(kw,[Ey w]),(kt,[.g K 1 n]),(kf,[Ey f])]
def lkH (w f:FuncId) (K n:Nat) (td:List aw):Hp:=⟨lkB 800101 800102 800103 w f K n,[(K,.kv 23 1 (Lj td))]⟩
structure adD (w f:FuncId) (inn fb:Int->Bool):Prop where
 c:(w=109/\(f=110\/f=167))\/(w=134/\(f=161\/f=135))
 w:∀T,Hd ⟨w,[tyA T],.of (if inn T.t then dZ T.args else nilA)⟩
 f:∀t,Hd ⟨f,[iA t],aQ (fb t)⟩
section
variable {w f:FuncId}{inn fb:Int->Bool}(A:adD w f inn fb)
include A
def zh(T:Ty)(td:List aw){n:Nat}(hn:n<=td.length)(u:n<=90000000):∃b k,(k=n+(EY inn T).length/\k<=b.length/\b.take k=td.take n++EY inn T)/\HX 136 [tyA T,.one (.p 800101 0),.one (.p 800102 0),.one (.p 800103 0)] (aQ (fb T.t)) (lkH w f 2900001 n td) (lkH w f 2900002 k b):=by
 have i:=A.w T;have l:=A.f T.t;have⟨t,a⟩:=T
 by_cases h:wl inn (.nd t a)=[]
 .refine⟨td,n,⟨by simp[EY,h],hn,by simp[EY,h]⟩,?_⟩;refine HX.post (res:=aQ (fb t)) (H':=lkH w f 2900001 n td) ?_ 2900001 2900002;simp only[wl]at h
  cases j:inn (Ty.nd t a).t with
  | false=>rw[j]at i;rcases A.c with⟨rfl,rfl|rfl⟩|⟨rfl,rfl|rfl⟩<;>exact bH func136 [] [] [⟨_,i⟩,⟨_,l⟩] oe al0
  | true=>rw[j]at i h;obtain rfl:a=[]:=h;rcases A.c with⟨rfl,rfl|rfl⟩|⟨rfl,rfl|rfl⟩<;>exact bH func136 [] [] [⟨_,i⟩,⟨_,l⟩] oe al0
 .have j:inn (Ty.nd t a).t:=by cases e:inn (Ty.nd t a).t with|true=>rfl|false=>simp[wl,e]at h
  have m:wl inn (.nd t a)=a:=by simp only[wl,j];rfl
  rw[j]at i;rw[m]at h;obtain⟨x,r,rfl⟩:∃x r,a=x::r:=by cases a with|nil=>exact absurd rfl h|cons x r=>exact⟨x,r,rfl⟩
  have o:EY inn (.nd t (x::r))=[x::r]:=by simp[EY,m]
  refine⟨td.take n++[x::r],n+1,⟨by rw[o];rfl,ov,by rw[o,ux ov]⟩,?_⟩;refine HX.post (res:=aQ (fb t)) (H':=lkH w f 2000016 (n+1) (td.take n++[x::r])) ?_ 2000016 2900002;have e:rowsLe ((Lj td).take n++[[.s 2 (tysD (x::r))]]) (Lj (td.take n++[x::r])):=by rw[Lv];simp only[Lj,qa0];exact rows_refl _
  have g:zV 24 n (Lj td) [[.s 2 (tysD (x::r))]]:=iL (by rw[Ra];exact hn) oe rfl ov ot;have q:mD (aQ (decide ((0:Int)<((tysD (x::r)).length:Int)))) (bA true):=is_lt (by simp[eY]);rcases A.c with⟨rfl,rfl|rfl⟩|⟨rfl,rfl|rfl⟩<;>exact bH func136 [(12,bA true),(2000016,.one (.d (.s 1 (Lj (td.take n++[x::r])))))] [] [⟨_,i⟩,⟨_,l⟩] oe (al q (al e (al g al0)))
def fwX (w f:FuncId) (n:Nat) (td:List aw):St:=[((800102,0),.of (.one (Ey w))),((800103,0),.of (.one (.g 3000015 1 n))),((800104,0),.of (.one (Ey f))),((3000016,0),.kv 23 1 (Lj td))]
def lkS (w f:FuncId) (ts:aw) (j n:Nat) (td:List aw):St:=[((0,1),.of (.one (.c 136 [800101,800102,800103]))),((0,7),.of (dZ ts)),((0,8),lW (tysD ts).length),((0,9),.of (jA j))]++fwX w f n td
omit A in
def acx(T:Ty):(EY inn T).length<=1:=by unfold EY;split<;>simp
def JZ{ts:aw}(C:ts.length<=50000000):∀(l:aw) (j:Nat),ts.drop j=l->∀(td:List aw) (n:Nat),n<=td.length->n+l.length<=90000000->∃(b:List aw) (d:Nat),(l.all (λT=>fb T.t)->d=n+(l.flatMap (EY inn)).length/\d<=b.length/\b.take d=td.take n++l.flatMap (EY inn)) /\
 (l.all (λT=>fb T.t)->∀β,evL β (lkS w f ts j n td) 2 (fwX w f d b))/\(l.all (λT=>fb T.t)=false->∀β,evL β (lkS w f ts j n td) 1 (((0,4),aQ false)::fwX w f d b))
 | [],j,c,td,n,m,o=>by
  have k:ts.length<=j:=by have:=congrArg List.length c;simp at this;omega
  refine⟨td,n,λ_=>⟨oe,m,oe⟩,λ_ β=>?_,λh=>by simp at h⟩;exact fF (e:=1) [(10,bA false)] [] (al (show mD (aQ (decide (Int.ofNat j<((tysD ts).length:Int)))) (bA false) from wH Ok) al0)
 | .nd t a::l,j,c,td,n,m,o=>by
  have k:j<ts.length:=qb4 λh=>by rw[qb6 od]at c;cases c
  have D:ts[j]?=some (.nd t a):=by rw[km k]at c;rw[qu k];exact congrArg some (qe3 c).1
  have G:ts.drop (j+1)=l:=by rw[km k]at c;exact (qe3 c).2
  simp only[js]at o;have⟨g,n1,⟨y,z,B⟩,hF⟩:=zh A (.nd t a) td m od;replace hF:=(hF.to 2900001 3000015).post 2900002 2000015;have I:=acx (inn:=inn) (.nd t a);have r:mD (aQ (decide (Int.ofNat j<((tysD ts).length:Int)))) (bA true):=is_lt Ok;have s:=EK D;have H:mD (lW (IntKind.i64.wrap (Int.ofNat j+1))) (jA (j+1)):=yY (zF oe ov ov)
  cases i:fb (Ty.nd t a).t with
  | false =>
   rw[i]at hF;refine⟨g,n1,λh=>by simp[i]at h,λh=>by simp[i]at h,λ_ β=>?_⟩;exact fF (e:=0) [(10,bA true),(11,.one (.e (tyD (.nd t a)) 0))] [⟨_,hF⟩] (al r (al s al0))
  | true =>
   rw[i]at hF;have⟨b,d,E,p⟩:=JZ C l (j+1) G g n1 z od;have e:(Ty.nd t a::l).all (λT=>fb T.t)=l.all (λT=>fb T.t):=by simp[i]
   rw[e];have F:=λ(β:Nat->Option Nat) {ex:Nat} {q:St} (h:evL β (lkS w f ts (j+1) n1 g) ex q)=>(jC [(10,bA true),(11,.one (.e (tyD (.nd t a)) 0)),(17,jA (j+1))] [⟨_,hF⟩] h (al r (al s (al H al0))):evL β (lkS w f ts j n td) ex q);refine⟨b,d,λh=>?_,λh β=>F β (p.1 h β),λh β=>F β (p.2 h β)⟩;have⟨u,v,x⟩:=E h;refine⟨?_,v,?_⟩
   .rw[u,y];simp only[qd5,jx];omega
   .rw[x,B];simp
def Nf{ts:aw}(j:ts.length<=50000000)(td:List aw){n:Nat}(hn:n<=td.length)(i:n+ts.length<=90000000):∃a b,(ts.all (λT=>fb T.t)->b=n+(ts.flatMap (EY inn)).length/\b<=a.length/\a.take b=td.take n++ts.flatMap (EY inn)) /\
 HX 84 [dZ ts,.one (.c 136 [800101,800102,800103])] (aQ (ts.all λT=>fb T.t)) (lkH w f 2000015 n td) (lkH w f 3000015 b a):=by
 have⟨a,b,k,e⟩:=JZ A j ts 0 rfl td n hn i;refine⟨a,b,k,?_⟩;have h:=wI (S:=lkS w f ts 0 n td) (q:=gF f84=gF f84) rfl (ps:=[]) al0
 cases g:ts.all (λT=>fb T.t)with
 | true=>exact bH func84 [] [_] [] (λβ x d=>by rw[qv]at d;subst d;exact e.1 g β) h
 | false=>exact bH func84 [] [_] [] (λβ x d=>by rw[qv]at d;subst d;exact e.2 g β) h
omit A
def sJ (inn fb:Int->Bool) (td:List aw):Bool:=td.all λl=>l.all (sW inn fb)
def Rh (td:List aw):Nat:=(td.map tysizes).sum
def IP(a b:List aw):Rh (a++b)=Rh a+Rh b:=by simp[Rh]
def yj(a b:List aw):sJ inn fb (a++b)=(sJ inn fb a&&sJ inn fb b):=by simp[sJ]
def V9(T:Ty):sW inn fb T=(fb T.t&&sJ inn fb (EY inn T)):=by have⟨t,a⟩:=T;simp only[sW,yL,EY,wl];cases b:inn t<;>cases a<;>simp[Ty.t,Ty.args,b,sJ]
def all_psh:∀l:aw,l.all (sW inn fb)=(l.all (λT=>fb T.t)&&sJ inn fb (l.flatMap (EY inn)))
 | []=>rfl
 | T::l=>by rw[xj,xj,qd5,yj,V9,all_psh l];cases fb T.t<;>cases sJ inn fb (EY inn T)<;>simp
def tdz_psh:∀l:aw,Rh (l.flatMap (EY inn))+l.length<=tysizes l
 | []=>jj _
 | .nd t a::l=>by
  have c:=tdz_psh l;have d:Rh (EY inn (.nd t a))<=tysizes a:=by
   unfold EY;split
   .simp[Rh]
   .simp only[wl,Ty.t,Ty.args,Rh,qc0,qh5,ka0,List.sum_nil];have h:∀b:Bool,tysizes (if b then a else [])<=tysizes a:=λb=>by cases b<;>simp[tysizes]
    exact h _
  simp only[qd5,IP,js,tysizes,Ty.size];omega
def acy{l:aw} : ∀q∈l.flatMap (EY inn),q≠[]:=λq b=>by
 have⟨T,_,a⟩:=qb2.1 b;unfold EY at a;split at a
 .cases a
 .rw[qv]at a;subst a;assumption
def len_tdz:∀{td:List aw},(∀l∈td,l≠[])->td.length<=Rh td
 | [],_=>yv _
 | l::td,h=>by
  have b:=len_tdz (td:=td) (λq a=>h q (by simp[a]));have c:1<=tysizes l:=by
   cases l with
   | nil=>exact absurd rfl (h _ oe)
   | cons T l=>have:=Cz T;simp only[tysizes];omega
  simp only[js,Rh,qc0,ka0]at *;omega
def len_le:∀l:aw,l.length<=tysizes l
 | []=>jj _
 | T::l=>by have:=len_le l;have:=Cz T;simp only[js,tysizes];omega
abbrev alL (S:St) (ex:Nat) (q:St):Prop:=vO prog f108.ntmps ⟨gF f108,S,ex,q⟩
def alS (w f:FuncId) (m:Nat) (td:List aw):St:=[((0,7),.of (.one (.p 7 0))),((0,8),.of (.one (.c 136 [4,7,5]))),((5,0),.of (.one (Ey w))),((6,0),.of (.one (Ey f))),((8,0),.of (.one (.g 3000013 1 m))),((3000014,0),.kv 23 1 (Lj td))]
include A
def all_go:∀(N:Nat) (td:List aw) (m:Nat),m<=td.length->Rh (td.take m)<=N->N<=50000000->(∀l∈td.take m,l≠[])->(sJ inn fb (td.take m)->alL (alS w f m td) 2 [])/\(sJ inn fb (td.take m)=false->alL (alS w f m td) 1 [((0,6),aQ false)])
 | N,td,0,G,v,D,b=>⟨λ_=>xQ (e:=1) [] [] al0,λh=>by simp[sJ]at h⟩
 | N,td,m+1,G,v,D,b=>by
  have⟨l,c⟩:∃l,td.take (m+1)=td.take m++[l]:=⟨td[m]'od,by rw[jc1,qu od];rfl⟩;have u:l≠[]:=b l (by rw[c];simp);have d:Rh (td.take m)+tysizes l<=N:=by rw[c,IP]at v;simpa[Rh]using v
  have C:=len_tdz (td:=td.take m) (λq a=>b q (by rw[c];simp[a]));rw[qc1,jc6 od]at C;have Q:=len_le l;have R:1<=l.length:=List.length_pos_iff.2 u;have⟨M,S,U⟩:=DI (es:=Lj td) (A:=Lj (td.take m)) (r:=[.s 2 (tysD l)]) (m:=m) (n:=1) (by rw[Ra,qc1];omega) (λq a=>by obtain⟨p,_,rfl⟩:=kB.1 a;rfl) rfl (by rw[Lv,c];simp[Lj]);have⟨i,x,E,j⟩:=Nf A (ts:=l) od td (n:=m) od od;replace j:=((((j.to 800101 4).to 800102 7).to 800103 5).to 2000015 3000013).post 3000015 2000013;have H:mD (aQ (decide ((0:Int)<Int.ofNat (m+1)))) (bA true):=is_lt oe;have I:mD (lW (IntKind.i64.wrap (Int.ofNat (m+1) - 1))) (jA m):=yY Zs;have J:(if 1=1/\m<m+1 then some (AV.of (.one (.q 3000013 (m*1))))else none)=some (.of (.one (.q 3000013 (m*1)))):=if_pos ⟨rfl,od⟩;have K:(dY (Lj td) (m*1) 1).bind (mkA false)=some (.of (dZ l)):=by rw[M];rfl
  have L:(if 1=1/\m<=m+1 then some (AV.of (.one (.g 3000013 1 m)))else none)=some (.of (.one (.g 3000013 1 m))):=if_pos ⟨rfl,od⟩;have y:=al H (al I (al J (al K (al L al0))))
  cases k:l.all (λT=>fb T.t)with
  | false =>
   rw[k]at j;refine⟨λh=>?_,λ_=>xQ (e:=0) [(17,bA true),(20,jA m),(23,.one (.q 3000013 (m*1))),(24,dZ l),(27,.one (.g 3000013 1 m))] [⟨_,j⟩] y⟩;rw[c,yj]at h;simp only[sJ,xj,jh5,ka1,qt]at h;have:=all_psh (inn:=inn) (fb:=fb) l;rw[k,qh1]at this;rw[this]at h;cases h.2
  | true =>
   rw[k]at j;have⟨O,B,o⟩:=E k;have P:=tdz_psh (inn:=inn) l;have e:sJ inn fb (td.take (m+1))=sJ inn fb (i.take x):=by
    rw[c,o,yj,yj]
    congr 1
    rw[show sJ inn fb [l]=l.all (sW inn fb) by simp[sJ],all_psh,k,qa7]
   match N,d with
   | 0,d=>omega
   | N+1,d =>
    have z:=all_go N i x B (by rw[o,IP];omega) od (λq a=>by
     rw[o]at a;rcases ki.1 a with a|a
     .exact b q (by rw[c];simp[a])
     .exact acy q a)
    rw[e];have F:=λ{ex:Nat} {q:St} (h:alL (alS w f x i) ex q)=>(LG [(17,bA true),(20,jA m),(23,.one (.q 3000013 (m*1))),(24,dZ l),(27,.one (.g 3000013 1 m))] [⟨_,j⟩] h y:alL (alS w f (m+1) td) ex q);exact⟨λh=>F (z.1 h),λh=>F (z.2 h)⟩
def Ob{T:Ty}(i:T.size<=50000000):Hd ⟨108,[tyA T,.one (Ey w),.one (Ey f)],aQ (sW inn fb T)⟩:=by
 have⟨c,d⟩:=all_go A 50000000 [[T]] 1 (jj _) (by simp[Rh,tysizes];exact i) (jj _) oe;have e:sJ inn fb ([[T]].take 1)=sW inn fb T:=by simp[sJ]
 rw[e]at c d;have⟨t,a⟩:=T;have h:=wI (S:=alS w f 1 [[.nd t a]]) (q:=gF f108=gF f108) rfl (ps:=[]) al0
 cases g:sW inn fb (.nd t a)with
 | true=>exact Ce func108 [(13,nilA)] [_] (λx b=>by rw[qv]at b;subst b;exact c g) [] h
 | false=>exact Ce func108 [(13,nilA)] [_] (λx b=>by rw[qv]at b;subst b;exact d g) [] h
end
def UY{T:Ty}(b:T.size<=50000000):Hd ⟨86,[tyA T],aQ (oF T)⟩:=by have h:=Ob (w:=109) (f:=110) (inn:=Bq) (fb:=Qd) ⟨.inl ⟨rfl,.inl rfl⟩,U3,Z0⟩ b;have⟨t,a⟩:=T;exact aF func86 [⟨_,h⟩]
def U4{T:Ty}(b:T.size<=50000000):Hd ⟨153,[tyA T],aQ (eB T)⟩:=by have h:=Ob (w:=109) (f:=167) (inn:=Bq) (fb:=LU) ⟨.inl ⟨rfl,.inr rfl⟩,U3,Z8⟩ b;have⟨t,a⟩:=T;exact aF func153 [⟨_,h⟩]
def hW:∀T:Ty,Hd ⟨134,[tyA T],.of (if Ap T.t then dZ T.args else nilA)⟩:=λT=>by
 have:=abZ T
 by_cases h:T.t=14
 .rw[if_pos h]at this;rw[show Ap T.t=false by simp[Ap,h]];exact this
 .rw[if_neg h]at this;rw[show Ap T.t by simp[Ap,h]];exact this
def afe{T:Ty}(b:T.size<=50000000):Hd ⟨146,[tyA T],aQ (A7 T)⟩:=by have h:=Ob (w:=134) (f:=161) (inn:=Ap) (fb:=Qe) ⟨.inr ⟨rfl,.inl rfl⟩,hW,Z5⟩ b;have⟨t,a⟩:=T;exact aF func146 [⟨_,h⟩]
def Jg{T:Ty}(b:T.size<=50000000):Hd ⟨107,[tyA T],aQ (storeT T)⟩:=by have h:=Ob (w:=134) (f:=135) (inn:=Ap) (fb:=Kz) ⟨.inr ⟨rfl,.inr rfl⟩,hW,Vv⟩ b;have⟨t,a⟩:=T;exact aF func107 [⟨_,h⟩]
abbrev evN (S:St) (ex:Nat) (q:St):Prop:=vO prog f84.ntmps ⟨gF f84,S,ex,q⟩
def kyS (ts:aw) (j:Nat):St:=[((0,1),.of (.one (Ey 58))),((0,7),.of (dZ ts)),((0,8),lW (tysD ts).length),((0,9),.of (jA j))]
def JY{ts:aw}(m:ts.length<=100)(H:∀T∈ts,Hd ⟨58,[tyA T],aQ (keyedF T)⟩):∀(l:aw) (j:Nat),ts.drop j=l->(l.all keyedF->evN (kyS ts j) 2 [])/\(l.all keyedF=false->evN (kyS ts j) 1 [((0,4),aQ false)])
 | [],j,b=>by
  have d:ts.length<=j:=by have:=congrArg List.length b;simp at this;omega
  exact⟨λ_=>xQ (e:=1) [(10,bA false)] [] (al (show mD (aQ (decide (Int.ofNat j<((tysD ts).length:Int)))) (bA false) from wH Ok) al0),λh=>by simp at h⟩
 | .nd t a::l,j,b=>by
  have d:j<ts.length:=qb4 λh=>by rw[qb6 od]at b;cases b
  have f:ts[j]?=some (.nd t a):=by rw[km d]at b;rw[qu d];exact congrArg some (qe3 b).1
  have n:ts.drop (j+1)=l:=by rw[km d]at b;exact (qe3 b).2
  have hF:=H _ (ka f);have g:mD (aQ (decide (Int.ofNat j<((tysD ts).length:Int)))) (bA true):=is_lt Ok;have i:=EK f;have o:mD (lW (IntKind.i64.wrap (Int.ofNat j+1))) (jA (j+1)):=yY (zF oe ov ov)
  cases c:keyedF (.nd t a)with
  | false =>
   rw[c]at hF;exact⟨λh=>by simp[c]at h,λ_=>xQ (e:=0) [(10,bA true),(11,.one (.e (tyD (.nd t a)) 0))] [⟨_,hF⟩] (al g (al i al0))⟩
  | true =>
   rw[c]at hF;have k:=JY m H l (j+1) n;have F:=λ{ex:Nat} {q:St} (h:evN (kyS ts (j+1)) ex q)=>(LG [(10,bA true),(11,.one (.e (tyD (.nd t a)) 0)),(17,jA (j+1))] [⟨_,hF⟩] h (al g (al i (al o al0))):evN (kyS ts j) ex q);rw[xj,c,qa7];exact⟨λh=>F (k.1 h),λh=>F (k.2 h)⟩
def Nc{ts:aw}(f:ts.length<=100)(H:∀T∈ts,Hd ⟨58,[tyA T],aQ (keyedF T)⟩):Hd ⟨84,[dZ ts,.one (Ey 58)],aQ (ts.all keyedF)⟩:=by
 have⟨d,e⟩:=JY f H ts 0 rfl;have c:=wI (S:=kyS ts 0) (q:=gF f84=gF f84) rfl (ps:=[]) al0
 cases b:ts.all keyedF with
 | true=>exact Ce func84 [] [_] (λx a=>by rw[qv]at a;subst a;exact d b) [] c
 | false=>exact Ce func84 [] [_] (λx a=>by rw[qv]at a;subst a;exact e b) [] c
mutual
def H_keyed:∀(T:Ty) (d:Nat),okT T->bf d T->T.size<=50000000->Hd ⟨58,[tyA T],aQ (keyedF T)⟩
 | .nd t a,d,m,i,j=>by
  simp only[bf,qt,jt]at i;have n:bT t<=2:=by unfold bT;split<;>(try split)<;>omega
  simp only[Ty.size]at j;have h:=Nc (ts:=a) od (λT k=>H_keyeds a (d+1) m.2 i.2 od T k);rw[<-uu]at h
  by_cases f:t=13\/t=15
  .obtain⟨⟨c,b⟩,r,rfl⟩:∃x r,a=x::r:=by
    cases a with
    | nil=>have:=i.1.2.2;unfold bT at this;split at this<;>(try split at this)<;>simp at this<;>omega
    | cons x r=>exact⟨x,r,rfl⟩
   have g:=UY (T:=.nd c b) (by simp only[tysizes]at j;omega);have e:keyedF (.nd t (.nd c b::r))=(oF (.nd c b)&&keyedFs (.nd c b::r)):=by simp[keyedF,uZ,headComp,f]
   rw[e];cases l:oF (.nd c b)<;>rw[l]at g
   .rcases f with rfl|rfl<;>exact aF func58 [⟨_,g⟩]
   .rw[qa7];rcases f with rfl|rfl<;>exact aF func58 [⟨_,g⟩,⟨_,h⟩]
  .have e:keyedF (.nd t a)=keyedFs a:=by simp[keyedF,uZ,f]
   rw[e];exact runT func58 [(5,bA false),(9,bA false)] [⟨_,h⟩] (al (show nq t 13 from oL od) (al (show nq t 15 from oL od) al0))
def H_keyeds:∀(l:aw) (d:Nat),okTs l->ig d l->tysizes l<=50000000->∀T∈l,Hd ⟨58,[tyA T],aQ (keyedF T)⟩
 | [],_,_,_,_,_,h=>by cases h
 | T::l,d,c,a,f,b,h=>by
  simp only[ig,qt]at a;simp only[tysizes]at f
  by_cases e:b=T
  .rw[e];exact H_keyed T d c.1 a.1 od
  .exact H_keyeds l d c.2 a.2 od b (by rcases kl.1 h with h|h;exact absurd h e;exact h)
end
def Cb{T:Ty}(hk:okT T):Hd ⟨43,[tyA T],aQ (ai T)⟩:=by
 have⟨c,_,hF⟩:=H_formed T 1 hk od 0 od od;have e:ai T=(xI 1 T 0&&keyedF T):=by
  have h:decide (T.size<=300)=decide ((0:Int)+(T.size:Int)<=300):=by rw[qg7];omega
  simp only[ai,xI,h]
 rw[e];replace hF:=hF.to 800100 3
 cases b:xI 1 T 0 with
 | false =>
  rw[b]at hF;have⟨t,a⟩:=T;exact aF func43 [⟨_,hF⟩]
 | true =>
  rw[b]at hF;simp only[xI,qt]at b;have hK:=H_keyed T 1 hk b.1 (by have:=qf7 b.2;omega);rw[qa7];have⟨t,a⟩:=T;exact aF func43 [⟨_,hF⟩,⟨_,hK⟩]
abbrev Cp:=aw×aw
def JR (l:List Cp):List bd:=l.map λp=>[.s 2 (tysD p.1),.s 2 (tysD p.2)]
def OW(l:List Cp):(JR l).length=l.length:=by simp[JR]
def JW(l:List Cp)(n:Nat):(JR l).take n=JR (l.take n):=by simp[JR]
def smH (K n:Nat) (td:List Cp):Hp:=⟨[(800100,[.g K 2 n])],[(K,.kv 76 2 (JR td))]⟩
def ZX(x y:Ty)(td:List Cp){n:Nat}(hn:n<=td.length)(c:n<=90000000):HX 41 [tyA x,tyA y,.one (.p 800100 0)] (aQ (decide (x.t=y.t))) (smH 2900001 n td) (smH 2900002 (n+1) (td.take n++[(x.args,y.args)])):=by
 have⟨t,a⟩:=x;have⟨u,b⟩:=y;refine HX.post (res:=aQ (decide (t=u))) (H':=smH 2000013 (n+1) (td.take n++[(a,b)])) ?_ 2000013 2900002;have e:rowsLe ((JR td).take n++[[.s 2 (tysD a),.s 2 (tysD b)]]) (JR (td.take n++[(a,b)])):=by rw[JW];simp only[JR,qa0];exact rows_refl _
 have g:zV 48 n (JR td) [[.s 2 (tysD a),.s 2 (tysD b)]]:=iL (by rw[OW];exact hn) oe rfl ov ot;exact bH func41 [(2000013,.one (.d (.s 2 (JR (td.take n++[(a,b)])))))] [] [] oe (al e (al g al0))
abbrev eqL (β:Nat->Option Nat) (S:St) (ex:Nat) (q:St):Prop:=@vO (qh β) prog f42.ntmps ⟨gF f42,S,ex,q⟩
def eqX (n:Nat) (td:List Cp):St:=[((800101,0),.of (.one (.g 3000015 2 n))),((3000016,0),.kv 76 2 (JR td))]
def eqS (p:Cp) (j n:Nat) (td:List Cp):St:=[((0,1),.of (dZ p.2)),((0,2),.of (.one (.c 41 [800100]))),((0,15),.of (dZ p.1)),((0,16),lW (tysD p.1).length),((0,17),.of (jA j))]++eqX n td
def Iz (l:List (Ty×Ty)):Bool:=l.all λq=>decide (q.1.t=q.2.t)
def Tm (l:List (Ty×Ty)):List Cp:=l.map λq=>(q.1.args,q.2.args)
def eq_go{p:Cp}(B:p.1.length<=50000000)(I:p.1.length=p.2.length):∀(l:List (Ty×Ty)) (j:Nat),(p.1.zip p.2).drop j=l->∀(td:List Cp) (n:Nat),n<=td.length->n+l.length<=90000000->∃(c:List Cp) (f:Nat),(Iz l->f=n+l.length/\f<=c.length/\c.take f=td.take n++Tm l) /\
 (Iz l->∀β,eqL β (eqS p j n td) 2 (eqX f c))/\(Iz l=false->∀β,eqL β (eqS p j n td) 1 (((0,6),aQ false)::eqX f c))
 | [],j,d,td,n,o,s=>by
  have m:p.1.length<=j:=by have:=congrArg List.length d;simp at this;omega
  exact⟨td,n,λ_=>⟨oe,o,by simp[Tm]⟩,λ_ β=>fF (e:=1) [(18,bA false)] [] (al (show mD (aQ (decide (Int.ofNat j<((tysD p.1).length:Int)))) (bA false) from wH Ok) al0),λh=>by simp[Iz]at h⟩
 | (.nd t a,.nd u b)::l,j,d,td,n,o,s=>by
  have J:(p.1.zip p.2).length=p.1.length:=ov
  have m:j<(p.1.zip p.2).length:=qb4 λh=>by rw[qb6 od]at d;cases d
  have E:(p.1.zip p.2)[j]?=some (.nd t a,.nd u b):=by rw[km m]at d;rw[qu m];exact congrArg some (qe3 d).1
  have H:(p.1.zip p.2).drop (j+1)=l:=by rw[km m]at d;exact (qe3 d).2
  have⟨C,D⟩:=List.getElem?_zip_eq_some.1 E;simp only[js]at s;have hF:=ZX (.nd t a) (.nd u b) td o od;replace hF:=(hF.to 2900001 3000015).post 2900002 2000015;have w:mD (aQ (decide (Int.ofNat j<((tysD p.1).length:Int)))) (bA true):=is_lt Ok;have x:=EK C;have i:=EK D;have K:mD (lW (IntKind.i64.wrap (Int.ofNat j+1))) (jA (j+1)):=yY (zF oe ov ov);have g:n+1<=(td.take n++[(a,b)]).length:=ov
  by_cases k:t=u
  .rw[show decide ((Ty.nd t a).t=(Ty.nd u b).t) from xb k]at hF;have⟨c,f,G,v⟩:=eq_go B I l (j+1) H _ (n+1) g od;have e:Iz ((.nd t a,.nd u b)::l)=Iz l:=by simp[Iz,Ty.t,k]
   rw[e];have F:=λ(β:Nat->Option Nat) {r:Nat} {q:St} (h:eqL β (eqS p (j+1) (n+1) (td.take n++[(a,b)])) r q)=>(jC [(18,bA true),(20,.one (.e (tyD (.nd t a)) 0)),(24,.one (.e (tyD (.nd u b)) 0)),(31,jA (j+1))] [⟨_,hF⟩] h (al w (al x (al i (al K al0)))):eqL β (eqS p j n td) r q);refine⟨c,f,λh=>?_,λh β=>F β (v.1 h β),λh β=>F β (v.2 h β)⟩;have⟨y,z,A⟩:=G h;refine⟨by rw[y,js];omega,z,?_⟩;rw[A,ux ov];simp[Tm,Ty.args]
  .rw[show decide ((Ty.nd t a).t=(Ty.nd u b).t)=false from zE k]at hF;have e:Iz ((.nd t a,.nd u b)::l)=false:=by simp[Iz,Ty.t,k]
   rw[e];exact⟨td.take n++[(a,b)],n+1,λh=>(by cases h),λh=>(by cases h),λ_ β=>fF (e:=0) [(18,bA true),(20,.one (.e (tyD (.nd t a)) 0)),(24,.one (.e (tyD (.nd u b)) 0))] [⟨_,hF⟩] (al w (al x (al i al0)))⟩
def Z6{p:Cp}(k:p.1.length<=50000000)(td:List Cp){n:Nat}(hn:n<=td.length)(o:n+p.1.length<=90000000):∃a b,(p.1.length=p.2.length->Iz (p.1.zip p.2)->b=n+p.1.length/\b<=a.length/\a.take b=td.take n++Tm (p.1.zip p.2)) /\
 HX 42 [dZ p.1,dZ p.2,.one (.c 41 [800100])] (aQ (decide (p.1.length=p.2.length)&&Iz (p.1.zip p.2))) (smH 2000015 n td) (smH 3000015 b a):=by
 by_cases d:p.1.length=p.2.length
 .have f:(p.1.zip p.2).length=p.1.length:=by simp;omega
  have⟨a,b,l,g⟩:=eq_go k d _ 0 rfl td n hn (by rw[ja4];omega);refine⟨a,b,λ_ h=>by rw[<-f];exact l h,?_⟩;have m:jJ (!decide (((tysD p.1).length:Int)=((tysD p.2).length:Int))) false:=eT (by simp[eY,d]);have j:=wI (S:=eqS p 0 n td) (q:=gF f42=gF f42) rfl (ps:=[jJ (!decide (((tysD p.1).length:Int)=((tysD p.2).length:Int))) false]) (al m al0);rw[xb d,qa7]
  cases i:Iz (p.1.zip p.2)with
  | true=>exact bH func42 [(14,bA false)] [_] [] (λβ x e=>by rw[qv]at e;subst e;exact g.1 i β) j
  | false=>exact bH func42 [(14,bA false)] [_] [] (λβ x e=>by rw[qv]at e;subst e;exact g.2 i β) j
 .refine⟨td,n,λh=>absurd h d,?_⟩;rw[zE d,qh1];refine HX.post (res:=aQ false) (H':=smH 2000015 n td) ?_ 2000015 3000015;exact bH func42 [(14,bA true)] [] [] oe (al (show jJ (!decide (((tysD p.1).length:Int)=((tysD p.2).length:Int))) true from eT Ok) al0)
def Fj (td:List Cp):Bool:=td.all λp=>sameTs p.1 p.2
def Xx (td:List Cp):Nat:=(td.map λp=>tysizes p.1).sum
def O7(a b:List Cp):Xx (a++b)=Xx a+Xx b:=by simp[Xx]
def Q3(a b:List Cp):Fj (a++b)=(Fj a&&Fj b):=by simp[Fj]
def same_zip:∀a b:aw,sameTs a b=(decide (a.length=b.length)&&(Iz (a.zip b)&&Fj (Tm (a.zip b))))
 | [],[]=>by simp[sameTs,Iz,Tm,Fj]
 | [],_::_=>by simp[sameTs]
 | _::_,[]=>by simp[sameTs]
 | .nd t x::a,.nd u y::b=>by have c:∀l,Iz ((.nd t x,.nd u y)::l)=(decide (t=u)&&Iz l):=λ_=>rfl;have d:∀l,Fj (Tm ((.nd t x,.nd u y)::l))=(sameTs x y&&Fj (Tm l)):=λ_=>rfl;rw[List.zip_cons_cons,c,d];simp only[sameTs,sameT,same_zip a b,js,Nat.add_right_cancel_iff];generalize Iz (a.zip b)=e;generalize Fj (Tm (a.zip b))=p2;generalize sameTs x y=f;generalize decide (t=u)=g;generalize decide (a.length=b.length)=h;cases e<;>cases f<;>cases g<;>cases h<;>rfl
def cpz_zip:∀a b:aw,a.length=b.length->Xx (Tm (a.zip b))+a.length<=tysizes a
 | [],_,_=>by simp[Tm,Xx]
 | _::_,[],h=>by cases h
 | .nd t x::a,.nd u y::b,h=>by have:=cpz_zip a b (by simpa using h);simp only[Tm,Xx,List.zip_cons_cons,qc0,ka0,Ty.args,js,tysizes,Ty.size]at *;omega
abbrev ksL (S:St) (ex:Nat) (q:St):Prop:=vO prog f28.ntmps ⟨gF f28,S,ex,q⟩
def ksS (m:Nat) (td:List Cp):St:=[((0,5),.of (.one (.p 5 0))),((0,6),.of (.one (.c 41 [5]))),((6,0),.of (.one (.g 3000014 2 m))),((3000015,0),.kv 76 2 (JR td))]
def same_go:∀(N:Nat) (td:List Cp) (m:Nat),m<=td.length->m+Xx (td.take m)<=N->N<=50000001->(Fj (td.take m)->ksL (ksS m td) 2 [])/\(Fj (td.take m)=false->ksL (ksS m td) 1 [((0,4),aQ false)])
 | N,td,0,u,i,t=>⟨λ_=>xQ (e:=1) [] [] al0,λh=>by simp[Fj]at h⟩
 | 0,td,m+1,u,i,t=>od
 | N+1,td,m+1,u,i,t=>by
  have⟨⟨l,r⟩,j⟩:∃l,td.take (m+1)=td.take m++[l]:=⟨td[m]'od,by rw[jc1,qu od];rfl⟩;have C:m+1+(Xx (td.take m)+tysizes l)<=N+1:=by rw[j,O7]at i;simpa[Xx]using i
  have L:=len_le l;have⟨J,M,O⟩:=DI (es:=JR td) (A:=JR (td.take m)) (r:=[.s 2 (tysD l),.s 2 (tysD r)]) (m:=m) (n:=2) (by rw[OW,qc1];omega) (λq B=>by obtain⟨p,_,rfl⟩:=kB.1 B;rfl) rfl (by rw[JW,j];simp[JR]);have⟨a,k,z,b⟩:=Z6 (p:=(l,r)) (by show l.length<=_;omega) td (n:=m) od (by show m+l.length<=_;omega);replace b:=((b.to 800100 5).to 2000015 3000014).post 3000015 2000014;have D:mD (aQ (decide ((0:Int)<Int.ofNat (m+1)))) (bA true):=is_lt oe;have E:mD (lW (IntKind.i64.wrap (Int.ofNat (m+1) - 1))) (jA m):=yY Zs;have G:(if 2=2/\m<m+1 then some (AV.of (.one (.q 3000014 (m*2))))else none)=some (.of (.one (.q 3000014 (m*2)))):=if_pos ⟨rfl,od⟩;have H:(dY (JR td) (m*2) 2).bind (mkA true)=some (.of (.agg [.d (.s 2 (tysD l)),.d (.s 2 (tysD r))])):=by rw[J];rfl
  have I:(if 2=2/\m<=m+1 then some (AV.of (.one (.g 3000014 2 m)))else none)=some (.of (.one (.g 3000014 2 m))):=if_pos ⟨rfl,od⟩;have v:=al D (al E (al G (al H (al I al0))));have f:Fj (td.take (m+1))=(Fj (td.take m)&&((decide (l.length=r.length)&&Iz (l.zip r))&&Fj (Tm (l.zip r)))):=by rw[j,Q3,show Fj [(l,r)]=sameTs l r by simp[Fj],same_zip,Bool.and_assoc]
  cases c:(decide (l.length=r.length)&&Iz (l.zip r))with
  | false =>
   rw[c]at b f;refine⟨λh=>by rw[f]at h;simp at h,λ_=>xQ (e:=0) [(18,bA true),(21,jA m),(24,.one (.q 3000014 (m*2))),(25,.agg [.d (.s 2 (tysD l)),.d (.s 2 (tysD r))]),(28,.one (.g 3000014 2 m))] [⟨_,b⟩] v⟩
  | true =>
   rw[c]at b f;simp only[qt,jt]at c;have⟨x,y,o⟩:=z c.1 c.2;have K:=cpz_zip l r c.1;have w:=same_go N a k y (by rw[o,O7,x];simp only;omega) od;have e:Fj (td.take (m+1))=Fj (a.take k):=by rw[f,o,Q3,qa7]
   rw[e];have F:=λ{ex:Nat} {q:St} (h:ksL (ksS k a) ex q)=>(LG [(18,bA true),(21,jA m),(24,.one (.q 3000014 (m*2))),(25,.agg [.d (.s 2 (tysD l)),.d (.s 2 (tysD r))]),(28,.one (.g 3000014 2 m))] [⟨_,b⟩] h v:ksL (ksS (m+1) td) ex q);exact⟨λh=>F (w.1 h),λh=>F (w.2 h)⟩
def BR{T U:Ty}(i:T.size<=50000000):Hd ⟨28,[tyA T,tyA U],aQ (sameT T U)⟩:=by
 have⟨d,f⟩:=same_go 50000001 [([T],[U])] 1 (jj _) (by simp[Xx,tysizes];omega) (jj _);have e:Fj ([([T],[U])].take 1)=sameT T U:=by simp[Fj,sameTs]
 rw[e]at d f;have⟨t,a⟩:=T;have⟨u,b⟩:=U;have h:=wI (S:=ksS 1 [([.nd t a],[.nd u b])]) (q:=gF f28=gF f28) rfl (ps:=[]) al0
 cases g:sameT (.nd t a) (.nd u b)with
 | true=>exact Ce func28 [(14,nilA)] [_] (λx c=>by rw[qv]at c;subst c;exact d g) [] h
 | false=>exact Ce func28 [(14,nilA)] [_] (λx c=>by rw[qv]at c;subst c;exact f g) [] h
def aai(k n p:Int)(s:bp)(az:aE)(u:s.size<=maxLen)(t:az.length<=maxLen):Hd ⟨114,[ndA (.nd k n p s az)],.of (iA (Lf.fD k n p s az.length))⟩:=⟨tF func114,λz w y h=>by
 match y,h with
 | [v],⟨h,_⟩ =>
  obtain⟨x,rfl,h⟩:=h
  match x,h with
  | [a,b,c,d,f],⟨j,l,m,o,q,_⟩ =>
   obtain⟨g,i,U,rfl,_⟩:=fH q;rw[bW j,bW l,bW m,bW o,Hf];refine (Lf.OO k n p s g az.length i w t u).mono ?_;rintro e A ⟨rfl,r⟩;exact⟨r,_,rfl,fI.v _⟩⟩
def gdH (c:Nat):Hp:=⟨[(800100,[.d (.v (.i (.ofNat c)))])],[]⟩
def GdH (t:Tr):Prop:=∀d c:Nat,d<=25->c+t.size<=4611686018427387904->∃c':Nat,(bC d t=0->c'=c+t.size)/\HX 95 [ndA t,jA d,.one (.p 800100 0)] (.of (iA (bC d t))) (gdH c) (gdH c')
def gdS (az:aE) (d j c:Nat):St:=[((0,1),.of (jA d)),((0,2),.of (.one (.p 800100 0))),((0,24),.of (CW az)),((0,25),lW (ndsD az).length),((0,26),.of (jA j)),((800101,0),.of (jA c))]
abbrev gdL (β:Nat->Option Nat) (S:St) (ex:Nat) (q:St):Prop:=@vO (qh β) prog f95.ntmps ⟨gF f95,S,ex,q⟩
def J6{az:aE}{d:Nat}(D:d<=24)(H:∀t∈az,GdH t):∀(l:aE) (j:Nat),j<=az.length->az.drop j=l->∀c:Nat,c+sizes l<=4611686018427387904->az.length<=4611686018427387904->∃g:Nat,(bG (d+1) l=0->g=c+sizes l) /\
 (bG (d+1) l=0->∀β,gdL β (gdS az d j c) 2 [((800101,0),.of (jA g))])/\(bG (d+1) l≠0->∀β,gdL β (gdS az d j c) 1 [((0,6),.of (iA (bG (d+1) l))),((800101,0),.of (jA g))])
 | [],j,m,f,c,u,v=>by obtain rfl:j=az.length:=jh7 m (by have:=congrArg List.length f;simp at this;omega);exact⟨c,λ_=>by simp[sizes],λ_ β=>fF (e:=1) [(27,bA false)] [] (al (wH (show ¬Int.ofNat az.length<((ndsD az).length:Int) by simp[Hf])) al0),λh=>absurd (by rw[bG]) h⟩
 | .nd k n p s a::l,j,m,f,c,u,v=>by
  have o:j<az.length:=qb4 λh=>by rw[qb6 od]at f;cases f
  have w:az[j]?=some (.nd k n p s a):=by rw[km o]at f;rw[qu o];exact congrArg some (qe3 f).1
  rw[sizes]at u|-;have⟨y,z,hF⟩:=H _ (ka w) (d+1) c od od;have x:=λ(l:List Prop) (h:∀p∈l,p)=>al (is_lt (show Int.ofNat j<((ndsD az).length:Int) by simp[Hf];omega)) (al (WV w) (al (yY (zF (b:=Int.ofNat (d+1)) oe ov ov):mD (lW (IntKind.i64.wrap (Int.ofNat d+1))) (jA (d+1))) h));rw[bG];generalize bC (d+1) (.nd k n p s a)=e at *
  by_cases i:e=0
  .subst i;obtain rfl:=z rfl;rw[if_neg oe];have⟨g,A,B,C⟩:=J6 D H l (j+1) o (by rw[km o]at f;exact (qe3 f).2) (c+(Tr.nd k n p s a).size) od v;have F:=λ(β:Nat->Option Nat) {r:Nat} {q:St} (h:gdL β (gdS az d (j+1) (c+(Tr.nd k n p s a).size)) r q)=>(jC [(27,bA true),(28,.one (.e (ndD (.nd k n p s a)) 0)),(32,jA (d+1)),(38,jA (j+1))] [⟨_,hF⟩] h (x _ (al (yY (show IntKind.i64.wrap (Int.ofNat j+1)=Int.ofNat (j+1) by rw[yb];simp;omega)) al0)):gdL β (gdS az d j c) r q);exact⟨g,λh=>by rw[A h];omega,λh β=>F β (B h β),λh β=>F β (C h β)⟩
  .rw[if_pos (by simpa using i)];exact⟨y,λh=>absurd h i,λh=>absurd h i,λ_ β=>fF (e:=0) [(27,bA true),(28,.one (.e (ndD (.nd k n p s a)) 0)),(32,jA (d+1)),(36,bA true)] [⟨_,hF⟩] (x _ (al (oZ (xb i)) al0))⟩
mutual
def H_first:∀t:Tr,okN t->GdH t
 | .nd k n p s a,j=>λd c y r=>by
  by_cases b:24<d
  .refine⟨c,λh=>(by rw[bC,if_pos b]at h;cases h),?_⟩;rw[bC,if_pos b];exact bH func95 [(12,bA true)] [] [] oe (al (is_lt (show (24:Int)<Int.ofNat d by simp;omega)) al0)
  have l:=wH (show ¬(24:Int)<Int.ofNat d by simp;omega);rw[Tr.size]at r|-;have hW:=aai k n p s a j.1.2.2.2 (by have:=cB a;unfold maxLen;omega);rw[bC,if_neg b]
  by_cases f:Lf.fD k n p s a.length=0
  .rw[if_neg (by simpa using f)];rw[f]at hW;have⟨o,u,v,w⟩:=J6 (az:=a) (d:=d) od (H_firsts a j.2) a 0 (yv _) rfl (c+1) od (by have:=cB a;omega);have m:=wI (S:=gdS a d 0 (c+1)) (q:=gF f95=gF f95) rfl (ps:=[mD (aQ (decide ((24:Int)<Int.ofNat d))) (bA false),mD (lW (IntKind.i64.wrap (Int.ofNat c+1))) (jA (c+1))]) (al l (al (yY (show IntKind.i64.wrap (Int.ofNat c+1)=Int.ofNat (c+1) by rw[yb];simp;omega)) al0));refine⟨o,λh=>by rw[u h];omega,?_⟩
   by_cases i:bG (d+1) a=0
   .rw[i];exact bH func95 [(12,bA false),(21,jA (c+1))] [_] [⟨_,hW⟩] (λβ x g=>by rw[qv]at g;subst g;exact v i β) m
   .exact bH func95 [(12,bA false),(21,jA (c+1))] [_] [⟨_,hW⟩] (λβ x g=>by rw[qv]at g;subst g;exact w i β) m
  .rw[if_pos (by simpa using f)];generalize Lf.fD k n p s a.length=e at *;exact⟨c,λh=>absurd h f,bH func95 [(12,bA false),(16,bA true)] [] [⟨_,hW⟩] oe (al l (al (oZ (xb f)) al0))⟩
def H_firsts:∀l:aE,okNs l->∀t∈l,GdH t
 | [],_,_,h=>by cases h
 | t::l,a,b,h=>by
  by_cases e:b=t
  .rw[e];exact H_first t a.1
  .exact H_firsts l a.2 b (by rcases kl.1 h with h|h;exact absurd h e;exact h)
end
def K3{t:Tr}(hk:okN t)(g:t.size<=4611686018427387904):Hd ⟨68,[ndA t],.of (iA (dS t))⟩:=by
 have⟨c,f,hF⟩:=H_first t hk 1 0 od od;replace hF:=hF.to 800100 3;unfold dS;have⟨k,n,p,s,b⟩:=t
 by_cases a:bC 1 (.nd k n p s b)=0
 .rw[if_neg (by simpa using a)];rw[a]at hF;obtain rfl:=f a;rw[qb1]at hF;generalize (Tr.nd k n p s b).size=m at *
  by_cases d:300<m
  .rw[if_pos d];exact runT func68 [(11,bA true)] [⟨_,hF⟩] (al (is_lt (show (300:Int)<Int.ofNat m by simp;omega)) al0)
  .rw[if_neg d];exact runT func68 [(11,bA false)] [⟨_,hF⟩] (al (wH (show ¬(300:Int)<Int.ofNat m by simp;omega)) al0)
 .rw[if_pos (by simpa using a)];generalize bC 1 (.nd k n p s b)=e at *;exact runT func68 [(8,bA true)] [⟨_,hF⟩] (al (oZ (xb a)) al0)
def Bj{w:cg}{t:Tr}{v:cm}(a:bI (· < w.heap.size) w t v)(g:t.size<=4611686018427387904):Calls prog 68 #[v] w λe w'=>e =.returned (.i (dS t))/\cq w w' none:=by have⟨c,d⟩:=LH a;refine ((K3 c g).runN rfl _ w [v] ⟨d,trivial⟩).mono ?_;rintro e w' ⟨b,u,rfl,f⟩;rw[bW f];exact⟨rfl,b⟩
