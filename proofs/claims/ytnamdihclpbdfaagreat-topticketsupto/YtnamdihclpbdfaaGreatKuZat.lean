import Derived.Test.YtnamdihclpbdfaaGreatKuZas
import Derived.WalkSpells
namespace Go.Proofs.YtnamdihclpbdfaaGreat
set_option linter.all false
open Go.Proofs.Tryz
open Pe
def Gv{α:Type} : ∀(n:Nat) (l:List α),n<=l.length->xw n l=some (l.drop n)
 | 0,l,_=>rfl
 | n+1,x::l,h=>by rw[xw,Gv n l (by simpa using h)];rfl
 | n+1,[],h=>by simp at h
def Iw{α:Type} : ∀(n:Nat) (l:List α),n<=l.length->nH n l=some (l.take n)
 | 0,l,_=>by simp[nH]
 | n+1,x::l,h=>by rw[nH,Iw n l (by simpa using h)];rfl
 | n+1,[],h=>by simp at h
section
variable {l:ao}{x y:Va}
def atF_le:j4 l x<=l.length:=(List.takeWhile_sublist _).length_le
def adI(h:fJ l x):j4 l x+1<=l.length:=by
 unfold fJ at h;split at h
 .rename_i y a;exact (qT.1 a).1
 .cases h
def Qh{n:Nat}(h:n<=l.length):qA 7 (vasD l) (some n) (some none)=some (.of (.one (.d (.s 7 (vasD (l.drop n)))))):=by show (xw n (vasD l)).map _=_;rw[Gv _ _ (by simpa[vasD_map]using h)];simp[vasD_map,List.map_drop]
def full_of{n:Nat}(h:n<=l.length):(if 7=7/\n=n then (nH n (vasD l)).map (λr=>AV.of (.one (.f 7 r)))else none)=some (AV.of (.one (.f 7 (vasD (l.take n))))):=by rw[if_pos ⟨rfl,rfl⟩,Iw _ _ (by simpa[vasD_map]using h)];simp[vasD_map,List.map_take]
def CE (x:Va) (bh ah:A1) (it:ao) (i:Int):St:=[((0,4),.of (.one (.p 4 0))),((5,0),.of (.one (.d (.v (.i x.k))))),((5,1),.of (.one (.d (.v (.i x.n))))),((5,2),.of (.one (.d (.v (.i x.a))))),((5,3),.of (.one (.d (.v (.string x.s))))),((5,4),.of (.one (.d (.s 7 (vasD x.args))))),((5,5),.of (.one (.d (.s 2 (tysD x.types))))),((5,6),.of (.one (.d (.s 5 (ndsD x.code))))),
 ((0,9),.of bh),((0,10),.of ah),((0,31),.of (qi it)),((0,32),lW it.length),((0,33),lW i)]
def KM (bh ah:A1):St:=[((0,9),.of bh),((0,10),.of ah)]
abbrev wT (l:ao):A1:=.one (.d (.s 7 (vasD l)))
abbrev CP (l:ao):A1:=.one (.f 7 (vasD l))
def OI(v u:ao):vO prog f218.ntmps ⟨gF f218,CE x (wT v) (CP u) [] 0,2,KM (wT v) (CP u)⟩:=by have⟨k,n,i,z,r,t,d⟩:=x;exact xQ (e:=1) [] [] (ob:=[]) oe
def OJ(v u:ao)(q:u.length<=20000000):vO prog f218.ntmps ⟨gF f218,CE x (wT v) (CP u) [y] 0,2,KM (wT v) (.one (.d (.s 7 (vasD u++[vaD (aY x y)]))))⟩:=by
 have⟨k,n,i,z,r,t,d⟩:=x;have⟨c,f,b,j,g,h,a⟩:=y;have l:vO prog f218.ntmps ⟨gF f218,CE (.mk k n i z r t d) (wT v) (.one (.d (.s 7 (vasD u++[vaD (aY (.mk k n i z r t d) (.mk c f b j g h a))])))) [.mk c f b j g h a] 1,2,KM (wT v) (.one (.d (.s 7 (vasD u++[vaD (aY (.mk k n i z r t d) (.mk c f b j g h a))]))))⟩:=xQ (e:=1) [] [] (ob:=[]) oe;have m:(vasD u).length=u.length:=Ks
 exact LG [] [⟨_,pX (.mk k n i z r t d) (.mk c f b j g h a)⟩] l (ob:=[(vasD u).length+(0+1)<=maxLen/\((vasD u).length+(0+1))*112<=140737488355328]) (λp o=>by rw[qv.1 o,m];unfold maxLen;omega)
def Sj(u v:ao):vasD (u++v)=vasD u++vasD v:=Ks
def u7{S:St}{q:Prop}(b:q){ps:List Prop}(h:∀p∈ps,p):∀p∈ps++(q::S.map (λx=>some x.2=some x.2)),p:=λp a=>by
 rcases ki.1 a with a|a
 .exact h p a
 .rcases kl.1 a with rfl|a
  .exact b
  .obtain⟨x,_,rfl⟩:=kB.1 a;rfl
def aek{r:ao}(O:okVs l)(R:okV x)(S:okVs r)(V:r.length<=1)(Y:vsizes l<=9000000)(T:risesF l):Hd ⟨218,[qi l,pF x,qi r],.of (qi (uO l x r))⟩:=by
 have c:=FN (y:=x) od T;have Z:=len_vsizes l;have Q:=atF_le (l:=l) (x:=x);have K:=Qh (l:=l) Q;have L:=full_of (l:=l) Q;have X:okVs (l.take (j4 l x)):=okVs_at.2 λy H=>okVs_at.1 O y (qe6 H);have Zg:∀q,okVs (l.drop q):=λq=>okVs_at.2 λy H=>okVs_at.1 O y (qh2 H);have M:(l.take (j4 l x)).length<=20000000:=vc
 have P:∀(u:ao) (q:Nat),okVs u->u.length<=1->Hd ⟨216,[.one (.d (.s 1 [[.s 7 (vasD (l.take (j4 l x)++u))],[.s 7 (vasD (l.drop q))]]))],.of (qi (l.take (j4 l x)++u++l.drop q))⟩:=λu q hu W =>
  Da (m:=7) (n:=7) (.inl rfl) (.inl rfl) (by rw[jx,qc1,List.length_drop];omega)
 have E:=λv=>OI (x:=x) v (l.take (j4 l x));have F:=λv y=>OJ (x:=x) (y:=y) v (l.take (j4 l x)) M;have I:fJ l x=false->uO l x r=l.take (j4 l x)++r.map (aY x)++l.drop (j4 l x):=λh=>by unfold uO;rw[h];simp
 have J:fJ l x->uO l x r=l.take (j4 l x)++r.map (aY x)++l.drop (j4 l x+1):=λh=>by unfold uO;rw[h];simp
 have D:fJ l x->some (lW (IntKind.i64.wrap (((j4 l x:Nat):Int)+1)))=some (.of (iA ((j4 l x+1:Nat):Int))):=λh=>by have:=adI h;rw[show ((j4 l x:Nat):Int)+1=((j4 l x+1:Nat):Int) by omega,iD _ od];rfl
 have G:fJ l x->_:=λh=>Qh (l:=l) (adI h);have N:∀y,okV y->okVs [aY x y]:=λy H=>⟨si R H,trivial⟩;generalize U:j4 l x=A at *;rcases r with _|⟨y,_|⟨y2,r⟩⟩
 .have e:=λq=>P [] q trivial oe;simp only[qc4]at e;simp only[qh5,qc4]at I J;have⟨k,n,i,z,a,t,d⟩:=x
  cases hF:fJ l (.mk k n i z a t d)with
  | false =>
   rw[I hF];rw[hF]at c;exact Ce func218 [(21,wT (l.drop A)),(30,CP (l.take A))] [⟨gF f218,CE (.mk k n i z a t d) (wT (l.drop A)) (CP (l.take A)) [] 0,2,KM (wT (l.drop A)) (CP (l.take A))⟩] (by intro q b;rw[qv]at b;subst b;exact E _) [⟨_,c⟩,⟨_,e A⟩]
    (ob:=[qA 7 (vasD l) (some A) (some none)=some (.of (wT (l.drop A))),(if 7=7/\A=A then (nH A (vasD l)).map (λr=>AV.of (.one (.f 7 r)))else none)=some (AV.of (CP (l.take A)))]++((gF f218=gF f218)::(CE (.mk k n i z a t d) (wT (l.drop A)) (CP (l.take A)) [] 0).map (λx=>some x.2=some x.2))) (u7 rfl (al K (al L al0)))
  | true =>
   rw[J hF];rw[hF]at c;exact Ce func218 [(21,wT (l.drop A)),(25,iA ((A+1:Nat):Int)),(26,wT (l.drop (A+1))),(30,CP (l.take A))] [⟨gF f218,CE (.mk k n i z a t d) (wT (l.drop (A+1))) (CP (l.take A)) [] 0,2,KM (wT (l.drop (A+1))) (CP (l.take A))⟩] (by intro q b;rw[qv]at b;subst b;exact E _) [⟨_,c⟩,⟨_,e (A+1)⟩]
    (ob:=[qA 7 (vasD l) (some A) (some none)=some (.of (wT (l.drop A))),some (lW (IntKind.i64.wrap (((A:Nat):Int)+1)))=some (.of (iA ((A+1:Nat):Int))),qA 7 (vasD l) (some (A+1)) (some none)=some (.of (wT (l.drop (A+1)))),(if 7=7/\A=A then (nH A (vasD l)).map (λr=>AV.of (.one (.f 7 r)))else none)=some (AV.of (CP (l.take A)))]++((gF f218=gF f218)::(CE (.mk k n i z a t d) (wT (l.drop (A+1))) (CP (l.take A)) [] 0).map (λx=>some x.2=some x.2))) (u7 rfl (al K (al (D hF) (al (G hF) (al L al0)))))
 .have g:=λq=>P [aY x y] q (N y S.1) oe;simp only[Sj]at g;simp only[qc0,qh5]at I J;have⟨k,n,i,z,a,t,d⟩:=x;have⟨p,n1,o,C,w,B,j⟩:=y
  cases hF:fJ l (.mk k n i z a t d)with
  | false =>
   rw[I hF];rw[hF]at c;exact Ce func218 [(21,wT (l.drop A)),(30,CP (l.take A))] [⟨gF f218,CE (.mk k n i z a t d) (wT (l.drop A)) (CP (l.take A)) [.mk p n1 o C w B j] 0,2,KM (wT (l.drop A)) (.one (.d (.s 7 (vasD (l.take A)++[vaD (aY (.mk k n i z a t d) (.mk p n1 o C w B j))]))))⟩] (by intro q b;rw[qv]at b;subst b;exact F _ _) [⟨_,c⟩,⟨_,g A⟩]
    (ob:=[qA 7 (vasD l) (some A) (some none)=some (.of (wT (l.drop A))),(if 7=7/\A=A then (nH A (vasD l)).map (λr=>AV.of (.one (.f 7 r)))else none)=some (AV.of (CP (l.take A)))]++((gF f218=gF f218)::(CE (.mk k n i z a t d) (wT (l.drop A)) (CP (l.take A)) [.mk p n1 o C w B j] 0).map (λx=>some x.2=some x.2))) (u7 rfl (al K (al L al0)))
  | true =>
   rw[J hF];rw[hF]at c;exact Ce func218 [(21,wT (l.drop A)),(25,iA ((A+1:Nat):Int)),(26,wT (l.drop (A+1))),(30,CP (l.take A))] [⟨gF f218,CE (.mk k n i z a t d) (wT (l.drop (A+1))) (CP (l.take A)) [.mk p n1 o C w B j] 0,2,KM (wT (l.drop (A+1))) (.one (.d (.s 7 (vasD (l.take A)++[vaD (aY (.mk k n i z a t d) (.mk p n1 o C w B j))]))))⟩] (by intro q b;rw[qv]at b;subst b;exact F _ _) [⟨_,c⟩,⟨_,g (A+1)⟩]
    (ob:=[qA 7 (vasD l) (some A) (some none)=some (.of (wT (l.drop A))),some (lW (IntKind.i64.wrap (((A:Nat):Int)+1)))=some (.of (iA ((A+1:Nat):Int))),qA 7 (vasD l) (some (A+1)) (some none)=some (.of (wT (l.drop (A+1)))),(if 7=7/\A=A then (nH A (vasD l)).map (λr=>AV.of (.one (.f 7 r)))else none)=some (AV.of (CP (l.take A)))]++((gF f218=gF f218)::(CE (.mk k n i z a t d) (wT (l.drop (A+1))) (CP (l.take A)) [.mk p n1 o C w B j] 0).map (λx=>some x.2=some x.2))) (u7 rfl (al K (al (D hF) (al (G hF) (al L al0)))))
 .simp at V
end
section
variable {c:Mc}{m m1:Ma}{o:Go.Proofs.YtnamdihclpbdfaaGreat.Out}{tn tp:Int}{tz:bp}{ta:aE}
def Kw(b:tp=40\/tp=41\/tp=42\/tp=43\/tp=44)(a:HO c m 194 [] (.go m1))(h:HO c m1 197 [ndA (.nd 2 tn tp tz ta)] o):HO c m 191 [ndA (.nd 2 tn tp tz ta)] o:=by rcases b with rfl|rfl|rfl|rfl|rfl<;>exact eH [m1] func191 [pu a 0,pu h 1]
def Ku(b:tp=46\/tp=47\/tp=48\/tp=49\/tp=50\/tp=51\/tp=53\/tp=54)(a:HO c m 194 [] (.go m1))(h:HO c m1 198 [iA tp] o):HO c m 191 [ndA (.nd 2 tn tp tz ta)] o:=by rcases b with rfl|rfl|rfl|rfl|rfl|rfl|rfl|rfl<;>exact eH [m1] func191 [pu a 0,pu h 1]
def FE(b:tp=56\/tp=57\/tp=59\/tp=61\/tp=62\/tp=63)(a:HO c m 194 [] (.go m1))(h:HO c m1 199 [iA tp] o):HO c m 191 [ndA (.nd 2 tn tp tz ta)] o:=by rcases b with rfl|rfl|rfl|rfl|rfl|rfl<;>exact eH [m1] func191 [pu a 0,pu h 1]
def FD(b:tp=52\/tp=55\/tp=58\/tp=64)(a:HO c m 194 [] (.go m1))(h:HO c m1 200 [ndA (.nd 2 tn tp tz ta)] o):HO c m 191 [ndA (.nd 2 tn tp tz ta)] o:=by rcases b with rfl|rfl|rfl|rfl<;>exact eH [m1] func191 [pu a 0,pu h 1]
def Ir(b:tp=60\/tp=65\/tp=66\/tp=67\/tp=68)(a:HO c m 194 [] (.go m1))(h:HO c m1 201 [ndA (.nd 2 tn tp tz ta)] o):HO c m 191 [ndA (.nd 2 tn tp tz ta)] o:=by rcases b with rfl|rfl|rfl|rfl|rfl<;>exact eH [m1] func191 [pu a 0,pu h 1]
def FH(b:tp=69\/tp=70\/tp=71\/tp=72\/tp=93\/tp=94\/tp=95)(a:HO c m 194 [] (.go m1))(h:HO c m1 202 [iA tp] o):HO c m 191 [ndA (.nd 2 tn tp tz ta)] o:=by rcases b with rfl|rfl|rfl|rfl|rfl|rfl|rfl<;>exact eH [m1] func191 [pu a 0,pu h 1]
def Ox(b:tp=73\/tp=74\/tp=75\/tp=76\/tp=77\/tp=78\/tp=79)(a:HO c m 194 [] (.go m1))(h:HO c m1 203 [iA tp] o):HO c m 191 [ndA (.nd 2 tn tp tz ta)] o:=by rcases b with rfl|rfl|rfl|rfl|rfl|rfl|rfl<;>exact eH [m1] func191 [pu a 0,pu h 1]
def Ky(b:tp=45\/tp=80\/tp=81\/tp=82\/tp=83)(a:HO c m 194 [] (.go m1))(h:HO c m1 204 [ndA (.nd 2 tn tp tz ta)] o):HO c m 191 [ndA (.nd 2 tn tp tz ta)] o:=by rcases b with rfl|rfl|rfl|rfl|rfl<;>exact eH [m1] func191 [pu a 0,pu h 1]
def FI(b:tp=84\/tp=85\/tp=86\/tp=87)(a:HO c m 194 [] (.go m1))(h:HO c m1 205 [iA tp] o):HO c m 191 [ndA (.nd 2 tn tp tz ta)] o:=by rcases b with rfl|rfl|rfl|rfl<;>exact eH [m1] func191 [pu a 0,pu h 1]
def step_sends(b:tp=88\/tp=89\/tp=90\/tp=91\/tp=92)(a:HO c m 194 [] (.go m1))(h:HO c m1 206 [ndA (.nd 2 tn tp tz ta)] o):HO c m 191 [ndA (.nd 2 tn tp tz ta)] o:=by rcases b with rfl|rfl|rfl|rfl|rfl<;>exact eH [m1] func191 [pu a 0,pu h 1]
def step_seq(hk:okNs ta)(a:Fn m):HO c m 191 [ndA (.nd 3 tn tp tz ta)] (.go (fm m (Ef ta))) :=
 eH [] func191 [TY m m.st ta 0 hk a.fr]
def RP(a:HO c m 194 [] (.no 12 m)):HO c m 191 [ndA (.nd 2 tn tp tz ta)] (.no 12 m) :=
 eH [] func191 [pu a 0]
structure Zp (t:Tr):Prop where
 k:t.k0=2
 n:(t.p0=41\/t.p0=43\/t.p0=44)->0<t.args0.length
 cd:(t.p0=52\/t.p0=55\/t.p0=58\/t.p0=64)->∃a b,t.args0=[a,b]
 c:(t.p0=60\/t.p0=65\/t.p0=68)->∃a,t.args0=[a]
 ZM:t.p0=66->∃a b d,t.args0=[a,b,d]/\fu a/\fu b
 tv:t.p0=45->∃a b,t.args0=[a,b]/\fu a
 t:(t.p0=82\/t.p0=88)->∃a,t.args0=[a]/\fu a
def Rp{t:Tr}{i:Ins}(h:iY t=some i):Zp t:=by
 refine⟨(jY h rfl).1,λd=>?_,λd=>?_,λd=>?_,λd=>?_,λd=>?_,λd=>?_⟩
 .have⟨_,f,_⟩:=jY h (show bR t.p0=[110] by unfold bR;rw[if_pos d]);rw[f];decide
 .rw[ng h]at d;have⟨a,b,e,_⟩:=LV h d;exact⟨a,b,e⟩
 .rw[ng h]at d;have⟨a,e,_⟩:=Fq h d;exact⟨a,e⟩
 .have⟨_,f,g⟩:=jY h (show bR t.p0=[116,117,99] by unfold bR;rw[oa,oa,oa,oa,oa,oa,if_pos d]);have⟨a,r,k,e,l,j,m⟩:=pV f g;obtain⟨b,r,q,rfl,l,o,n⟩:=pV l m;obtain⟨c,rfl,p⟩:=mG l n;exact⟨a,b,c,e,(mF (.inl rfl) j).2,(mF (.inr rfl) o).2⟩
 .have⟨_,f,g⟩:=jY h (show bR t.p0=[116,118] by unfold bR;rw[oa,if_pos d]);have⟨a,r,k,e,l,j,m⟩:=pV f g;obtain⟨b,rfl,n⟩:=mG l m;exact⟨a,b,e,(mF (.inl rfl) j).2⟩
 .have⟨_,f,g⟩:=jY h (show bR t.p0=[116] by unfold bR;rw[oa,oa,oc]);have⟨a,e,j⟩:=mG f g;exact⟨a,e,(mF (.inl rfl) j).2⟩
structure ZB (c:Mc) (t:Tr) (m:Ma):Prop where
 ok:okN t
 z:t.size<=1000
 fn:Fn m
 st:∀x∈m.st,x.size<=9000000/\x.s.size<=1000
 en:bD c.en.self/\bD c.en.sender/\bD c.en.amount/\bD c.en.balance
 upd:t.p0=63->∀a b d s,m.st=a::b::d::s->b.args.length<=1
 num:(t.p0=69\/t.p0=70\/t.p0=71\/t.p0=72)->∀a b s,m.st=a::b::s->kE a.n/\kE b.n
def HO.ite{P:Prop}[Decidable P]{f:FuncId}{args:List A1}{a b:Go.Proofs.YtnamdihclpbdfaaGreat.Out}(d:(if P then a else b) ≠ .stuck)(e:P->a ≠ .stuck->HO c m f args a)(g:¬P->b ≠ .stuck->HO c m f args b):HO c m f args (if P then a else b):=by
 by_cases h:P
 .rw[if_pos h]at d|-;exact e h d
 .rw[if_neg h]at d|-;exact g h d
def X5{t:Tr}(V:(40<=t.p0/\t.p0<=95))(W:Zp t)(X:ZB c t m1)(h0:HO c m 194 [] (.go m1))(f:Qy c.en t m1 ≠ .stuck):HO c m 191 [ndA t] (Qy c.en t m1):=by
 have⟨g,A,i,p,v,u,q⟩:=X;have j:∀x∈m1.st,x.size<=20000000:=λx o=>by have:=(p x o).1;omega
 have y:∀x∈m1.st,x.size<=9000000/\x.s.size<=10000000:=λx o=>by have:=p x o;omega
 have⟨E,tn,tp,tz,ta⟩:=t;have⟨Y,H,I,J,K,L,D⟩:=W;obtain rfl:E=2:=Y;unfold Qy at f|-;simp only[Tr.p0]at f V H I J K L D q u|-;refine HO.ite f (λh f=>Kw h h0 (Ta h g H i f)) λg1 f=>?_;refine HO.ite f (λh f=>Ku h h0 (SI h i f)) λg2 f=>?_;refine HO.ite f (λh f=>FE h h0 (Mo (HU:=λl x r F G N P Q R=>aek F G N P Q R) h i y u f)) λZ f=>?_;refine HO.ite f (λh f=>FD h h0 (Ml h g (I h) i f)) λg4 f=>?_;refine HO.ite f (λh f=>Ir h h0 ?_) λg5 f=>?_
 .by_cases C:tp=67
  .subst C;unfold mq at f|-;simp only[Tr.p0,Int.reduceEq,↓reduceIte]at f|-;obtain⟨m1,s,rfl⟩:∃M s,m1=sm M s:=⟨m1,m1.st,rfl⟩;rcases s with _|⟨a,_|⟨b,s⟩⟩
   .exact absurd rfl f
   .exact absurd rfl f
   exact HO.node g (bK func201) λO w k n z a l d S hL=>Nk (t:=.nd 2 tn 67 tz ta) S rfl i.fr
  .exact Pf (by simp only[Tr.p0];omega) g (λB=>J (by simp only[Tr.p0]at B;omega)) K i f
 refine HO.ite f (λh f=>FH h h0 (Mr h i q f)) λg6 f=>?_;refine HO.ite f (λh f=>Ox h h0 (Ww h i j f)) λg7 f=>?_;refine HO.ite f (λh f=>Ky h h0 (aeQ (λx o A=>WH (okVs_at.1 i.ok x o) (j x o) A) (λa U x o A=>X9 (uE U) A) h g A L (λh=>by have⟨a,e,pa⟩:=D (.inl h);exact⟨a,e,pa,λx o=>(p x (List.mem_of_mem_head? o)).2⟩) (λ_ x o=>(p x (qe6 o)).2) i f (λT s x h=>Xq h) (λT s x h F G=>D5 h))) λg8 f=>?_;refine HO.ite f (λh f=>FI h h0 (Mw h v.1 i j f)) λg9 f=>?_;exact step_sends od h0 (Tf (by simp only[Tr.p0];omega) g (λh=>D (.inr h)) v i f)
end
open Go.ChangeShapes Go.WideShapes Go.ChangeAt Go.RowKit
set_option maxRecDepth 100000
set_option maxHeartbeats 4000000
section
variable {B:Nat}{O O':br}{w w':cg}{mb:Nat}{en:En}{aC:Int}{m:Ma}{f:Fr}{r:List Fr}{out:Out}
def JS(h:dm B O w mb en aC m)(q:m.fr=f::r)(u:f.rest=[])(HL:∀w',cq w w' none->Calls prog 190 #[.po mb] w' (jK B O w' mb en aC out)):Calls prog 185 #[.po mb] w (jK B O w mb en aC out):=by
 have⟨k,n,a,s,H,al,I,ta,tl,X,R,T,S,W,P,Y,N,h⟩:=h;obtain⟨g,z,A,U,V,wa,wc,J,L,rfl,p,rfl,G,j,l,E,D,hF⟩:=h.Sb q;have⟨d,v,i⟩:=JT (λw' (F:cq w w' none)=>uw (h.grow F) p) l HL;have K:=λ(w':cg) (h:cq w w' none)=>v.keep h oe;unfold C4 at K;rw[u]at K;simp only[qa1]at K;have C:cq w w none:=au _ _;clear h l E D hF p q G j HL u;generalize o:jK B O w mb en aC out=Q;have y:=jh o;clear o;go_enter func185,ntmps185;go_wp2_with (first
  | (go_at_call 189;(with_reducible refine (d.out _ oR).mono ?_);rintro e Z ⟨rfl,b⟩)
  | (go_at_call 190;(with_reducible refine (i.out _ b).mono ?_);rintro e w9 t;obtain⟨M,rfl,c⟩:=(t.trans (dB.grow b)).ret;have x:=jh c;clear t c))
 rw[<-y.out];exact x
def NN{nd:Tr}{l:aE}(h:dm B O w mb en aC m)(Z:m.fr=f::r)(M:f.rest=nd::l)(HS:∀(w':cg) (v:cm),dB O w O w'->dm B O w' mb en aC { m with fr:=⟨l,f.op,f.row,f.aside⟩::r }->bI (λb=>¬O b) w' nd v->Calls prog 191 #[.po mb,v] w' (jK B O w' mb en aC out)) :
 Calls prog 185 #[.po mb] w (jK B O w mb en aC out):=by
 have⟨k,n,a,s,aa,al,ac,ta,tl,tc,na,nl,nc,sv,fv,us,fs,h⟩:=h;obtain⟨g,ah,ak,ra,C,wa,wc,ba,bc,rfl,hc,rfl,hl,H,hC,hZ,Y,hF⟩:=h.Sb Z;have⟨VR,c⟩:=Y.open.2.2.1;have z:=Y.open.2.1.1;rw[M]at c z;have⟨b,o,eb,hb,k2,n2,p2,s2,a2,l2,c2,ev,x⟩:=c.2.1 0 oe;have p:=c.2.2 0 oe;rw[ev]at p;subst eb;simp only[jh3,qf3,List.getElem_cons_zero,js]at x p z;have⟨S,HM,HC⟩:=JT (λw' (hg:cq w w' none)=>uw (h.grow hg) hc) h hC;have P:Hid (C5 w b o k2 n2 p2 s2 a2 l2 c2):=x;have⟨T,ad,R,HL,E,X,ae,HR⟩:=wj p c Z hl H HS hZ M;have I:=h.mine.2 g rfl;have J:=h.high g I;have K:=λ(w':cg) (h:cq w w' none)=>And.intro (HC.keep h oe) (P.keep h oe);unfold C4 C5 at K;rw[M]at K;simp only[js]at K;have an:cq w w none:=au _ _;have d1:¬((l.length:Int)+1=0):=od
 have aj:(((l.length:Int)+1)==0)=false:=qh7.2 d1;have d2:(1:Int)<=(l.length:Int)+1:=od
 have d3:(l.length:Int)+1<=(C:Int):=od
 have d4:(0:Int)<(l.length:Int)+1:=od
 have⟨A,hA,G⟩:∃A:Addr,(if C=1 then some (⟨b,o,none⟩:Addr)else some ⟨b,o+5,none⟩)=some A/\∃V,cK (λb=>¬O b) w l (some A) V:=by
  by_cases hh:C=1
  .exact⟨_,if_pos hh,VR,by rw[jz (by omega:l.length=0)];exact cK.nil _ _ _ _⟩
  .exact⟨_,if_neg hh,_,c.tail⟩
 have U:=jh G;have t:l.length<=C - 1:=od
 have W:=jh t;clear h hC hZ Y hF hc Z hl H c p x ev HS G M z t;generalize hQ:jK B O w mb en aC out=Q;have HQ:=jh hQ;clear hQ;go_enter func185,ntmps185;go_wp2_with (first
  | (go_at_call 189;(with_reducible refine (S.out _ oR).mono ?_);rintro e N ⟨rfl,d⟩;have zf:=((HM.out.grow d).Jj HL.out E.out).2;have ab:=kh J d.size))
 have u:cq N (N.setCell ⟨g,r.length*4,none⟩ (.slice (some A) l.length (C - 1))) (some g):=aX (au _ _) _ _ _;have y:dB O w O (N.setCell ⟨g,r.length*4,none⟩ (.slice (some A) l.length (C - 1))):=(dB.grow d).trans (dB.ofRow u (λq e=>by cases e;exact I));have⟨V,hV⟩:=U.out;have F:=(HM.out.grow d).reset R.out HL.out E.out ((dB.grow d).Kl hV) W.out;have j:=Lf.gb (w:=N.setCell ⟨g,r.length*4,none⟩ (.slice (some A) l.length (C - 1))) (.cells #[.i k2,.i n2,.i p2,.string s2,.slice a2 l2 c2] 62);have D:=jh (y.trans (dB.grow j));have HX:=jh (X.out _ _ D.out (F.grow j).G5 (((y.trans (dB.grow j))).node T.out));unfold af at HX;clear u y hV F j;go_wp2_with ((go_at_call 191;(with_reducible refine HX.out.mono ?_);rintro e w9 hq;obtain⟨er,rfl,L⟩:=(hq.trans D.out).ret;have HE:=jh L;clear hq L));rw[<-HQ.out];exact HE.out
end
section
variable {B:Nat}{O:br}{w:cg}{mb:Nat}{en:En}{aC:Int}{m:Ma}
def WR (B:Nat) (O:br) (w:cg) (mb:Nat) (en:En) (aC:Int) (I:Ma->Prop) (out:Out) (n:Nat) (wr:cg):Prop:=∃O' m',dm B O' wr mb en aC m'/\dB O w O' wr/\I m'/\fq en aC n m'=out
def dm.frames(h:dm B O w mb en aC m):∃a c,w.cell? ⟨mb,15,none⟩=some (.slice a m.fr.length c):=by have⟨k,n,a,s,g,al,i,ta,tl,t,o,q,p,r,l,u,j,h⟩:=h;have⟨d,f,e⟩:=nX h.own;have b:=h.sZ.form.2;rw[qb3]at b;exact⟨d,f,by rw[<-b,<-e];exact (iM h.blk).2.2.2.2.2.2.2.2.1⟩
def Sk(I:Ma->Prop)(T:∀(O':br) (w':cg) (g:Ma),dm B O' w' mb en aC g->I g->g.fr≠[]->Calls prog 185 #[.po mb] w' (jK B O' w' mb en aC (uB en aC g)))(HI:∀g a,I g->g.fr≠[]->uB en aC g =.go a->I a)(h:dm B O w mb en aC m)(hm:I m)(N:Nat)(C:fq en aC N m ≠ .stuck) :
 Calls prog 173 #[.po mb] w (jK B O w mb en aC (fq en aC N m)):=by
 have⟨HM,H,L,G⟩:=we h hm T HI;generalize o:fq en aC N m=out at *;have HO:=jh o;have v:=jh C;clear h hm T HI o C;generalize W:jK B O w mb en aC out=Q;have U:=jh W;clear W;have⟨μ,hμ⟩:=mM (λn (p:cg)=>WR B O w mb en aC I out n p);have u:=jh hμ;clear hμ;go_enter func173,ntmps173;go_wp2_with fail;go_loopw [3] (λ_ wr=>∃n,WR B O w mb en aC I out n wr) (λ_ wr=>μ wr)
 case atStart=>exact⟨N,O,m,HM,dB.refl _ _,H,HO⟩
 case round =>
  have⟨n0,A⟩:=hrel;have⟨O',g,z,hF,y,d⟩:=(u.out wr n0 A).1;clear A;have l:Hid (∃q,μ wr=q):=⟨_,rfl⟩;have⟨q,S⟩:=l.out;rw[S]at d;have M:=jh S;clear l S
  cases q with
  | zero=>exact absurd d.symm (by rw[fq];exact v)
  | succ q =>
   have⟨fa,fc,b⟩:=z.frames;have⟨J,s,aa⟩:=JT z hF y;rw[fq]at d
   cases c:g.fr with
   | nil =>
    rw[c]at b d;simp only[qa1]at b d;have F:Hid (jK B O w mb en aC out (.returned (.i 0)) wr):=by rw[<-d];exact⟨O',s,rfl,J⟩
    clear z hF y d c;go_wp2_with fail;rw[<-U.out];exact F
   | cons f r =>
    rw[c]at b;have x:=jh (L O' wr g z y (by rw[c];simp));have K:=jh (λa=>G g a y (by rw[c];simp));have d0:(0:Int)<(r.length:Int)+1:=od
    simp only[js]at b;rw[c]at d;simp only at d;generalize uB en aC g=nx at *;clear z hF y c
    cases nx with
    | stuck=>exact absurd d (λe=>v e.symm)
    | no D a =>
     have P:Hid (Out.no D a=out):=d;clear d;go_wp2_with ((go_at_call 185;(with_reducible refine x.out.mono ?_);rintro e E ⟨R,j,t,rfl,m9,Z,p2,k⟩;have X:(D==0)=false:=qh7.2 t;have Y:(D != 0):=(by rw[bne_iff_ne];exact t);have F:Hid (jK B O w mb en aC out (.returned (.i D)) E):=(by rw[<-P.out];exact⟨R,s.out.trans j,t,rfl,m9,Z,p2,k⟩);clear j Z p2 k));rw[<-U.out];exact F.out
    | go a =>
     have P:Hid (fq en aC q a=out):=d;clear d;go_wp2_with ((go_at_call 185;(with_reducible refine x.out.mono ?_);rintro e E ⟨R,j,rfl,k⟩;have V:Hid (WR B O w mb en aC I out q E):=⟨R,a,k,s.out.trans j,K.out a rfl,P.out⟩;clear j k));go_roundw
     case rel=>exact⟨q,V⟩
     case measure =>
      have h1:=(u.out E q V).2;have h2:=M.out;omega
end
def Rt{i:Ins}{s x:aw}{f:Bool}(h:bJ i s =.ok f x)(b:i.p=69\/i.p=70\/i.p=71\/i.p=72):∃A B r,s=A::B::r/\(A.t=3\/A.t=4\/A.t=5)/\(B.t=3\/B.t=4\/B.t=5):=by
 unfold bJ at h;rw[oa,oa,oa]at h;split at h
 .rename_i c;obtain⟨A,B,r,rfl,_,_⟩:=lT c.2;refine⟨A,B,r,rfl,?_⟩;simp only[aJ,kO,ub,jb5]at h
  cases a:eF i.p A.t B.t with
  | none=>rw[a]at h;cases h
  | some T =>
   unfold eF zC at a
   repeat' split at a
   all_goals first
    | (cases a;done)
    | omega
    | (simp only[not_or,qe1]at *;omega)
 .cases h
def Qq{i:Ins}{s x:aw}{f:Bool}(h:aP i s =.ok f x)(b:i.p=63):∃A B D r,s=A::B::D::r/\B.t=9:=by
 unfold aP at h;rw[oa,oa,oa,oa,oa]at h;split at h
 .rename_i c;obtain⟨A,B,D,r,rfl,_,a,_⟩:=Kt c.2.1;exact⟨A,B,D,r,rfl,a ot⟩
 .cases h
def NA{row:aE->aw->iF}{i:Ins}{s x:aw}{f:Bool}(h:vP row i s =.ok f x):i.p<=95:=by
 unfold vP at h
 repeat' split at h
 all_goals first
  | omega
  | skip
 unfold dO at h
 repeat' split at h
 all_goals first
  | omega
  | cases h
def WJ{en:En}(h:yH en):bD en.self/\bD en.sender/\bD en.amount/\bD en.balance:=by have⟨a,b,c,d⟩:=h;simp only[lY,gN,jt]at a b c d;unfold bD;omega
section
variable {B:Nat}{O:br}{w:cg}{mb:Nat}{en:En}{aC:Int}{m:Ma}{S:aw}
def dm.okV(h:dm B O w mb en aC m):okVs m.st:=by have⟨k,n,a,s,e,al,f,ta,tl,t,o,q,p,r,j,d,g,h⟩:=h;refine okVs_at.2 λx c=>?_;obtain⟨i,b,rfl⟩:=qc5 (List.mem_reverse.2 c);have l:=h.jL.len;exact BC (h.jL.lies i _ d[i] (qu b) (qu od))
def cost_len:∀l:List Fr,l.length<=cost l
 | []=>yv _
 | f::l=>by have:=cost_len l;rw[gB];simp only[js];omega
def YM(a:WT aC S m)(e:aC<=50000):m.fr.length<=40000000:=by have b:=cost_len m.fr;have c:=a.cost;have d:=a.paid;omega
def Vg{nd:Tr}{l:aE}{f:Fr}{r:List Fr}{v:cm}(D:yH en)(W:WT aC S m)(hS:S.length<=342)(hg:aC<=50000)(o:m.fr=f::r)(V:f.rest=nd::l)(h:dm B O w mb en aC { m with fr:=⟨l,f.op,f.row,f.aside⟩::r })(hL:bI (λb=>¬O b) w nd v) :
 Calls prog 191 #[.po mb,v] w (jK B O w mb en aC (Iq en aC nd { m with fr:=⟨l,f.op,f.row,f.aside⟩::r })):=by
 have n:=Fa D W hS (by rw[o];simp);unfold uB at n;rw[o]at n;simp only[V]at n;have E:=YM W hg;rw[o]at E;obtain⟨J,k0,n0,p0,s0,a0,c0,C,rfl,I⟩:=qL hL;have hv:dU (gm (λ_=>none) (λb=>¬O b) w) [ndA nd] [af k0 n0 p0 s0 a0 nd.args0.length c0]:=by rw[C];exact⟨⟨_,rfl,fI.v _,fI.v _,fI.v _,fI.v _,by rw[<-C]at *;exact I,trivial⟩,trivial⟩
 refine HO.go (m:={ m with fr:=⟨l,f.op,f.row,f.aside⟩::r }) (args:=[ndA nd]) ?_ h hv;have R:=h.okV;have⟨⟨s,hF,P⟩,hm,U,hc,hZ,aa⟩:=W;rw[o]at P;have⟨⟨g1,g2,g3,g4⟩,z,Q,P⟩:=P;have⟨N,g,x,y,a,b,ck,d,e⟩:=GD V Q;rw[V]at g1;have⟨q1,q2⟩:=qE g1 (show nd∈nd::l by simp);have⟨j,_,_⟩:=nP ck;have F:∀pd:Int,Fn { m with fr:=⟨l,f.op,f.row,f.aside⟩::r,paid:=pd }:=λpd=>⟨R,by show m.st.length<=_;omega,by simp only[js]at E|-;omega⟩
 cases N with
 | zero=>simp[stepF]at j
 | succ N =>
  rw[stepF]at j;unfold Iq at n|-
  by_cases hk:nd.k0=3
  .rw[if_pos hk];have⟨u,tn,tp,tz,ta⟩:=nd;obtain rfl:u=3:=hk;exact step_seq J.2 (F m.paid)
  .rw[if_neg hk]at j n|-;split at j
   .cases j
   .rename_i i G;have hs:=Rp G;have U:=ng G;have L:40<=nd.p0:=by unfold iY at G;split at G;exact (by assumption:_/\_/\_).2.1;cases G
    have ab:=NA j;have h0:=HO_pay (c:=⟨B,mb,en,aC,w,O⟩) (m:={ m with fr:=⟨l,f.op,f.row,f.aside⟩::r });unfold uH at n h0|-
    by_cases p:aC<=m.paid
    .simp only[p,↓reduceIte]at h0|-;have⟨u,tn,tp,tz,ta⟩:=nd;obtain rfl:u=2:=hs.k;exact RP h0
    .simp only[p,↓reduceIte]at h0 n|-;refine X5 (c:=⟨B,mb,en,aC,w,O⟩) ⟨L,od⟩ hs ⟨J,od,F _,λx hx=>?_,WJ D,λH Y Z vd X t=>?_,λH Y Z X t=>?_⟩ h0 (λhh=>?_)
     .have⟨T,_,Q⟩:=fitS_mem hF x hx;have:=Bh Q;have:=hZ x hx;omega
     .rw[U]at H;unfold vP at j;rw[oa,oa,oc]at j;obtain⟨A,B',D',r',rfl,M⟩:=Qq j H;have t:m.st=Y::Z::vd::X:=t;rw[t]at hF;have⟨_,_,q,f1,hF⟩:=av hF;cases q;have⟨_,_,q,K,hF⟩:=av hF;cases q;obtain⟨_,_,h|⟨_,h,_⟩⟩:=EW K M<;>rw[h]<;>simp
     .rw[U]at H;unfold vP at j;rw[oa,oa,oa,oa,oa,oc]at j;obtain⟨A,B',r',rfl,hA,M⟩:=Rt j H;have t:m.st=Y::Z::X:=t;rw[t]at hF;have⟨_,_,q,f1,hF⟩:=av hF;cases q;have⟨_,_,q,K,hF⟩:=av hF;cases q;exact⟨(qd f1 hA).1,(qd K M).1⟩
     .rw[hh]at n;exact n
def QE{f:Fr}{r:List Fr}(j:WT aC S m)(n:S.length<=342)(a:m.fr=f::r)(p:f.rest=[])(h:dm B O w mb en aC m) :
 Calls prog 190 #[.po mb] w (jK B O w mb en aC (Bz aC f r m)):=by
 have c:=GQ j n a p;have u:=j.len;have⟨s,hF,g⟩:=j.typed;rw[a]at g;have⟨⟨g1,g2,q,t⟩,z,o,g⟩:=g;have b:m.st.length+f.aside.length<=100000000:=od
 unfold Bz at c|-;rcases o with⟨e,_⟩|⟨e,_⟩|⟨e,_⟩|⟨e,_⟩|⟨e,_⟩
 .simp only[e,Int.reduceEq,↓reduceIte]at c|-;exact qG h a b (.inl ⟨e,rfl⟩)
 .simp only[e,↓reduceIte]at c|-
  cases k:f.aside with
  | nil=>exact qG h a b (.inr (.inl ⟨e,k,rfl⟩))
  | cons x l=>have:=JK h a e k od;rw[e]at this;exact this
 .simp only[e,Int.reduceEq,↓reduceIte]at c|-
  cases i:m.st with
  | nil=>rw[i]at c;exact c.elim
  | cons v st =>
   cases d:kJ v with
   | true=>have:=JL h a e i d;rw[e]at this;simpa[d]using this
   | false=>simp only[d,qd3,↓reduceIte];exact qG h a b (.inr (.inr (.inl ⟨v,e,i,d⟩)))
 .simp only[e,Int.reduceEq,↓reduceIte]at c|-;exact qG h a b (.inr (.inr (.inr (.inl ⟨e,rfl⟩))))
 .simp only[e,Int.reduceEq,↓reduceIte]at c|-;exact qG h a b (.inr (.inr (.inr (.inr ⟨e,rfl⟩))))
def Us(c:yH en)(i:WT aC S m)(g:S.length<=342)(n:aC<=50000)(e:m.fr≠[])(h:dm B O w mb en aC m):Calls prog 185 #[.po mb] w (jK B O w mb en aC (uB en aC m)):=by
 unfold uB
 cases a:m.fr with
 | nil=>exact absurd a e
 | cons f r =>
  simp only
  cases b:f.rest with
  | nil=>exact JS h a b λw' d=>QE i g a b (h.grow d)
  | cons o l=>exact NN h a b λw' v _ k j=>Vg c i g n a b k j
def VF(a:yH en)(j:WT aC S m)(e:S.length<=342)(g:aC<=50000)(h:dm B O w mb en aC m)(N:Nat)(d:fq en aC N m ≠ .stuck):Calls prog 173 #[.po mb] w (jK B O w mb en aC (fq en aC N m)) :=
 Sk (WT aC S) (λO' w' k f b c=>Us a b e g c f) (λk l b c i=>by have:=Fa a b e c;rw[i]at this;exact this.1) h j N d
end
set_option maxHeartbeats 1000000
def Za(w:cg)(a:bj)(n c:Nat):(binOp .eql 27 (.slice a n c) (.n0)).run prog w =.ok (.bool a.isNone) w:=by simp only[binOp];simp[Op.equal,Op.maxDepth,Lib.run_equalIn_slice_nil w 9999 27 29 a n c 0 0 underlying27]
attribute [local go_sem] Za
def IV (O:br) (W:cg) (l:ao) (e:Ending) (w':cg):Prop:=∃v us,e =.returned v/\nI O W w' v l us/\cq W w' none
def wB{O:br}{W:cg}{l:ao}{xv:cm}(h:Src O W l xv)(hn:l.length<=20000000):Calls prog 183 #[xv] W (IV O W l):=by
 have⟨n,s,e,f⟩:=h;have d:=lL (mO e f);rw[e]at d s;rcases s with⟨c,rfl,h0,z⟩|⟨p,c,rfl,a⟩
 .have y:l=[]:=jz h0;subst y;have t:Hid (IV O W [] (.returned (.n0)) W):=⟨_,[],rfl,⟨jd5 _ _ _ _,rfl,λi x u h=>by simp at h⟩,au _ _⟩;clear d f;go_enter func183,ntmps183;go_wp2;go_ret;exact t.out
 .have b:=Lf.gb (w:=W) (.cells #[] 29);have HB:=jh (xF W (.cells #[] 29));have j:Hid (nI O W (W.alloc (.cells #[] 29)) (.o (W.heap.size) 0 0) [] []):=⟨⟨rfl,.inr ⟨W.heap.size,0,#[],rfl,jj _,HB.out,jj _,yv _,rfl,rfl⟩⟩,rfl,λi x u h=>by simp at h⟩;have v:Hid (gZ (W.alloc (.cells #[] 29)) (.slice (some p) l.length c) l.length (flat n)):=gZ.grow (.inr ⟨p,c,rfl,a⟩) b;have o:=jh b;have m:=jh f;clear a b f;go_enter func183,ntmps183;go_wp2_with (at_builtin;refine ed rfl _ _ 27 rfl W.heap.size 29 underlying27 mr rfl ot _ ([]:bo).length (flat []) rfl j.out.own _ l.length (flat n) rfl d.1 v.out d.2 US (by simp only[qa1];omega) o.out.size ?_;intro r w' q b _;have g:=jh (dX o.out j.out.own (jj _) b.1);have k:=jh (j.out.more (v':=r) (w':=w') (l2:=l) (ns:=n) (by unfold dF;rw[bV,jx,e];exact q) e m.out);clear q b);go_ret;exact⟨_,_,rfl,by simpa using k.out,g.out⟩
def L9 (w:cg) (g o:Nat) (c0 c1 c2 c3 c4 c5 c6:cm):cg:=((((((w.setCell ⟨g,o,none⟩ c0).setCell ⟨g,o+1,none⟩ c1).setCell ⟨g,o+2,none⟩ c2).setCell ⟨g,o+3,none⟩ c3).setCell ⟨g,o+4,none⟩ c4).setCell ⟨g,o+5,none⟩ c5).setCell ⟨g,o+6,none⟩ c6
def Dy(a b c2 d f g j:cm):∀(us:bo),(∀u∈us,(nodeCells u).length=7)->∀i,i<us.length->flat (us.set i (.agg #[a,b,c2,d,f,g,j]))=(((((((flat us).set (i*7) a).set (i*7+1) b).set (i*7+2) c2).set (i*7+3) d).set (i*7+4) f).set (i*7+5) g).set (i*7+6) j
 | [],_,i,h=>by simp at h
 | x::us,m,0,_=>by
  have n:=m x oe
  match p:nodeCells x,n with
  | [s,t,v,w,y,z,A],_ =>
   show nodeCells (.agg #[a,b,c2,d,f,g,j])++flat us=_;rw[show flat (x::us)=nodeCells x++flat us from rfl,p];rfl
 | x::us,m,i+1,h=>by
  have n:=m x oe;have r:=Dy a b c2 d f g j us (λu q=>m u (by simp[q])) i (by simpa using h);have e:∀(l:bo) (k:Nat) (c:cm),(nodeCells x++l).set ((i+1)*7+k) c=nodeCells x++l.set (i*7+k) c:=λl k c=>by rw[jf1 _ _ od,n,show (i+1)*7+k - 7=i*7+k by omega]
  have o:∀(l:bo) (c:cm),(nodeCells x++l).set ((i+1)*7) c=nodeCells x++l.set (i*7) c:=λl c=>by have:=e l 0 c;simpa using this
  rw[xT,show flat (x::us.set i (.agg #[a,b,c2,d,f,g,j]))=nodeCells x++flat (us.set i (.agg #[a,b,c2,d,f,g,j])) from rfl,r,show flat (x::us)=nodeCells x++flat us from rfl,o,e,e,e,e,e,e]
def Hr{B:Nat}{w:cg}{g cap:Nat}{us:bo}(h:dF B w (.o g us.length cap) us)(v:∀u∈us,(nodeCells u).length=7)(i:Nat)(hi:i<us.length)(a b c2 c d e f:cm) :
 dF B (L9 w g (i*7) a b c2 c d e f) (.o g us.length cap) (us.set i (.agg #[a,b,c2,c,d,e,f]))/\cq w (L9 w g (i*7) a b c2 c d e f) (some g):=by
 unfold dF at h|-;rw[Dy _ _ _ _ _ _ _ us v i hi,je2];have⟨o,g1⟩:=h.stored (i*7) a;have⟨p,g2⟩:=o.stored (i*7+1) b;have⟨q,j⟩:=p.stored (i*7+2) c2;have⟨r,k⟩:=q.stored (i*7+3) c;have⟨s,l⟩:=r.stored (i*7+4) d;have⟨t,m⟩:=s.stored (i*7+5) e;have⟨x,n⟩:=t.stored (i*7+6) f;exact⟨x,bZ (bZ (bZ (bZ (bZ (bZ g1 g2) j) k) l) m) n⟩
def zK (us:bo) (q:Nat) (vs:bo):Prop:=vs.length=us.length/\2*q<=us.length/\∀k,k<us.length->vs[k]?=if k<q\/us.length - 1 - q<k then us[us.length - 1 - k]? else us[k]?
def zK.step{us vs:bo}{q:Nat}(h:zK us q vs)(o:q<us.length - 1 - q){a b:cm}(i:vs[q]?=some a)(hb:vs[us.length - 1 - q]?=some b):zK us (q+1) ((vs.set q b).set (us.length - 1 - q) a):=by
 have⟨f,n,c⟩:=h;refine⟨by simp[f],od,λk j=>?_⟩;have d:=c q od;have e:=c (us.length - 1 - q) od;rw[oa,i]at d;rw[oa,hb]at e
 by_cases l:k=us.length - 1 - q
 .subst l;rw[ja7 (by simp[f];omega),oc,show us.length - 1 - (us.length - 1 - q)=q by omega,d]
 .rw[qf5 od]
  by_cases m:k=q
  .subst m;rw[ja7 od,oc,e]
  .rw[qf5 od,c k j]
   by_cases g:k<q\/us.length - 1 - q<k
   .rw[if_pos g,oc]
   .rw[if_neg g,oa]
def zK.done{us vs:bo}{q:Nat}(h:zK us q vs)(e:¬q<us.length - 1 - q):vs=us.reverse:=by
 have⟨c,d,b⟩:=h;refine List.ext_getElem? λk=>?_
 by_cases a:k<us.length
 .rw[b k a,List.getElem?_reverse a];split
  .rfl
  .rw[show us.length - 1 - k=k by omega]
 .rw[List.getElem?_eq_none od,List.getElem?_eq_none ov]
def zK.mem{us vs:bo}{q:Nat}(h:zK us q vs):∀u∈vs,u∈us:=λu b=>by
 obtain⟨k,a,rfl⟩:=qc5 b;have:=h.2.2 k (by rw[<-h.1];exact a);rw[qu a]at this;split at this
 .exact ka this.symm
 .exact ka this.symm
def BM{B:Nat}{w:cg}{g cap:Nat}{us:bo}{n:Nat}(m:dF B w (.o g n cap) us)(k:∀u∈us,(nodeCells u).length=7)(i:Nat){b c c2 d e f h:cm}(o:us[i]?=some (.agg #[b,c,c2,d,e,f,h])) :
 (w.cell? ⟨g,i*7,none⟩=some b/\w.cell? ⟨g,i*7+1,none⟩=some c/\w.cell? ⟨g,i*7+2,none⟩=some c2/\w.cell? ⟨g,i*7+3,none⟩=some d/\w.cell? ⟨g,i*7+4,none⟩=some e/\w.cell? ⟨g,i*7+5,none⟩=some f/\w.cell? ⟨g,i*7+6,none⟩=some h):=by
 have a:∀j x,j<7->(nodeCells (.agg #[b,c,c2,d,e,f,h]))[j]?=some x->w.cell? ⟨g,i*7+j,none⟩=some x:=λj x l p=>by have:=qd7 m (g:=g) rfl (i*7+j) x (by rw[flatV_get us k i j _ o l];exact p);rw[gI,qb1]at this;exact this
 exact⟨a 0 _ od rfl,a 1 _ od rfl,a 2 _ od rfl,a 3 _ od rfl,a 4 _ od rfl,a 5 _ od rfl,a 6 _ od rfl⟩
def WO (B:Nat) (W:cg) (g:Nat) (v:cm) (us:bo) (e:Ending) (w':cg):Prop:=e =.returned (.tuple #[])/\dF B w' v us.reverse/\cq W w' (some g)
def Ih{B:Nat}{W:cg}{g cap:Nat}{us:bo}(ho:dF B W (.o g us.length cap) us)(h7:∀u∈us,∃k n a s aa al ac ta tl tc na nl nc,u=bg k n a s aa al ac ta tl tc na nl nc)(hn:us.length<=20000000) :
 Calls prog 184 #[.o g us.length cap] W (WO B W g (.o g us.length cap) us):=by
 have G:∀u∈us,(nodeCells u).length=7:=λu x=>by obtain⟨k,n,a,s,aa,al,ac,ta,tl,tc,na,nl,nc,rfl⟩:=h7 u x;rfl
 by_cases h0:us.length=0
 .have x:us=[]:=jz h0;subst x;have HP:Hid (WO B W g (.o g ([]:bo).length cap) [] (.returned (.tuple #[])) W):=⟨rfl,ho,au _ _⟩;clear ho h7 G;simp only[qa1]at HP|-;go_enter func184,ntmps184;go_wp2_with fail;refine wp_loop_rounds 1 ?_;rw[rounds_succ];go_wp2_with fail;refine jb3 (v:=.tuple #[]) Ys rfl ?_;exact HP
 .have HO:=jh ho;have H7:=jh h7;have ad:=jh G;have HN:=jh hn;have aj:=jh h0;have⟨N,hN⟩:∃N:Nat,N=us.length:=⟨_,rfl⟩;have w:=jh hN;rw[<-hN];have an:(N:Int)<=20000000:=by omega
  have ak:(0:Int)<(N:Int):=od
  clear ho h7 G hn h0 hN;go_enter func184,ntmps184;go_wp2_with fail;go_loopw [2,3] (λiv jv wr=>∃(q p:Nat) (b:bo),iv =.i (q:Nat)/\jv =.i (p:Nat)/\p=N - 1 - q/\zK us q b/\dF B wr (.o g N cap) b/\cq W wr (some g)) (λiv _ _=>N - (intOf iv).toNat)
  case atStart=>exact⟨0,N - 1,us,rfl,by go_num,od,⟨rfl,od,λk hk=>by rw[oa]⟩,by have:=HO.out;rw[<-w.out]at this;exact this,au _ _⟩
  case round =>
   obtain⟨q,p,b,rfl,rfl,Z,z,y,hG⟩:=hrel;have c:b.length=N:=z.1.trans w.symm;have F:=z.2.1;rw[<-w.out]at F
   by_cases H:q<p
   .have I:∀u∈b,∃k n a s aa al ac ta tl tc na nl nc,u=bg k n a s aa al ac ta tl tc na nl nc:=λu x=>H7 u (z.mem u x);have d:∀u∈b,(nodeCells u).length=7:=λu x=>ad u (z.mem u x);have⟨k1,n1,a1,s1,C,E,D,M,fE,O,J,L,K,e1⟩:=I b[q] (yy od);have⟨Q,R,P,S,f,jX,h,r,sM,t,l,o,m,e2⟩:=I b[p] (yy od);have g1:b[q]?=some (bg k1 n1 a1 s1 C E D M fE O J L K):=by rw[qu od,e1]
    have g2:b[p]?=some (bg Q R P S f jX h r sM t l o m):=by rw[qu od,e2]
    have CA:=BM y d q g1;have CB:=BM y d p g2;have ah:=λj=>jb7 (by unfold dF at y;rw[c]at y;exact y) j;have d1:(q:Int)<(N:Int):=od
    have d2:(p:Int)<(N:Int):=od
    have d3:(q:Int)<(p:Int):=od
    have⟨HR,V,HG,X,HL,HP,ae,G1,G2⟩:=wq z y hG d c Z H g1 g2;clear z y hG I d c Z H g1 g2 e1 e2 F;go_wp2_with fail;have Y:dF B wr (.o g b.length cap) b:=by rw[HL.out];exact V
    have⟨o1,y1⟩:=Hr Y X q (by rw[HL.out];omega) (.i Q) (.i R) (.i P) (.string S) (.slice f jX h) (.slice r sM t) (.slice l o m);have ab:dF B (L9 wr g (q*7) (.i Q) (.i R) (.i P) (.string S) (.slice f jX h) (.slice r sM t) (.slice l o m)) (.o g (b.set q (bg Q R P S f jX h r sM t l o m)).length cap) (b.set q (bg Q R P S f jX h r sM t l o m)):=by rw[je2];exact o1
    have⟨o2,y2⟩:=Hr ab (λu x=>by rcases List.mem_or_eq_of_mem_set x with x|rfl;exact X u x;rfl) p (by rw[je2,HL.out];omega) (.i k1) (.i n1) (.i a1) (.string s1) (.slice C E D) (.slice M fE O) (.slice J L K);have A:=jh o2;have HY:=jh (bZ y1 y2);clear Y o1 ab o2 y1 y2
    go_big_region
    unfold L9 at A HY;have T:=jh (aK (bZ HG HY));have U:=jh (qd6 (row:=none) A (aK (au _ _)) (.inr Of));clear HY A CA CB ah V HG;generalize (World.drew _)=wz at T U|-;go_wp2;go_roundw
    case rel =>
     have Z:=HP.out;have H:=ae.out;have e:us.length=N:=w.out.symm;refine⟨q+1,p - 1,(b.set q (bg Q R P S f jX h r sM t l o m)).set p (bg k1 n1 a1 s1 C E D M fE O J L K),by go_num,by go_num,od,?_,?_,T⟩
     .have:=HR.out.step (by rw[e];omega) G1 (by rw[e,<-Z];exact G2);rw[e,<-Z]at this;exact this
     .have:=U.out;unfold dF;rw[je2,HL.out]at this;exact this
    case measure=>simp[intOf];omega
   .have d3:¬(q:Int)<(p:Int):=by omega
    have hD:=z.done (by rw[<-w.out];omega);subst hD;have HE:Hid (WO B W g (.o g N cap) us (.returned (.tuple #[])) wr):=⟨rfl,y,hG⟩;clear z y hG c F;go_wp2_with fail;refine jb3 (v:=.tuple #[]) Ys rfl ?_;exact HE
def reverse_nil{W:cg}{Q:Ending->cg->Prop}(a:Q (.returned (.tuple #[])) W):Calls prog 184 #[.n0] W Q:=by have b:=jh a;clear a;go_enter func184,ntmps184;go_wp2_with fail;refine wp_loop_rounds 1 ?_;rw[rounds_succ];go_wp2_with fail;refine jb3 (v:=.tuple #[]) Ys rfl ?_;exact b
def Cy{O:br}{W:cg}{l:ao}{xv:cm}(h:Src O W l xv)(hn:l.length<=20000000):Calls prog 171 #[xv] W (IV O W l.reverse):=by
 have z:=jh (wB h hn);have A:=jh hn;have⟨J,y,r,K⟩:=h;have m:∃a c,xv =.slice a l.length c:=by
  rcases y with⟨c,e,h,_⟩|⟨C,c,e,_⟩
  .exact⟨none,c,by rw[e,<-r,h]⟩
  .exact⟨some C,c,by rw[e,r]⟩
 obtain⟨a,c,rfl⟩:=m;clear y r K hn;go_enter func171,ntmps171;go_wp2_with ((go_at_call 183;(with_reducible refine z.out.mono ?_);rintro e L ⟨v,w,rfl,hK,t⟩;have f:=jh hK;have s:=jh t;clear t hK));have b:=f.out.own;have d:=f.out.len;rcases b.2 with⟨rfl,h0⟩|⟨g,D,E,rfl,F,I,G⟩
 .have n:w=[]:=jz h0;subst n;have q:l=[]:=jz (by simpa using d.symm);subst q;go_wp2_with ((go_at_call 184;(with_reducible refine reverse_nil ?_)));go_ret;exact⟨_,_,rfl,f.out,s.out⟩
 .have B:=jh (Ih b (mO d f.out.lies) (by rw[d];exact A.out));have HB:=jh F;clear b I G;go_wp2_with ((go_at_call 184;(with_reducible refine B.out.mono ?_);rintro e M ⟨rfl,j,k⟩;have p:=jh j;have o:=jh (aG s.out k HB.out);clear j k));go_ret;refine⟨_,w.reverse,rfl,⟨by have h:=p.out;rw[d]at h;exact h,by simp[d],λi x u m n=>?_⟩,o.out⟩;have H:i<l.length:=by have:=(qT.1 m).1;simpa using this
  rw[List.getElem?_reverse H]at m;rw[List.getElem?_reverse od,d]at n;exact f.lies _ x u m n
def Y9(w:cg)(a:bj)(n c:Nat):(binOp .eql 23 (.slice a n c) (.n0)).run prog w =.ok (.bool a.isNone) w:=by simp only[binOp];simp[Op.equal,Op.maxDepth,Lib.run_equalIn_slice_nil w 9999 23 25 a n c 0 0 underlying23]
attribute [local go_sem] Y9
def XY (W:cg) (l:aw) (e:Ending) (w':cg):Prop:=∃v us,e =.returned v/\vN (λ_=>True) W w' v l us/\cq W w' none
def Jm{W:cg}{l:aw}{a:bj}{c:Nat}{V:bt}(h:dw (λ_=>True) W l a V)(hn:l.length<=20000000):Calls prog 192 #[.slice a l.length c] W (XY W l):=by
 have⟨m,p,n,s,v,q⟩:=h.Vf c
 cases a with
 | none =>
  have C:l=[]:=by
   cases l with
   | nil=>rfl
   | cons t l=>have⟨b,o,e,_⟩:=h.2.1 0 oe;cases e
  subst C;have A:Hid (XY W [] (.returned (.n0)) W):=⟨_,[],rfl,⟨jd5 _ _ _ _,rfl,λi x u h=>by simp at h⟩,au _ _⟩;clear h n p q s v;go_enter func192,ntmps192;go_wp2;go_ret;exact A.out
 | some D =>
  have d:=Lf.gb (w:=W) (.cells #[] 25);have HB:=jh (xF W (.cells #[] 25));have g:Hid (vN (λ_=>True) W (W.alloc (.cells #[] 25)) (.o (W.heap.size) 0 0) [] []):=⟨⟨rfl,.inr ⟨W.heap.size,0,#[],rfl,jj _,HB.out,jj _,yv _,rfl,rfl⟩⟩,rfl,λi x u h=>by simp at h⟩;have⟨B,r,k⟩:=JT (n.grow d) d q;clear h n q d;go_enter func192,ntmps192;go_wp2_with (at_builtin;refine ed rfl _ _ 23 rfl W.heap.size 25 underlying23 rO rfl ot _ ([]:bo).length (bX []) rfl g.out.own _ l.length (bX m) rfl s B.out v US (by simp only[qa1];omega) r.out.size ?_;intro z w' y d _;have f:=jh (dX r.out g.out.own (jj _) d.1);have j:=jh (g.out.more (v':=z) (w':=w') (us:=l) (ns:=m) (by unfold zQ;rw[dx,jx,p];exact y) p k.out);clear y d);go_ret;exact⟨_,_,rfl,by simpa using j.out,f.out⟩
def vN.slice{ok:br}{W w:cg}{v:cm}{ts:aw}{vs:bo}(h:vN ok W w v ts vs):∃a c,v =.slice a ts.length c:=by
 rcases h.own.2 with⟨rfl,h0⟩|⟨g,b,d,rfl,_⟩
 .exact⟨none,0,by rw[<-h.len,h0]⟩
 .exact⟨_,b,by rw[h.len]⟩
def Dw(t:Int)(a:bj)(l c:Nat)(a':bj)(d b:Nat):∀(us:bo),(∀u∈us,(tyCells u).length=2)->∀i,us[i]?=some (bY t a l c)->bX (us.set i (bY t a' d b))=(bX us).set (i*2+1) (.slice a' d b)
 | [],_,i,h=>by simp at h
 | x::us,e,0,h=>by simp only[kO,qq]at h;subst h;rfl
 | x::us,e,i+1,h=>by have g:=e x oe;have j:=Dw t a l c a' d b us (λu f=>e u (by simp[f])) i (by simpa using h);rw[xT,show bX (x::us.set i (bY t a' d b))=tyCells x++bX (us.set i (bY t a' d b)) from rfl,j,show bX (x::us)=tyCells x++bX us from rfl,jf1 _ _ od,g,show (i+1)*2+1 - 2=i*2+1 by omega]
def Sw (W:cg) (l:aw) (e:Ending) (w':cg):Prop:=∃a c V,e =.returned (.slice a l.length c)/\l.length<=c/\dw (W.heap.size <= ·) w' l a V/\cq W w' none
structure Ws (W w:cg) (g cap:Nat) (l:aw) (j:Nat) (us:bo):Prop where
 own:zQ W.heap.size w (.o g l.length cap) us
 len:us.length=l.length
 done:∀(i:Nat) (x:Ty) (u:cm),l[i]?=some x->us[i]?=some u->i<j->aH (λb=>W.heap.size<=b/\b≠g) w x u
 rest:∀(i:Nat) (x:Ty) (u:cm),l[i]?=some x->us[i]?=some u->j<=i->aH (λ_=>True) W x u
 gr:cq W w none
def Jq{W w:cg}{g cap:Nat}{l:aw}{us:bo}(h:Ws W w g cap l l.length us)(hm:l.length<=maxLen):Sw W l (.returned (.o g l.length cap)) w:=by have m:aag W.heap.size w (.o g l.length cap) l us:=⟨h.own,h.len,λi x u f n=>(h.done i x u f n (qT.1 f).1).ae λb _ d=>⟨d.1,by simp[Value.ownBlock];exact d.2⟩⟩;have⟨a,c,V,e,j,k⟩:=m.done;exact⟨a,c,V,by rw[e],qP h.own e,⟨hm,j,k⟩,h.gr⟩
def copiedT_any:∀(N:Nat) {W:cg}{l:aw}{a:bj}{c:Nat}{V:bt},tysizes l<N->N<=20000000->dw (λ_=>True) W l a V->Calls prog 186 #[.slice a l.length c] W (Sw W l):=λN=>by
 induction N with
 | zero=>intro W l a c V Z;exact absurd Z (Nat.not_lt_zero _)
 | succ N ih =>
  intro W l a c V Z bq h;have bh:l.length<=tysizes l:=pW l;have HC:=jh (Jm (c:=c) h od);have ah:Hid (∀{W:cg} {l:aw} {a:bj} {c:Nat} {V:bt},tysizes l<N->dw (λ_=>True) W l a V->Calls prog 186 #[.slice a l.length c] W (Sw W l)):=λh1 M=>ih h1 od M;have HN:=jh Z;have ca:(l.length:Int)<=20000000:=od
  have an:Hid (l.length<=maxLen):=h.1;clear h ih Z bh;go_enter func186,ntmps186;go_wp2_with ((go_at_call 192;(with_reducible refine HC.out.mono ?_);rintro e w1 ⟨v,H,rfl,hK,hg⟩;obtain⟨a2,c2,rfl⟩:=hK.slice;have X:=jh hK;have HG:=jh hg;clear hg hK));have d:=X.out.own;have S:=X.out.len;rcases d.2 with⟨L,h0⟩|⟨g,bl,bn,L,q,hq,hc⟩
  .simp only[ye]at L;obtain⟨rfl,A,rfl⟩:=L;clear A;have m:H=[]:=jz h0;subst m;have bc:l=[]:=jz (by simpa using S.symm);subst bc;clear d S h0;simp only[qa1];refine wp_loop_rounds 1 ?_;rw[rounds_succ];go_wp2;go_ret;exact⟨none,0,λ_=>.i 0,rfl,jj _,dw.nil _ _ _ _,HG⟩
  .simp only[ye]at L;obtain⟨rfl,A,rfl⟩:=L;clear A;have HB:=jh q;have ad:Hid (Ws W w1 g c2 l 0 H):=⟨d,S,λi x u _ _ h=>od,λi x u w m _=>X.lies i x u w m,HG⟩;have HL:=jh S;clear d hq hc q S X;go_loopw [8] (λiv wr=>∃(j:Nat) (H:bo),j<=l.length/\iv =.i j/\Ws W wr g c2 l j H) (λiv _=>l.length - (intOf iv).toNat)
   case atStart=>exact⟨0,H,yv _,rfl,ad⟩
   case round =>
    obtain⟨j,p,hj,rfl,k⟩:=hrel
    by_cases f:j<l.length
    .have D:j<p.length:=by rw[k.len];exact f
     have B:=k.rest j l[j] p[j] (qu f) (qu D) (jj _);have n:=yy f;have F:=qu f;generalize l[j]=x at B n F;have⟨t,az⟩:=x;have⟨Y,K,Vj,ev,it,C⟩:=B.inv;simp only[Ty.t,Ty.args]at ev it C;have E:p[j]?=some (bY t Y az.length K):=by rw[qu D,ev]
     have M:∀u∈p,(tyCells u).length=2:=λu m=>by
      obtain⟨i,Q,rfl⟩:=qc5 m;have R:i<l.length:=by rw[<-k.len];exact Q
      by_cases ba:i<j
      .have⟨_,_,_,e,_⟩:=(k.done i l[i] p[i] (qu R) (qu Q) ba).inv;rw[e];rfl
      .have⟨_,_,_,e,_⟩:=(k.rest i l[i] p[i] (qu R) (qu Q) od).inv;rw[e];rfl
     have d:zQ W.heap.size wr (.o g p.length c2) p:=by rw[k.len];exact k.own
     have bx:g<wr.heap.size:=(qb5 d g rfl).2;have cc:wr.cell? ⟨g,j*2+1,none⟩=some (.slice Y az.length K):=by have:=qd7 d (g:=g) rfl (j*2+1) (.slice Y az.length K) (by rw[flatT_get p M j 1 _ E od];rfl);rw[gI,qb1]at this;exact this
     have ar:Hid (tysizes az<N):=by have h1:=jS n;have h3:=HN.out;exact (by simp only[Ty.size]at h1;omega:tysizes az<N)
     have I:=jh (ah (c:=K) ar ((C.ae (λ_ _ _=>trivial)).same (sameAll k.gr)));have d1:(j:Int)<(l.length:Int):=od
     have d2:(j:Int)<(H.length:Int):=by rw[HL.out];exact d1
     have⟨HI,J,ax,H2,aC,ak⟩:=wg k d E M F it;have aa:Hid (W.heap.size<=g):=HB.out;clear k d E M F it C n B;go_wp2_with ((go_at_call 186;(with_reducible refine I.out.mono ?_);rintro e U ⟨z,G,V3,rfl,P,O,r⟩;have bm:=oG r cc;have fz:=jb7 (qd6 J.out r (.inr Of)) (j*2+1);have aq:=jh O;have ab:=jh P;have y:=jh r;clear O r P I));go_roundw
     case rel =>
      have s:cq U (U.setCell ⟨g,j*2+1,none⟩ (.slice z az.length G)) (some g):=aX (au _ _) _ _ _;have T:Same (λb=>b≠g) U (U.setCell ⟨g,j*2+1,none⟩ (.slice z az.length G)):=λb o q f=>ke (s.block b f (by simpa using q));have k:=HI.out;have aO:=aa.out;have bk:=qd6 J y (.inr Of);refine⟨j+1,p.set j (bY t z az.length G),od,by go_num,⟨?_,by simp[k.len],λi x u w m Q=>?_,λi x u w m Q=>?_,aG (Lf.Zt k.gr y) s aO⟩⟩
      .unfold zQ;have:=(bk.stored (j*2+1) (.slice z az.length G)).1;rw[je2,Dw t Y az.length K z az.length G p H2.out j ax.out,<-k.len];exact this
      .by_cases e:i=j
       .subst e;rw[aC.out]at w;simp only[qq]at w;subst w;rw[ja7 D]at m;simp only[qq]at m;subst m;have h3:dw (λb=>W.heap.size<=b/\b≠g) (U.setCell ⟨g,i*2+1,none⟩ (.slice z az.length G)) az z V3:=(aq.out.ae (λb _ q=>⟨xo k.gr.size q,od⟩)).same (λb o q f=>T b o q.2 f);exact aH.of ak h3 ab
       .rw[qf5 od]at m;exact ((k.done i x u w m od).same (λb o _ f=>sameAll y b o trivial f)).same (λb o q f=>T b o q.2 f)
      .rw[qf5 od]at m;exact k.rest i x u w m od
     case measure=>simp[intOf];omega
    .have bb:j=l.length:=by omega
     subst bb;have d1:¬(l.length:Int)<(l.length:Int):=od
     have HE:=jh (Jq k an);clear k;go_wp2;go_ret;have h:=HE.out
     first|exact h|(rw[<-HL.out]at h;exact h)
def tH (N:br) (M:Nat->Option ao) (w:cg) (x:Va) (u:cm):Prop:=∃aa ac ta tc na nc VT VN,u=bg x.k x.n x.a x.s aa x.args.length ac ta x.types.length tc na x.code.length nc/\(bD x.k/\bD x.n/\bD x.a/\x.s.size<=maxLen)/\(x.args.length<=ac/\x.args.length<=maxLen/\x.types.length<=tc/\x.code.length<=nc) /\
 dw (λb=>M b=none/\N b) w x.types ta VT/\cK (λb=>M b=none/\N b) w x.code na VN/\((∃VA,aT (λb=>M b=none/\N b) w x.args aa VA)\/∃g,aa=some ⟨g,0,none⟩/\M g=some x.args/\x.args≠[])
def tH.mono{N c:br}{M:Nat->Option ao}{w:cg}{x:Va}{u:cm}(h:tH N M w x u)(a:∀b,N b->c b):tH c M w x u:=by have⟨g,i,ta,r,p,q,f,e,o,j,k,n,m,l⟩:=h;exact⟨g,i,ta,r,p,q,f,e,o,j,k,n.ae λb _ h=>⟨h.1,a b h.2⟩,m.ae λb _ h=>⟨h.1,a b h.2⟩,l.imp (λ⟨d,h⟩=>⟨d,h.ae λb _ h=>⟨h.1,a b h.2⟩⟩) id⟩
structure jZ (W w:cg) (M:Nat->Option ao) (P:Nat->Nat):Prop where
 rows:∀g xs,M g=some xs->xs≠[]->W.heap.size<=g/\xs.length<=maxLen/\∃us cap,dF W.heap.size w (.o g xs.length cap) us/\us.length=xs.length/\∀(i:Nat) (x:Va) (u:cm),xs[i]?=some x->us[i]?=some u->tH (λb=>P g<=i\/W.heap.size<=b) M w x u/\(P g<=i->aA (λb=>M b=none) w x u)
 gr:cq W w none
 lt:∀g xs,M g=some xs->g<w.heap.size
def Et{x:Va} : ∀{l:ao},x∈l->x.size<=vsizes l
 | y::l,h=>by
  simp only[vsizes];rcases kl.1 h with rfl|h
  .omega
  .have:=Et h;omega
def Dn (M:Nat->Option ao) (P:Nat->Nat) (X:br):Prop:=∀g xs,M g=some xs->xs≠[]->X g\/xs.length<=P g
def Kj{W w:cg}{M:Nat->Option ao}{P:Nat->Nat}(hR:jZ W w M P)(hD:Dn M P λ_=>False):∀(N:Nat) (x:Va) (u:cm),x.size<=N->tH (W.heap.size <= ·) M w x u->aA (W.heap.size <= ·) w x u:=λN=>by
 induction N with
 | zero=>intro x u hx;have:=eP x;omega
 | succ N ih =>
  intro x u hx ⟨aa,ac,ta,tc,na,nc,VT,VN,hu,h1,h2,hT,hN,hA⟩;have key:∃VA,aT (W.heap.size <= ·) w x.args aa VA:=by
   rcases hA with⟨VA,h⟩|⟨g,rfl,hg,hB⟩
   .exact⟨VA,h.ae λb _ h=>h.2⟩
   .have⟨hW,hm,us,cap,ho,hl,he⟩:=hR.rows g x.args hg hB;have⟨a,c,V,e,_,h⟩:=uG (ok:=(W.heap.size <= ·)) ho hl (λi y v hy hv=>ih y v (by
     have h3:=Et (ka hy);have⟨k,n,a,s,args,types,code⟩:=x;simp only[Va.size,Va.args]at hx h3;omega) ((he i y v hy hv).1.mono λb hb=>by
     rcases hb with hb|hb
     .have:=(hD g _ hg hB).resolve_left id;have:=(qT.1 hy).1;omega
     .exact hb)) (λb e=>by simp only[Value.ownBlock,qq]at e;subst e;exact hW) hm
    simp only[ye]at e;obtain⟨rfl,_⟩:=e;exact⟨V,h⟩
  have⟨VA,hV⟩:=key;rw[hu];have⟨k,n,a,s,args,types,code⟩:=x;exact aA.mk (hnk:=⟨h2.2.2.2,h2.2.2.1⟩) VA VT VN hV.1 h2.1 h1.2.2.2 h1.1 h1.2.1 h1.2.2.1 (hT.ae λb _ h=>h.2) (hN.ae λb _ h=>h.2) hV.2.1 hV.2.2
def tH.of{N:br}{M:Nat->Option ao}{w:cg}{x:Va}{u:cm}(h:aA (λb=>M b=none) w x u)(c:∀b,N b):tH N M w x u:=by
 cases h with
 | mk V g f e d m p n o j i k l =>
  rename_i a;exact⟨_,_,_,_,_,_,g,f,rfl,⟨p,n,o,m⟩,⟨d,e,a.2,a.1⟩,j.ae λb _ h=>⟨h,c b⟩,i.ae λb _ h=>⟨h,c b⟩,.inl ⟨V,(show aT (λb=>M b=none) w _ _ V from ⟨e,k,l⟩).ae λb _ h=>⟨h,c b⟩⟩⟩
def tH.move{N:br}{M c:Nat->Option ao}{w w':cg}{x:Va}{u:cm}(h:tH N M w x u)(t:∀b,b<w.heap.size->M b=none->c b=none)(d:∀g xs,M g=some xs->c g=some xs)(A:∀b o,M b=none->b<w.heap.size->w'.cell? ⟨b,o,none⟩=w.cell? ⟨b,o,none⟩):tH N c w' x u:=by
 have⟨n,ac,ta,E,C,D,m,l,B,p,q,y,v,r⟩:=h;have a:Same (λb=>M b=none/\c b=none/\N b) w w':=λb o f i=>A b o f.1 i;have j:∀b,b<w.heap.size->M b=none/\N b->M b=none/\c b=none/\N b:=λb f h=>⟨h.1,t b f h.1,h.2⟩;refine⟨n,ac,ta,E,C,D,m,l,B,p,q,((y.ae j).same a).ae (λ_ _ h=>h.2),((v.ae j).same a).ae (λ_ _ h=>h.2),?_⟩;rcases r with⟨k,h⟩|⟨g,e,z,s⟩
 .exact .inl ⟨k,((h.ae j).same a).ae (λ_ _ h=>h.2)⟩
 .exact .inr ⟨g,e,d _ _ z,s⟩
def nU{M a:Nat->Option ao}{w w':cg}{x:Va}{u:cm}(h:aA (λb=>M b=none) w x u)(e:∀b,b<w.heap.size->M b=none->a b=none)(f:∀b o,M b=none->b<w.heap.size->w'.cell? ⟨b,o,none⟩=w.cell? ⟨b,o,none⟩):aA (λb=>a b=none) w' x u :=
 ((h.ae (ok':=λb=>M b=none/\a b=none) λb c h=>⟨h,e b c h⟩).same (λb o c d=>f b o c.1 d)).ae (λ_ _ h=>h.2)
def jZ.Qu{W w w':cg}{M:Nat->Option ao}{P:Nat->Nat}{t:Option Nat}(h:jZ W w M P)(a:cq w w' t)(f:∀b,t=some b->M b=some []/\W.heap.size<=b):jZ W w' M P :=
 ⟨λg j e k=>by
  have⟨s,v,B,c,A,z,m⟩:=h.rows g j e k;have n:∀b o,M b=none->b<w.heap.size->w'.cell? ⟨b,o,none⟩=w.cell? ⟨b,o,none⟩:=λb o l d=>ke (a.block b d (λe=>by rw[(f b e.symm).1]at l;cases l));exact⟨s,v,B,c,qd6 A a (.inr (λr=>by rw[(f g r.symm).1]at e;cases e;exact k rfl)),z,λi x u q p=>⟨(m i x u q p).1.move (λ_ _ h=>h) (λ_ _ h=>h) n,λy=>nU ((m i x u q p).2 y) (λ_ _ h=>h) n⟩⟩,by
  cases t with
  | none=>exact Lf.Zt h.gr a
  | some b=>exact aG h.gr a (f b rfl).2,λg j e=>kh (h.lt g j e) a.size⟩
def jZ.grow{W w w':cg}{M:Nat->Option ao}{P:Nat->Nat}(h:jZ W w M P)(a:cq w w' none):jZ W w' M P:=h.Qu a (λ_ e=>by cases e)
def jZ.aside{W w:cg}{M:Nat->Option ao}{P:Nat->Nat}{v:cg}{t:Nat}{o:Option Nat}(h:jZ W v M P)(c:cq v w o)(n:∀b,o=some b->M b=some []/\W.heap.size<=b)(p:v.heap.size<=t)(f:t<w.heap.size):jZ W w (λb=>if b=t then some []else M b) P:=by
 have q:∀b,b<v.heap.size->M b=none->(if b=t then some []else M b)=none:=λb l e=>by rw[oa];exact e
 have k:∀b a,M b=some a->(if b=t then some []else M b)=some a:=λb a e=>by rw[if_neg (by have:=h.lt b a e;omega)];exact e
 have s:∀b o,M b=none->b<v.heap.size->w.cell? ⟨b,o,none⟩=v.cell? ⟨b,o,none⟩:=λb o l m=>ke (c.block b m (λe=>by rw[(n b e.symm).1]at l;cases l));refine⟨λg a e j=>?_,(h.Qu c n).gr,λg a e=>?_⟩
 .split at e
  .cases e;exact absurd rfl j
  .have⟨p,f,E,A,D,C,r⟩:=h.rows g a e j;exact⟨p,f,E,A,qd6 D c (.inr (λd=>by rw[(n g d.symm).1]at e;cases e;exact j rfl)),C,λi x u z y=>⟨(r i x u z y).1.move q k s,λB=>nU ((r i x u z y).2 B) q s⟩⟩
 .split at e
  .rename_i d;rw[d];exact f
  .exact kh (h.lt g a e) c.size
def jZ.add{W w w':cg}{M:Nat->Option ao}{P:Nat->Nat}{l:ao}{g cap:Nat}{us:bo}(h:jZ W w M P)(hK:nI (λb=>M b≠none) w w' (.o g l.length cap) l us)(n:cq w w' none)(hm:l.length<=maxLen) :
 jZ W w' (λb=>if b=g then some l else M b) (λb=>if b=g then 0 else P b):=by
 have A:=(qb5 hK.own g rfl).1;have y:∀b,b<w.heap.size->M b=none->(if b=g then some l else M b)=none:=λb m e=>by rw[oa];exact e
 have z:∀b a,M b=some a->(if b=g then some l else M b)=some a:=λb a e=>by rw[if_neg (by have:=h.lt b a e;omega)];exact e
 have C:∀b o,M b=none->b<w.heap.size->w'.cell? ⟨b,o,none⟩=w.cell? ⟨b,o,none⟩:=λb o _ B=>ke (n.block b B oe);refine⟨λj a e F=>?_,Lf.Zt h.gr n,λj a e=>(by split at e;rename_i t;rw[t];exact (qb5 hK.own g rfl).2;exact kh (h.lt j a e) n.size)⟩;split at e
 .rename_i t;cases e;subst t;have k:∀(i:Nat) (x:Va) (u:cm),l[i]?=some x->us[i]?=some u->aA (λb=>(if b=j then some l else M b)=none) w' x u:=λi x u d c=>nU ((hK.lies i x u d c).ae (ok':=λb=>M b=none) λb _ m=>by simpa using m) y C;refine⟨xo h.gr.size A,hm,us,cap,?_,hK.len,λi x u d c=>⟨tH.of (k i x u d c) (λb=>.inl oe),λ_=>k i x u d c⟩⟩;have⟨v,E⟩:=hK.own;refine⟨v,E.imp id ?_⟩;rintro⟨q,p,s,e,m,r⟩;exact⟨q,p,s,e,xo h.gr.size m,r⟩
 .rename_i f;have⟨k,v,J,p,I,H,D⟩:=h.rows j a e F;refine⟨k,v,J,p,qd6 I n (.inr Of),H,λi x u d c=>⟨by have h:=(D i x u d c).1.move y z C;simpa[f]using h,λG=>nU ((D i x u d c).2 (by simpa[f]using G)) y C⟩⟩
def Dx(k n a:Int)(s:bp)(r:bj)(al t:Nat)(ta:bj)(tl tc:Nat)(na:bj)(v nc:Nat)(b:bj)(f d:Nat)(o:bj)(jJ p:Nat)(g:bj)(m j:Nat):∀(us:bo),(∀u∈us,(nodeCells u).length=7)->∀i,us[i]?=some (bg k n a s r al t ta tl tc na v nc) ->
 flat (us.set i (bg k n a s b f d o jJ p g m j))=(((flat us).set (i*7+4) (.slice b f d)).set (i*7+5) (.slice o jJ p)).set (i*7+6) (.slice g m j)
 | [],_,i,h=>by simp at h
 | x::us,q,0,h=>by simp only[kO,qq]at h;subst h;rfl
 | x::us,q,i+1,h=>by
  have y:=q x oe;have z:=Dx k n a s r al t ta tl tc na v nc b f d o jJ p g m j us (λu w=>q u (by simp[w])) i (by simpa using h);have e:∀(l:bo) (k:Nat) (c:cm),(nodeCells x++l).set ((i+1)*7+k) c=nodeCells x++l.set (i*7+k) c:=λl k c=>by rw[jf1 _ _ od,y,show (i+1)*7+k - 7=i*7+k by omega]
  rw[xT,show flat (x::us.set i (bg k n a s b f d o jJ p g m j))=nodeCells x++flat (us.set i (bg k n a s b f d o jJ p g m j)) from rfl,z,show flat (x::us)=nodeCells x++flat us from rfl,e,e,e]
def Wrote (B:Nat) (w wx:cg) (g i n:Nat) (x y z:cm):Prop:=cq w wx (some g)/\∀us cap,dF B w (.o g n cap) us->us.length=n->wx.ownsRow B 29 7 (.o g n cap) n ((((flat us).set (i*7+4) x).set (i*7+5) y).set (i*7+6) z)
def jZ.put{W w A:cg}{M:Nat->Option ao}{P:Nat->Nat}{g i:Nat}{xs:ao}{x:Va}{B ta na:bj}{ac tc nc:Nat}{VT VN:bt}(h:jZ W w M P)(J:M g=some xs)(hP:P g=i)(z:xs[i]?=some x)(hc:x.args.length<=ac/\x.types.length<=tc/\x.code.length<=nc)
 (hT:dw (λb=>M b=none/\W.heap.size<=b) A x.types ta VT) (hN:cK (λb=>M b=none/\W.heap.size<=b) A x.code na VN) (hw3:Wrote W.heap.size w A g i xs.length (.slice B x.args.length ac) (.slice ta x.types.length tc) (.slice na x.code.length nc)) (r:x.args=[]\/∃d,B=some ⟨d,0,none⟩/\M d=some x.args) :
 jZ W A M (λb=>if b=g then i+1 else P b):=by
 have⟨g1,g2,l,q,T,F,E⟩:=h.rows g xs J (λe=>by rw[e]at z;simp at z);have f:=hw3.1;have G:∀b o,M b=none->b<w.heap.size->A.cell? ⟨b,o,none⟩=w.cell? ⟨b,o,none⟩:=λb o D L=>ke (f.block b L (λe=>by cases e;rw[J]at D;cases D));have C:∀b,b<w.heap.size->M b=none->M b=none:=λ_ _ h=>h;have t:∀b p,M b=some p->M b=some p:=λ_ _ h=>h;have K:i<l.length:=by rw[F];exact (qT.1 z).1
 have h7:∀u∈l,(nodeCells u).length=7:=λu c=>by obtain⟨k,hk,rfl⟩:=qc5 c;have⟨_,_,_,_,_,_,_,_,e,_⟩:=(E k xs[k] l[k] (qu od) (qu hk)).1;rw[e];rfl
 have⟨H,I,R,S,O,Q,X,V,eu,k1,k2,_⟩:=(E i x l[i] z (qu K)).1;have N:l[i]?=some (bg x.k x.n x.a x.s H x.args.length I R x.types.length S O x.code.length Q):=by rw[qu K,eu]
 refine⟨λd p e hB=>?_,aG h.gr f g1,λd p e=>kh (h.lt d p e) f.size⟩
 by_cases j:d=g
 .subst j;rw[J]at e;cases e;refine⟨g1,g2,l.set i (bg x.k x.n x.a x.s B x.args.length ac ta x.types.length tc na x.code.length nc),q,?_,by simp[F],λk y u m c=>?_⟩
  .unfold dF at T|-;rw[je2,Dx _ _ _ _ _ _ _ _ _ _ _ _ _ _ _ _ _ _ _ _ _ _ l h7 i N,F];exact hw3.2 l q T F
  .by_cases Z:k=i
   .subst Z;rw[z]at m;cases m;rw[ja7 K]at c;cases c;refine⟨⟨B,ac,ta,tc,na,nc,VT,VN,rfl,k1,⟨hc.1,k2.2.1,hc.2.1,hc.2.2⟩,hT.ae λb _ h=>⟨h.1,.inr h.2⟩,hN.ae λb _ h=>⟨h.1,.inr h.2⟩,?_⟩,λv=>?_⟩
    .by_cases h0:x.args=[]
     .exact .inl ⟨λ_=>.i 0,by rw[h0];exact aT.nil _ _ _ _⟩
     rcases r with r|⟨d,r,hA2⟩
     .exact .inl ⟨λ_=>.i 0,by rw[r];exact aT.nil _ _ _ _⟩
     .exact .inr ⟨d,r,hA2,h0⟩
    .simp at v;omega
   .rw[qf5 od]at c;exact⟨((E k y u m c).1.move C t G).mono (λb D=>D.imp (λh=>ov) id),λv=>nU ((E k y u m c).2 (by simp at v;omega)) C G⟩
 .have⟨q1,q2,vs,Y,qo,ql,U⟩:=h.rows d p e hB;exact⟨q1,q2,vs,Y,qd6 qo f (.inr (by simp[Value.ownBlock];exact j)),ql,λk y u m c=>⟨by have h:=(U k y u m c).1.move C t G;simpa[j]using h,λv=>nU ((U k y u m c).2 (by simpa[j]using v)) C G⟩⟩
def jZ.none(ok:br)[DecidablePred ok](W:cg):jZ W W (λb=>if ok b\/W.heap.size<=b then Option.none else some []) (λ_=>0):=⟨λg c e a=>(by split at e;cases e;cases e;exact absurd rfl a),au _ _,λg c e=>(by split at e;cases e;omega)⟩
