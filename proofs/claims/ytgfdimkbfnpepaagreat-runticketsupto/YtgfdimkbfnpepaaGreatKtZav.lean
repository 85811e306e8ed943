import Derived.Test.YtgfdimkbfnpepaaGreatKtZau
import Derived.WalkSpells
namespace Go.Proofs.YtgfdimkbfnpepaaGreat
set_option linter.all false
open Go.Proofs.Tryz
open Pe
def Gv{α:Type} : ∀(n:Nat) (l:List α),n<=l.length->xw n l=some (l.drop n)
 | 0,l,_=>rfl
 | n+1,x::l,h=>by rw[xw,Gv n l (by simpa using h)];rfl
 | n+1,[],h=>by simp at h
def Iw{α:Type} : ∀(n:Nat) (l:List α),n<=l.length->nH n l=some (l.take n)
 | 0,l,_=>by simp[nH]
 | n+1,x::l,h=>by rw[nH,Iw n l (by simpa using h)];rfl
 | n+1,[],h=>by simp at h
section
variable {l:an}{x y:Va}
def atF_le:kz l x<=l.length:=(List.takeWhile_sublist _).length_le
def GA(h:fJ l x):kz l x+1<=l.length:=by
 unfold fJ at h;split at h
 .rename_i y a;exact (qv.1 a).1
 .cases h
def Qh{n:Nat}(h:n<=l.length):qA 7 (vasD l) (some n) (some none)=some (.of (.one (.d (.s 7 (vasD (l.drop n)))))):=by show (xw n (vasD l)).map _=_;rw[Gv _ _ (by simpa[vasD_map]using h)];simp[vasD_map,List.map_drop]
def full_of{n:Nat}(h:n<=l.length):(if 7=7/\n=n then (nH n (vasD l)).map (λr=>AV.of (.one (.f 7 r)))else none)=some (AV.of (.one (.f 7 (vasD (l.take n))))):=by rw[if_pos ⟨rfl,rfl⟩,Iw _ _ (by simpa[vasD_map]using h)];simp[vasD_map,List.map_take]
def CE (x:Va) (bh ah:A1) (it:an) (i:Int):St:=[((0,4),.of (.one (.p 4 0))),((5,0),.of (.one (.d (.v (.i x.k))))),((5,1),.of (.one (.d (.v (.i x.n))))),((5,2),.of (.one (.d (.v (.i x.a))))),((5,3),.of (.one (.d (.v (.string x.s))))),((5,4),.of (.one (.d (.s 7 (vasD x.args))))),((5,5),.of (.one (.d (.s 2 (tysD x.types))))),((5,6),.of (.one (.d (.s 5 (ndsD x.code))))),
 ((0,9),.of bh),((0,10),.of ah),((0,31),.of (qi it)),((0,32),lW it.length),((0,33),lW i)]
def KM (bh ah:A1):St:=[((0,9),.of bh),((0,10),.of ah)]
abbrev wT (l:an):A1:=.one (.d (.s 7 (vasD l)))
abbrev CP (l:an):A1:=.one (.f 7 (vasD l))
def OI(v u:an):vO prog f165.ntmps ⟨gF f165,CE x (wT v) (CP u) [] 0,2,KM (wT v) (CP u)⟩:=by have⟨k,n,i,z,r,t,d⟩:=x;exact xQ (e:=1) [] [] (ob:=[]) ot
def OJ(v u:an)(q:u.length<=20000000):vO prog f165.ntmps ⟨gF f165,CE x (wT v) (CP u) [y] 0,2,KM (wT v) (.one (.d (.s 7 (vasD u++[vaD (aY x y)]))))⟩:=by
 have⟨k,n,i,z,r,t,d⟩:=x;have⟨c,f,b,j,g,h,a⟩:=y;have l:vO prog f165.ntmps ⟨gF f165,CE (.mk k n i z r t d) (wT v) (.one (.d (.s 7 (vasD u++[vaD (aY (.mk k n i z r t d) (.mk c f b j g h a))])))) [.mk c f b j g h a] 1,2,KM (wT v) (.one (.d (.s 7 (vasD u++[vaD (aY (.mk k n i z r t d) (.mk c f b j g h a))]))))⟩:=xQ (e:=1) [] [] (ob:=[]) ot;have m:(vasD u).length=u.length:=Kd
 exact LG [] [⟨_,pX (.mk k n i z r t d) (.mk c f b j g h a)⟩] l (ob:=[(vasD u).length+(0+1)<=maxLen/\((vasD u).length+(0+1))*112<=140737488355328]) (λp o=>by rw[js.1 o,m];unfold maxLen;omega)
def Sj(u v:an):vasD (u++v)=vasD u++vasD v:=Kd
def u7{S:St}{q:Prop}(b:q){ps:List Prop}(h:∀p∈ps,p):∀p∈ps++(q::S.map (λx=>some x.2=some x.2)),p:=λp a=>by
 rcases xb.1 a with a|a
 .exact h p a
 .rcases zr.1 a with rfl|a
  .exact b
  .obtain⟨x,_,rfl⟩:=ud.1 a;rfl
def Mt{r:an}(M:okVs l)(P:okV x)(S:okVs r)(V:r.length<=1)(Y:vsizes l<=9000000)(T:risesF l):Hd ⟨165,[qi l,pF x,qi r],.of (qi (uO l x r))⟩:=by
 have c:=FN M P od T;have Z:=len_vsizes l;have R:=atF_le (l:=l) (x:=x);have K:=Qh (l:=l) R;have L:=full_of (l:=l) R;have X:okVs (l.take (kz l x)):=okVs_at.2 λy H=>okVs_at.1 M y (qe2 H);have Zg:∀q,okVs (l.drop q):=λq=>okVs_at.2 λy H=>okVs_at.1 M y (qh2 H);have N:(l.take (kz l x)).length<=20000000:=vc
 have Q:∀(u:an) (q:Nat),okVs u->u.length<=1->Hd ⟨163,[.one (.d (.s 1 [[.s 7 (vasD (l.take (kz l x)++u))],[.s 7 (vasD (l.drop q))]]))],.of (qi (l.take (kz l x)++u++l.drop q))⟩:=λu q hu W =>
  Da (m:=7) (n:=7) (.inl rfl) (.inl rfl) (by rw[qT,qc5,ka5];omega)
 have E:=λv=>OI (x:=x) v (l.take (kz l x));have F:=λv y=>OJ (x:=x) (y:=y) v (l.take (kz l x)) N;have I:fJ l x=false->uO l x r=l.take (kz l x)++r.map (aY x)++l.drop (kz l x):=λh=>by unfold uO;rw[h];simp
 have J:fJ l x->uO l x r=l.take (kz l x)++r.map (aY x)++l.drop (kz l x+1):=λh=>by unfold uO;rw[h];simp
 have D:fJ l x->some (lW (IntKind.i64.wrap (((kz l x:Nat):Int)+1)))=some (.of (iA ((kz l x+1:Nat):Int))):=λh=>by have:=GA h;rw[show ((kz l x:Nat):Int)+1=((kz l x+1:Nat):Int) by omega,YX _ od];rfl
 have G:fJ l x->_:=λh=>Qh (l:=l) (GA h);have O:∀y,okV y->okVs [aY x y]:=λy H=>⟨si P H,trivial⟩;generalize U:kz l x=A at *;rcases r with _|⟨y,_|⟨y2,r⟩⟩
 .have e:=λq=>Q [] q trivial ot;simp only[qd1]at e;simp only[jb3,qd1]at I J;have⟨k,n,i,z,a,t,d⟩:=x
  cases hF:fJ l (.mk k n i z a t d)with
  | false =>
   rw[I hF];rw[hF]at c;exact Ce func165 [(21,wT (l.drop A)),(30,CP (l.take A))] [⟨gF f165,CE (.mk k n i z a t d) (wT (l.drop A)) (CP (l.take A)) [] 0,2,KM (wT (l.drop A)) (CP (l.take A))⟩] (by intro q b;rw[js]at b;subst b;exact E _) [⟨_,c⟩,⟨_,e A⟩]
    (ob:=[qA 7 (vasD l) (some A) (some none)=some (.of (wT (l.drop A))),(if 7=7/\A=A then (nH A (vasD l)).map (λr=>AV.of (.one (.f 7 r)))else none)=some (AV.of (CP (l.take A)))]++((gF f165=gF f165)::(CE (.mk k n i z a t d) (wT (l.drop A)) (CP (l.take A)) [] 0).map (λx=>some x.2=some x.2))) (u7 rfl (al K (al L al0)))
  | true =>
   rw[J hF];rw[hF]at c;exact Ce func165 [(21,wT (l.drop A)),(25,iA ((A+1:Nat):Int)),(26,wT (l.drop (A+1))),(30,CP (l.take A))] [⟨gF f165,CE (.mk k n i z a t d) (wT (l.drop (A+1))) (CP (l.take A)) [] 0,2,KM (wT (l.drop (A+1))) (CP (l.take A))⟩] (by intro q b;rw[js]at b;subst b;exact E _) [⟨_,c⟩,⟨_,e (A+1)⟩]
    (ob:=[qA 7 (vasD l) (some A) (some none)=some (.of (wT (l.drop A))),some (lW (IntKind.i64.wrap (((A:Nat):Int)+1)))=some (.of (iA ((A+1:Nat):Int))),qA 7 (vasD l) (some (A+1)) (some none)=some (.of (wT (l.drop (A+1)))),(if 7=7/\A=A then (nH A (vasD l)).map (λr=>AV.of (.one (.f 7 r)))else none)=some (AV.of (CP (l.take A)))]++((gF f165=gF f165)::(CE (.mk k n i z a t d) (wT (l.drop (A+1))) (CP (l.take A)) [] 0).map (λx=>some x.2=some x.2))) (u7 rfl (al K (al (D hF) (al (G hF) (al L al0)))))
 .have g:=λq=>Q [aY x y] q (O y S.1) ot;simp only[Sj]at g;simp only[qc3,jb3]at I J;have⟨k,n,i,z,a,t,d⟩:=x;have⟨p,n1,o,C,w,B,j⟩:=y
  cases hF:fJ l (.mk k n i z a t d)with
  | false =>
   rw[I hF];rw[hF]at c;exact Ce func165 [(21,wT (l.drop A)),(30,CP (l.take A))] [⟨gF f165,CE (.mk k n i z a t d) (wT (l.drop A)) (CP (l.take A)) [.mk p n1 o C w B j] 0,2,KM (wT (l.drop A)) (.one (.d (.s 7 (vasD (l.take A)++[vaD (aY (.mk k n i z a t d) (.mk p n1 o C w B j))]))))⟩] (by intro q b;rw[js]at b;subst b;exact F _ _) [⟨_,c⟩,⟨_,g A⟩]
    (ob:=[qA 7 (vasD l) (some A) (some none)=some (.of (wT (l.drop A))),(if 7=7/\A=A then (nH A (vasD l)).map (λr=>AV.of (.one (.f 7 r)))else none)=some (AV.of (CP (l.take A)))]++((gF f165=gF f165)::(CE (.mk k n i z a t d) (wT (l.drop A)) (CP (l.take A)) [.mk p n1 o C w B j] 0).map (λx=>some x.2=some x.2))) (u7 rfl (al K (al L al0)))
  | true =>
   rw[J hF];rw[hF]at c;exact Ce func165 [(21,wT (l.drop A)),(25,iA ((A+1:Nat):Int)),(26,wT (l.drop (A+1))),(30,CP (l.take A))] [⟨gF f165,CE (.mk k n i z a t d) (wT (l.drop (A+1))) (CP (l.take A)) [.mk p n1 o C w B j] 0,2,KM (wT (l.drop (A+1))) (.one (.d (.s 7 (vasD (l.take A)++[vaD (aY (.mk k n i z a t d) (.mk p n1 o C w B j))]))))⟩] (by intro q b;rw[js]at b;subst b;exact F _ _) [⟨_,c⟩,⟨_,g (A+1)⟩]
    (ob:=[qA 7 (vasD l) (some A) (some none)=some (.of (wT (l.drop A))),some (lW (IntKind.i64.wrap (((A:Nat):Int)+1)))=some (.of (iA ((A+1:Nat):Int))),qA 7 (vasD l) (some (A+1)) (some none)=some (.of (wT (l.drop (A+1)))),(if 7=7/\A=A then (nH A (vasD l)).map (λr=>AV.of (.one (.f 7 r)))else none)=some (AV.of (CP (l.take A)))]++((gF f165=gF f165)::(CE (.mk k n i z a t d) (wT (l.drop (A+1))) (CP (l.take A)) [.mk p n1 o C w B j] 0).map (λx=>some x.2=some x.2))) (u7 rfl (al K (al (D hF) (al (G hF) (al L al0)))))
 .simp at V
end
section
variable {c:Mc}{m m1:Ma}{o:Go.Proofs.YtgfdimkbfnpepaaGreat.Out}{tn tp:Int}{tz:bo}{ta:aE}
def Kw(b:tp=40\/tp=41\/tp=42\/tp=43\/tp=44)(a:HO c m 116 [] (.go m1))(h:HO c m1 119 [ndA (.nd 2 tn tp tz ta)] o):HO c m 81 [ndA (.nd 2 tn tp tz ta)] o:=by rcases b with rfl|rfl|rfl|rfl|rfl<;>exact eH [m1] func81 [pu a 0,pu h 1]
def Ku(b:tp=46\/tp=47\/tp=48\/tp=49\/tp=50\/tp=51\/tp=53\/tp=54)(a:HO c m 116 [] (.go m1))(h:HO c m1 120 [iA tp] o):HO c m 81 [ndA (.nd 2 tn tp tz ta)] o:=by rcases b with rfl|rfl|rfl|rfl|rfl|rfl|rfl|rfl<;>exact eH [m1] func81 [pu a 0,pu h 1]
def FE(b:tp=56\/tp=57\/tp=59\/tp=61\/tp=62\/tp=63)(a:HO c m 116 [] (.go m1))(h:HO c m1 121 [iA tp] o):HO c m 81 [ndA (.nd 2 tn tp tz ta)] o:=by rcases b with rfl|rfl|rfl|rfl|rfl|rfl<;>exact eH [m1] func81 [pu a 0,pu h 1]
def FD(b:tp=52\/tp=55\/tp=58\/tp=64)(a:HO c m 116 [] (.go m1))(h:HO c m1 122 [ndA (.nd 2 tn tp tz ta)] o):HO c m 81 [ndA (.nd 2 tn tp tz ta)] o:=by rcases b with rfl|rfl|rfl|rfl<;>exact eH [m1] func81 [pu a 0,pu h 1]
def Ir(b:tp=60\/tp=65\/tp=66\/tp=67\/tp=68)(a:HO c m 116 [] (.go m1))(h:HO c m1 123 [ndA (.nd 2 tn tp tz ta)] o):HO c m 81 [ndA (.nd 2 tn tp tz ta)] o:=by rcases b with rfl|rfl|rfl|rfl|rfl<;>exact eH [m1] func81 [pu a 0,pu h 1]
def FH(b:tp=69\/tp=70\/tp=71\/tp=72\/tp=93\/tp=94\/tp=95)(a:HO c m 116 [] (.go m1))(h:HO c m1 124 [iA tp] o):HO c m 81 [ndA (.nd 2 tn tp tz ta)] o:=by rcases b with rfl|rfl|rfl|rfl|rfl|rfl|rfl<;>exact eH [m1] func81 [pu a 0,pu h 1]
def Ox(b:tp=73\/tp=74\/tp=75\/tp=76\/tp=77\/tp=78\/tp=79)(a:HO c m 116 [] (.go m1))(h:HO c m1 125 [iA tp] o):HO c m 81 [ndA (.nd 2 tn tp tz ta)] o:=by rcases b with rfl|rfl|rfl|rfl|rfl|rfl|rfl<;>exact eH [m1] func81 [pu a 0,pu h 1]
def Ky(b:tp=45\/tp=80\/tp=81\/tp=82\/tp=83)(a:HO c m 116 [] (.go m1))(h:HO c m1 126 [ndA (.nd 2 tn tp tz ta)] o):HO c m 81 [ndA (.nd 2 tn tp tz ta)] o:=by rcases b with rfl|rfl|rfl|rfl|rfl<;>exact eH [m1] func81 [pu a 0,pu h 1]
def FI(b:tp=84\/tp=85\/tp=86\/tp=87)(a:HO c m 116 [] (.go m1))(h:HO c m1 127 [iA tp] o):HO c m 81 [ndA (.nd 2 tn tp tz ta)] o:=by rcases b with rfl|rfl|rfl|rfl<;>exact eH [m1] func81 [pu a 0,pu h 1]
def step_sends(b:tp=88\/tp=89\/tp=90\/tp=91\/tp=92)(a:HO c m 116 [] (.go m1))(h:HO c m1 128 [ndA (.nd 2 tn tp tz ta)] o):HO c m 81 [ndA (.nd 2 tn tp tz ta)] o:=by rcases b with rfl|rfl|rfl|rfl|rfl<;>exact eH [m1] func81 [pu a 0,pu h 1]
def step_seq(hk:okNs ta)(a:Fn m):HO c m 81 [ndA (.nd 3 tn tp tz ta)] (.go (fm m (Ef ta))) :=
 eH [] func81 [TY m m.st ta 0 hk a.fr]
def RP(a:HO c m 116 [] (.no 12 m)):HO c m 81 [ndA (.nd 2 tn tp tz ta)] (.no 12 m) :=
 eH [] func81 [pu a 0]
structure Zp (t:Tr):Prop where
 k:t.k0=2
 n:(t.p0=41\/t.p0=43\/t.p0=44)->0<t.args0.length
 cd:(t.p0=52\/t.p0=55\/t.p0=58\/t.p0=64)->∃a b,t.args0=[a,b]
 c:(t.p0=60\/t.p0=65\/t.p0=68)->∃a,t.args0=[a]
 ZM:t.p0=66->∃a b d,t.args0=[a,b,d]/\fu a/\fu b
 tv:t.p0=45->∃a b,t.args0=[a,b]/\fu a
 t:(t.p0=82\/t.p0=88)->∃a,t.args0=[a]/\fu a
def Rp{t:Tr}{i:Ins}(h:iY t=some i):Zp t:=by
 refine⟨(jY h rfl).1,λd=>?_,λd=>?_,λd=>?_,λd=>?_,λd=>?_,λd=>?_⟩
 .have⟨_,f,_⟩:=jY h (show bR t.p0=[110] by unfold bR;rw[if_pos d]);rw[f];decide
 .rw[ng h]at d;have⟨a,b,e,_⟩:=LV h d;exact⟨a,b,e⟩
 .rw[ng h]at d;have⟨a,e,_⟩:=Fq h d;exact⟨a,e⟩
 .have⟨_,f,g⟩:=jY h (show bR t.p0=[116,117,99] by unfold bR;rw[oa,oa,oa,oa,oa,oa,if_pos d]);have⟨a,r,k,e,l,j,m⟩:=pV f g;obtain⟨b,r,q,rfl,l,o,n⟩:=pV l m;obtain⟨c,rfl,p⟩:=mG l n;exact⟨a,b,c,e,(mF (.inl rfl) j).2,(mF (.inr rfl) o).2⟩
 .have⟨_,f,g⟩:=jY h (show bR t.p0=[116,118] by unfold bR;rw[oa,if_pos d]);have⟨a,r,k,e,l,j,m⟩:=pV f g;obtain⟨b,rfl,n⟩:=mG l m;exact⟨a,b,e,(mF (.inl rfl) j).2⟩
 .have⟨_,f,g⟩:=jY h (show bR t.p0=[116] by unfold bR;rw[oa,oa,oc]);have⟨a,e,j⟩:=mG f g;exact⟨a,e,(mF (.inl rfl) j).2⟩
structure ZB (c:Mc) (t:Tr) (m:Ma):Prop where
 ok:okN t
 z:t.size<=1000
 fn:Fn m
 st:∀x∈m.st,x.size<=9000000/\x.s.size<=1000
 en:bD c.en.self/\bD c.en.sender/\bD c.en.amount/\bD c.en.balance
 upd:t.p0=63->∀a b d s,m.st=a::b::d::s->b.args.length<=1
 num:(t.p0=69\/t.p0=70\/t.p0=71\/t.p0=72)->∀a b s,m.st=a::b::s->kE a.n/\kE b.n
def HO.ite{P:Prop}[Decidable P]{f:FuncId}{args:List A1}{a b:Go.Proofs.YtgfdimkbfnpepaaGreat.Out}(d:(if P then a else b) ≠ .stuck)(e:P->a ≠ .stuck->HO c m f args a)(g:¬P->b ≠ .stuck->HO c m f args b):HO c m f args (if P then a else b):=by
 by_cases h:P
 .rw[if_pos h]at d|-;exact e h d
 .rw[if_neg h]at d|-;exact g h d
def X5{t:Tr}(V:(40<=t.p0/\t.p0<=95))(W:Zp t)(X:ZB c t m1)(p:HO c m 116 [] (.go m1))(f:Qy c.en t m1 ≠ .stuck):HO c m 81 [ndA t] (Qy c.en t m1):=by
 have⟨g,hz,i,q,y,v,u⟩:=X;have j:∀x∈m1.st,x.size<=20000000:=λx o=>by have:=(q x o).1;omega
 have A:∀x∈m1.st,x.size<=9000000/\x.s.size<=10000000:=λx o=>by have:=q x o;omega
 have⟨E,tn,tp,tz,ta⟩:=t;have⟨Z,H,I,J,K,L,D⟩:=W;obtain rfl:E=2:=Z;unfold Qy at f|-;simp only[Tr.p0]at f V H I J K L D u v|-;refine HO.ite f (λh f=>Kw h p (Ta h g H i f)) λg1 f=>?_;refine HO.ite f (λh f=>Ku h p (SI h i f)) λg2 f=>?_;refine HO.ite f (λh f=>FE h p (Mo (HU:=λl x r F G N P Q R=>Mt F G N P Q R) h i A v f)) λg3 f=>?_;refine HO.ite f (λh f=>FD h p (Ml h g (I h) i f)) λg4 f=>?_;refine HO.ite f (λh f=>Ir h p ?_) λg5 f=>?_
 .by_cases C:tp=67
  .subst C;unfold mq at f|-;simp only[Tr.p0,Int.reduceEq,↓reduceIte]at f|-;obtain⟨m1,s,rfl⟩:∃M s,m1=sm M s:=⟨m1,m1.st,rfl⟩;rcases s with _|⟨a,_|⟨b,s⟩⟩
   .exact absurd rfl f
   .exact absurd rfl f
   exact HO.node g (bK func123) λO w k n z a l d S hL=>Nk (t:=.nd 2 tn 67 tz ta) S rfl i.fr
  .exact Pf (by simp only[Tr.p0];omega) g (λB=>J (by simp only[Tr.p0]at B;omega)) K i f
 refine HO.ite f (λh f=>FH h p (Mr h i u f)) λg6 f=>?_;refine HO.ite f (λh f=>Ox h p (Ww h i j f)) λg7 f=>?_;refine HO.ite f (λh f=>Ky h p (Tk (λx o hz=>WH (okVs_at.1 i.ok x o) (j x o) hz) (λa U x o hz=>X9 (uE U) hz) h g hz L (λh=>by have⟨a,e,Y⟩:=D (.inl h);exact⟨a,e,Y,λx o=>(q x (List.mem_of_mem_head? o)).2⟩) (λ_ x o=>(q x (qe2 o)).2) i f (λT s x h=>Xq h) (λT s x h F G=>D5 h))) λg8 f=>?_;refine HO.ite f (λh f=>FI h p (Mw h y.1 i j f)) λg9 f=>?_;exact step_sends od p (Tf (by simp only[Tr.p0];omega) g (λh=>D (.inr h)) y i f)
end
open Go.ChangeShapes Go.WideShapes Go.ChangeAt Go.RowKit
set_option maxRecDepth 100000
set_option maxHeartbeats 4000000
section
variable {B:Nat}{O O':br}{w w':bx}{mb:Nat}{en:En}{aC:Int}{m:Ma}{f:Fr}{r:List Fr}{out:Out}
def JS(h:dm B O w mb en aC m)(q:m.fr=f::r)(u:f.rest=[])(HL:∀w',cm w w' none->Calls prog 80 #[.po mb] w' (jK B O w' mb en aC out)):Calls prog 53 #[.po mb] w (jK B O w mb en aC out):=by
 have⟨k,n,a,s,H,al,I,ta,tl,X,R,T,S,W,P,Y,N,h⟩:=h;obtain⟨g,z,A,U,V,wa,wc,J,L,rfl,p,rfl,G,j,l,E,D,hF⟩:=h.Sb q;have⟨d,v,i⟩:=we (λw' (F:cm w w' none)=>uw (h.grow F) p) l HL;have K:=λ(w':bx) (h:cm w w' none)=>v.keep h ot;unfold C4 at K;rw[u]at K;simp only[xT]at K;have C:cm w w none:=bM _ _;clear h l E D hF p q G j HL u;generalize o:jK B O w mb en aC out=Q;have y:=jh o;clear o;go_enter func53,ntmps53;go_wp2_with (first
  | (go_at_call 79;(with_reducible refine (d.out _ oS).mono ?_);rintro e Z ⟨rfl,b⟩)
  | (go_at_call 80;(with_reducible refine (i.out _ b).mono ?_);rintro e w9 t;obtain⟨M,rfl,c⟩:=(t.trans (dB.grow b)).ret;have x:=jh c;clear t c))
 rw[<-y.out];exact x
def NN{nd:Tr}{l:aE}(h:dm B O w mb en aC m)(Z:m.fr=f::r)(M:f.rest=nd::l)(HS:∀(w':bx) (v:cg),dB O w O w'->dm B O w' mb en aC { m with fr:=⟨l,f.op,f.row,f.aside⟩::r }->bI (λb=>¬O b) w' nd v->Calls prog 81 #[.po mb,v] w' (jK B O w' mb en aC out)) :
 Calls prog 53 #[.po mb] w (jK B O w mb en aC out):=by
 have⟨k,n,a,s,aa,al,ac,ta,tl,tc,na,nl,nc,sv,fv,us,fs,h⟩:=h;obtain⟨g,ah,aj,ra,C,wa,wc,ba,bc,rfl,hc,rfl,hl,H,hC,hZ,Y,hF⟩:=h.Sb Z;have⟨VR,c⟩:=Y.open.2.2.1;have z:=Y.open.2.1.1;rw[M]at c z;have⟨b,o,eb,hb,k2,n2,p2,s2,a2,l2,c2,ev,x⟩:=c.2.1 0 ot;have p:=c.2.2 0 ot;rw[ev]at p;subst eb;simp only[jc0,qd3,jc2,jt]at x p z;have⟨S,HM,HC⟩:=we (λw' (hg:cm w w' none)=>uw (h.grow hg) hc) h hC;have P:Hid (C5 w b o k2 n2 p2 s2 a2 l2 c2):=x;have⟨T,ad,R,HL,E,X,ae,HR⟩:=wj p c Z hl H HS hZ M;have I:=h.mine.2 g rfl;have J:=h.high g I;have K:=λ(w':bx) (h:cm w w' none)=>And.intro (HC.keep h ot) (P.keep h ot);unfold C4 C5 at K;rw[M]at K;simp only[jt]at K;have aq:cm w w none:=bM _ _;have d1:¬((l.length:Int)+1=0):=od
 have ai:(((l.length:Int)+1)==0)=false:=qa5.2 d1;have d2:(1:Int)<=(l.length:Int)+1:=od
 have d3:(l.length:Int)+1<=(C:Int):=od
 have d4:(0:Int)<(l.length:Int)+1:=od
 have⟨A,hA,G⟩:∃A:Addr,(if C=1 then some (⟨b,o,none⟩:Addr)else some ⟨b,o+5,none⟩)=some A/\∃V,cK (λb=>¬O b) w l (some A) V:=by
  by_cases hh:C=1
  .exact⟨_,if_pos hh,VR,by rw[jx (by omega:l.length=0)];exact cK.nil _ _ _ _⟩
  .exact⟨_,if_neg hh,_,c.tail⟩
 have U:=jh G;have t:l.length<=C - 1:=od
 have W:=jh t;clear h hC hZ Y hF hc Z hl H c p x ev HS G M z t;generalize hQ:jK B O w mb en aC out=Q;have HQ:=jh hQ;clear hQ;go_enter func53,ntmps53;go_wp2_with (first
  | (go_at_call 79;(with_reducible refine (S.out _ oS).mono ?_);rintro e N ⟨rfl,d⟩;have zf:=((HM.out.grow d).Jj HL.out E.out).2;have ab:=ki J d.size))
 have u:cm N (N.setCell ⟨g,r.length*4,none⟩ (.slice (some A) l.length (C - 1))) (some g):=dY (bM _ _) _ _ _;have y:dB O w O (N.setCell ⟨g,r.length*4,none⟩ (.slice (some A) l.length (C - 1))):=(dB.grow d).trans (dB.ofRow u (λq e=>by cases e;exact I));have⟨V,hV⟩:=U.out;have F:=(HM.out.grow d).reset R.out HL.out E.out ((dB.grow d).Kl hV) W.out;have j:=aK (w:=N.setCell ⟨g,r.length*4,none⟩ (.slice (some A) l.length (C - 1))) (.cells #[.i k2,.i n2,.i p2,.string s2,.slice a2 l2 c2] 26);have D:=jh (y.trans (dB.grow j));have HX:=jh (X.out _ _ D.out (F.grow j).G5 (((y.trans (dB.grow j))).node T.out));unfold af at HX;clear u y hV F j;go_wp2_with ((go_at_call 81;(with_reducible refine HX.out.mono ?_);rintro e w9 hq;obtain⟨er,rfl,L⟩:=(hq.trans D.out).ret;have HE:=jh L;clear hq L));rw[<-HQ.out];exact HE.out
end
section
variable {B:Nat}{O:br}{w:bx}{mb:Nat}{en:En}{aC:Int}{m:Ma}
def WR (B:Nat) (O:br) (w:bx) (mb:Nat) (en:En) (aC:Int) (I:Ma->Prop) (out:Out) (n:Nat) (wr:bx):Prop:=∃O' m',dm B O' wr mb en aC m'/\dB O w O' wr/\I m'/\fq en aC n m'=out
def dm.frames(h:dm B O w mb en aC m):∃a c,w.cell? ⟨mb,15,none⟩=some (.slice a m.fr.length c):=by have⟨k,n,a,s,g,al,i,ta,tl,t,o,q,p,r,l,u,j,h⟩:=h;have⟨d,f,e⟩:=nX h.own;have b:=h.sZ.form.2;rw[qa0]at b;exact⟨d,f,by rw[<-b,<-e];exact (iM h.blk).2.2.2.2.2.2.2.2.1⟩
def Sk(I:Ma->Prop)(S:∀(O':br) (w':bx) (m':Ma),dm B O' w' mb en aC m'->I m'->m'.fr≠[]->Calls prog 53 #[.po mb] w' (jK B O' w' mb en aC (uB en aC m')))(HI:∀m' a,I m'->m'.fr≠[]->uB en aC m' =.go a->I a)(h:dm B O w mb en aC m)(Y:I m)(N:Nat)(A:fq en aC N m ≠ .stuck) :
 Calls prog 30 #[.po mb] w (jK B O w mb en aC (fq en aC N m)):=by
 have⟨HM,G,K,F⟩:=JT h Y S HI;generalize l:fq en aC N m=out at *;have HO:=jh l;have u:=jh A;clear h Y S HI l A;generalize V:jK B O w mb en aC out=Q;have T:=jh V;clear V;have⟨μ,hμ⟩:=mM (λn (p:bx)=>WR B O w mb en aC I out n p);have t:=jh hμ;clear hμ;go_enter func30,ntmps30;go_wp2_with fail;go_loopw [3] (λ_ wr=>∃n,WR B O w mb en aC I out n wr) (λ_ wr=>μ wr)
 case atStart=>exact⟨N,O,m,HM,dB.refl _ _,G,HO⟩
 case round =>
  have⟨n0,z⟩:=hrel;have⟨O',m',y,hF,x,d⟩:=(t.out wr n0 z).1;clear z;have k:Hid (∃q,μ wr=q):=⟨_,rfl⟩;have⟨q,R⟩:=k.out;rw[R]at d;have L:=jh R;clear k R
  cases q with
  | zero=>exact absurd d.symm (by rw[fq];exact u)
  | succ q =>
   have⟨fa,fc,b⟩:=y.frames;have⟨H,o,aa⟩:=we y hF x;rw[fq]at d
   cases c:m'.fr with
   | nil =>
    rw[c]at b d;simp only[xT]at b d;have E:Hid (jK B O w mb en aC out (.returned (.i 0)) wr):=by rw[<-d];exact⟨O',o,rfl,H⟩
    clear y hF x d c;go_wp2_with fail;rw[<-T.out];exact E
   | cons f r =>
    rw[c]at b;have v:=jh (K O' wr m' y x (by rw[c];simp));have J:=jh (λa=>F m' a x (by rw[c];simp));have d0:(0:Int)<(r.length:Int)+1:=od
    simp only[jt]at b;rw[c]at d;simp only at d;generalize uB en aC m'=nx at *;clear y hF x c
    cases nx with
    | stuck=>exact absurd d (λe=>u e.symm)
    | no C a =>
     have M:Hid (Out.no C a=out):=d;clear d;go_wp2_with ((go_at_call 53;(with_reducible refine v.out.mono ?_);rintro e D ⟨P,g,s,rfl,m9,Z,p2,j⟩;have W:(C==0)=false:=qa5.2 s;have X:(C != 0):=(by rw[bne_iff_ne];exact s);have E:Hid (jK B O w mb en aC out (.returned (.i C)) D):=(by rw[<-M.out];exact⟨P,o.out.trans g,s,rfl,m9,Z,p2,j⟩);clear g Z p2 j));rw[<-T.out];exact E.out
    | go a =>
     have M:Hid (fq en aC q a=out):=d;clear d;go_wp2_with ((go_at_call 53;(with_reducible refine v.out.mono ?_);rintro e D ⟨P,g,rfl,j⟩;have U:Hid (WR B O w mb en aC I out q D):=⟨P,a,j,o.out.trans g,J.out a rfl,M.out⟩;clear g j));go_roundw
     case rel=>exact⟨q,U⟩
     case measure =>
      have h1:=(t.out D q U).2;have h2:=L.out;omega
end
def Rt{i:Ins}{s x:ao}{f:Bool}(h:bJ i s =.ok f x)(b:i.p=69\/i.p=70\/i.p=71\/i.p=72):∃A B r,s=A::B::r/\(A.t=3\/A.t=4\/A.t=5)/\(B.t=3\/B.t=4\/B.t=5):=by
 unfold bJ at h;rw[oa,oa,oa]at h;split at h
 .rename_i c;obtain⟨A,B,r,rfl,_,_⟩:=lT c.2;refine⟨A,B,r,rfl,?_⟩;simp only[bB,kA,yy,jb5]at h
  cases a:IP i.p A.t B.t with
  | none=>rw[a]at h;cases h
  | some T =>
   unfold IP zC at a
   repeat' split at a
   all_goals first
    | (cases a;done)
    | omega
    | (simp only[not_or,jb4]at *;omega)
 .cases h
def Qq{i:Ins}{s x:ao}{f:Bool}(h:aP i s =.ok f x)(b:i.p=63):∃A B D r,s=A::B::D::r/\B.t=9:=by
 unfold aP at h;rw[oa,oa,oa,oa,oa]at h;split at h
 .rename_i c;obtain⟨A,B,D,r,rfl,_,a,_⟩:=Kt c.2.1;exact⟨A,B,D,r,rfl,a ov⟩
 .cases h
def NA{row:aE->ao->iF}{i:Ins}{s x:ao}{f:Bool}(h:vP row i s =.ok f x):i.p<=95:=by
 unfold vP at h
 repeat' split at h
 all_goals first
  | omega
  | skip
 unfold dO at h
 repeat' split at h
 all_goals first
  | omega
  | cases h
def WJ{en:En}(h:yH en):bD en.self/\bD en.sender/\bD en.amount/\bD en.balance:=by have⟨a,b,c,d⟩:=h;simp only[lY,gN,kj]at a b c d;unfold bD;omega
section
variable {B:Nat}{O:br}{w:bx}{mb:Nat}{en:En}{aC:Int}{m:Ma}{S:ao}
def dm.okV(h:dm B O w mb en aC m):okVs m.st:=by have⟨k,n,a,s,e,al,f,ta,tl,t,o,q,p,r,j,d,g,h⟩:=h;refine okVs_at.2 λx c=>?_;obtain⟨i,b,rfl⟩:=ub (List.mem_reverse.2 c);have l:=h.jL.len;exact BC (h.jL.lies i _ d[i] (qn b) (qn od))
def cost_len:∀l:List Fr,l.length<=cost l
 | []=>zE _
 | f::l=>by have:=cost_len l;rw[gB];simp only[jt];omega
def YM(a:WT aC S m)(e:aC<=50000):m.fr.length<=40000000:=by have b:=cost_len m.fr;have c:=a.cost;have d:=a.paid;omega
def Vg{nd:Tr}{l:aE}{f:Fr}{r:List Fr}{v:cg}(E:yH en)(X:WT aC S m)(hS:S.length<=342)(hg:aC<=50000)(o:m.fr=f::r)(W:f.rest=nd::l)(h:dm B O w mb en aC { m with fr:=⟨l,f.op,f.row,f.aside⟩::r })(hL:bI (λb=>¬O b) w nd v) :
 Calls prog 81 #[.po mb,v] w (jK B O w mb en aC (Iq en aC nd { m with fr:=⟨l,f.op,f.row,f.aside⟩::r })):=by
 have n:=Fa E X hS (by rw[o];simp);unfold uB at n;rw[o]at n;simp only[W]at n;have F:=YM X hg;rw[o]at F;obtain⟨K,k0,n0,p0,s0,a0,c0,C,rfl,J⟩:=qL hL;have hv:dU (gm (λ_=>none) (λb=>¬O b) w) [ndA nd] [af k0 n0 p0 s0 a0 nd.args0.length c0]:=by rw[C];exact⟨⟨_,rfl,fI.v _,fI.v _,fI.v _,fI.v _,by rw[<-C]at *;exact J,trivial⟩,trivial⟩
 refine HO.go (m:={ m with fr:=⟨l,f.op,f.row,f.aside⟩::r }) (args:=[ndA nd]) ?_ h hv;have U:=h.okV;have⟨⟨s,hF,Q⟩,hm,V,hc,hZ,aa⟩:=X;rw[o]at Q;have⟨⟨g1,g2,g3,g4⟩,z,R,Q⟩:=Q;have⟨N,g,x,y,a,b,ck,d,e⟩:=GD W R;rw[W]at g1;have⟨q1,q2⟩:=qE g1 (show nd∈nd::l by simp);have⟨j,_,_⟩:=nP ck;have G:∀pd:Int,Fn { m with fr:=⟨l,f.op,f.row,f.aside⟩::r,paid:=pd }:=λpd=>⟨U,by show m.st.length<=_;omega,by simp only[jt]at F|-;omega⟩
 cases N with
 | zero=>simp[stepF]at j
 | succ N =>
  rw[stepF]at j;unfold Iq at n|-
  by_cases hk:nd.k0=3
  .rw[if_pos hk];have⟨u,tn,tp,tz,ta⟩:=nd;obtain rfl:u=3:=hk;exact step_seq K.2 (G m.paid)
  .rw[if_neg hk]at j n|-;split at j
   .cases j
   .rename_i i H;have hs:=Rp H;have V:=ng H;have M:40<=nd.p0:=by unfold iY at H;split at H;exact (by assumption:_/\_/\_).2.1;cases H
    have ab:=NA j;have D:=HO_pay (c:=⟨B,mb,en,aC,w,O⟩) (m:={ m with fr:=⟨l,f.op,f.row,f.aside⟩::r });unfold uH at n D|-
    by_cases p:aC<=m.paid
    .simp only[p,↓reduceIte]at D|-;have⟨u,tn,tp,tz,ta⟩:=nd;obtain rfl:u=2:=hs.k;exact RP D
    .simp only[p,↓reduceIte]at D n|-;refine X5 (c:=⟨B,mb,en,aC,w,O⟩) ⟨M,od⟩ hs ⟨K,od,G _,λx hx=>?_,WJ E,λI Z vb vd Y t=>?_,λI Z vb Y t=>?_⟩ D (λhh=>?_)
     .have⟨T,_,R⟩:=fitS_mem hF x hx;have:=Bh R;have:=hZ x hx;omega
     .rw[V]at I;unfold vP at j;rw[oa,oa,oc]at j;obtain⟨A,B',D',r',rfl,P⟩:=Qq j I;have t:m.st=Z::vb::vd::Y:=t;rw[t]at hF;have⟨_,_,q,f1,hF⟩:=av hF;cases q;have⟨_,_,q,L,hF⟩:=av hF;cases q;obtain⟨_,_,h|⟨_,h,_⟩⟩:=EW L P<;>rw[h]<;>simp
     .rw[V]at I;unfold vP at j;rw[oa,oa,oa,oa,oa,oc]at j;obtain⟨A,B',r',rfl,hA,P⟩:=Rt j I;have t:m.st=Z::vb::Y:=t;rw[t]at hF;have⟨_,_,q,f1,hF⟩:=av hF;cases q;have⟨_,_,q,L,hF⟩:=av hF;cases q;exact⟨(qd f1 hA).1,(qd L P).1⟩
     .rw[hh]at n;exact n
def QE{f:Fr}{r:List Fr}(j:WT aC S m)(n:S.length<=342)(a:m.fr=f::r)(p:f.rest=[])(h:dm B O w mb en aC m) :
 Calls prog 80 #[.po mb] w (jK B O w mb en aC (Bz aC f r m)):=by
 have c:=GQ j n a p;have A:=j.len;have⟨s,hF,g⟩:=j.typed;rw[a]at g;have⟨⟨q,t,u,y⟩,z,o,g⟩:=g;have b:m.st.length+f.aside.length<=100000000:=od
 unfold Bz at c|-;rcases o with⟨e,_⟩|⟨e,_⟩|⟨e,_⟩|⟨e,_⟩|⟨e,_⟩
 .simp only[e,Int.reduceEq,↓reduceIte]at c|-;exact qG h a b (.inl ⟨e,rfl⟩)
 .simp only[e,↓reduceIte]at c|-
  cases k:f.aside with
  | nil=>exact qG h a b (.inr (.inl ⟨e,k,rfl⟩))
  | cons x l=>have:=JK h a e k od;rw[e]at this;exact this
 .simp only[e,Int.reduceEq,↓reduceIte]at c|-
  cases i:m.st with
  | nil=>rw[i]at c;exact c.elim
  | cons v st =>
   cases d:kJ v with
   | true=>have:=JL h a e i d;rw[e]at this;simpa[d]using this
   | false=>simp only[d,ja5,↓reduceIte];exact qG h a b (.inr (.inr (.inl ⟨v,e,i,d⟩)))
 .simp only[e,Int.reduceEq,↓reduceIte]at c|-;exact qG h a b (.inr (.inr (.inr (.inl ⟨e,rfl⟩))))
 .simp only[e,Int.reduceEq,↓reduceIte]at c|-;exact qG h a b (.inr (.inr (.inr (.inr ⟨e,rfl⟩))))
def Us(c:yH en)(i:WT aC S m)(g:S.length<=342)(n:aC<=50000)(e:m.fr≠[])(h:dm B O w mb en aC m):Calls prog 53 #[.po mb] w (jK B O w mb en aC (uB en aC m)):=by
 unfold uB
 cases a:m.fr with
 | nil=>exact absurd a e
 | cons f r =>
  simp only
  cases b:f.rest with
  | nil=>exact JS h a b λw' d=>QE i g a b (h.grow d)
  | cons o l=>exact NN h a b λw' v _ k j=>Vg c i g n a b k j
def VF(a:yH en)(j:WT aC S m)(e:S.length<=342)(g:aC<=50000)(h:dm B O w mb en aC m)(N:Nat)(d:fq en aC N m ≠ .stuck):Calls prog 30 #[.po mb] w (jK B O w mb en aC (fq en aC N m)) :=
 Sk (WT aC S) (λO' w' k f b c=>Us a b e g c f) (λk l b c i=>by have:=Fa a b e c;rw[i]at this;exact this.1) h j N d
end
set_option maxHeartbeats 1000000
def Za(w:bx)(a:bj)(n c:Nat):(binOp .eql 28 (.slice a n c) (.n0)).run prog w =.ok (.bool a.isNone) w:=by simp only[binOp];simp[Op.equal,Op.maxDepth,Lib.run_equalIn_slice_nil w 9999 28 36 a n c 0 0 underlying28]
attribute [local go_sem] Za
def IV (O:br) (W:bx) (l:an) (e:Ending) (w':bx):Prop:=∃v us,e =.returned v/\nI O W w' v l us/\cm W w' none
def wB{O:br}{W:bx}{l:an}{xv:cg}(h:Src O W l xv)(hn:l.length<=20000000):Calls prog 51 #[xv] W (IV O W l):=by
 have⟨n,s,e,f⟩:=h;have d:=lL (mO e f);rw[e]at d s;rcases s with⟨c,rfl,z,B⟩|⟨p,c,rfl,a⟩
 .have A:l=[]:=jx z;subst A;have v:Hid (IV O W [] (.returned (.n0)) W):=⟨_,[],rfl,⟨qg1 _ _ _ _,rfl,λi x u h=>by simp at h⟩,bM _ _⟩;clear d f;go_enter func51,ntmps51;go_wp2;go_ret;exact v.out
 .have b:=aK (w:=W) (.cells #[] 36);have t:=jh (jj W (.cells #[] 36));have j:Hid (nI O W (W.alloc (.cells #[] 36)) (.o (W.heap.size) 0 0) [] []):=⟨⟨rfl,.inr ⟨W.heap.size,0,#[],rfl,qS _,t.out,qS _,zE _,rfl,rfl⟩⟩,rfl,λi x u h=>by simp at h⟩;have y:Hid (gZ (W.alloc (.cells #[] 36)) (.slice (some p) l.length c) l.length (flat n)):=gZ.grow (.inr ⟨p,c,rfl,a⟩) b;have o:=jh b;have m:=jh f;clear a b f;go_enter func51,ntmps51;go_wp2_with (at_builtin;refine ed rfl _ _ 28 rfl W.heap.size 36 underlying28 mr rfl ov _ ([]:bk).length (flat []) rfl j.out.own _ l.length (flat n) rfl d.1 y.out d.2 vf (by simp only[xT];omega) o.out.size ?_;intro r w' q b _;have g:=jh (dX o.out j.out.own (qS _) b.1);have k:=jh (j.out.more (v':=r) (w':=w') (l2:=l) (ns:=n) (by unfold dF;rw[bV,qT,e];exact q) e m.out);clear q b);go_ret;exact⟨_,_,rfl,by simpa using k.out,g.out⟩
def L9 (w:bx) (g o:Nat) (c0 c1 c2 c3 c4 c5 c6:cg):bx:=((((((w.setCell ⟨g,o,none⟩ c0).setCell ⟨g,o+1,none⟩ c1).setCell ⟨g,o+2,none⟩ c2).setCell ⟨g,o+3,none⟩ c3).setCell ⟨g,o+4,none⟩ c4).setCell ⟨g,o+5,none⟩ c5).setCell ⟨g,o+6,none⟩ c6
def Dy(a b d f g j m:cg):∀(us:bk),(∀u∈us,(nodeCells u).length=7)->∀i,i<us.length->flat (us.set i (.agg #[a,b,d,f,g,j,m]))=(((((((flat us).set (i*7) a).set (i*7+1) b).set (i*7+2) d).set (i*7+3) f).set (i*7+4) g).set (i*7+5) j).set (i*7+6) m
 | [],_,i,h=>by simp at h
 | x::us,n,0,_=>by
  have o:=n x ot
  match q:nodeCells x,o with
  | [t,v,w,y,z,A,B],_ =>
   show nodeCells (.agg #[a,b,d,f,g,j,m])++flat us=_;rw[show flat (x::us)=nodeCells x++flat us from rfl,q];rfl
 | x::us,n,i+1,h=>by
  have o:=n x ot;have s:=Dy a b d f g j m us (λu r=>n u (by simp[r])) i (by simpa using h);have e:∀(l:bk) (k:Nat) (c:cg),(nodeCells x++l).set ((i+1)*7+k) c=nodeCells x++l.set (i*7+k) c:=λl k c=>by rw[jf0 _ _ od,o,show (i+1)*7+k - 7=i*7+k by omega]
  have p:∀(l:bk) (c:cg),(nodeCells x++l).set ((i+1)*7) c=nodeCells x++l.set (i*7) c:=λl c=>by have:=e l 0 c;simpa using this
  rw[xj,show flat (x::us.set i (.agg #[a,b,d,f,g,j,m]))=nodeCells x++flat (us.set i (.agg #[a,b,d,f,g,j,m])) from rfl,s,show flat (x::us)=nodeCells x++flat us from rfl,p,e,e,e,e,e,e]
def Hr{B:Nat}{w:bx}{g cap:Nat}{us:bk}(j:dF B w (.o g us.length cap) us)(z:∀u∈us,(nodeCells u).length=7)(i:Nat)(hi:i<us.length)(a b c d e f h:cg) :
 dF B (L9 w g (i*7) a b c d e f h) (.o g us.length cap) (us.set i (.agg #[a,b,c,d,e,f,h]))/\cm w (L9 w g (i*7) a b c d e f h) (some g):=by
 unfold dF at j|-;rw[Dy _ _ _ _ _ _ _ us z i hi,jf2];have⟨r,k⟩:=j.stored (i*7) a;have⟨s,l⟩:=r.stored (i*7+1) b;have⟨t,m⟩:=s.stored (i*7+2) c;have⟨v,n⟩:=t.stored (i*7+3) d;have⟨x,o⟩:=v.stored (i*7+4) e;have⟨y,p⟩:=x.stored (i*7+5) f;have⟨A,q⟩:=y.stored (i*7+6) h;exact⟨A,fF (fF (fF (fF (fF (fF k l) m) n) o) p) q⟩
def zK (us:bk) (q:Nat) (vs:bk):Prop:=vs.length=us.length/\2*q<=us.length/\∀k,k<us.length->vs[k]?=if k<q\/us.length - 1 - q<k then us[us.length - 1 - k]? else us[k]?
def zK.step{us vs:bk}{q:Nat}(h:zK us q vs)(o:q<us.length - 1 - q){a b:cg}(i:vs[q]?=some a)(hb:vs[us.length - 1 - q]?=some b):zK us (q+1) ((vs.set q b).set (us.length - 1 - q) a):=by
 have⟨f,n,c⟩:=h;refine⟨by simp[f],od,λk j=>?_⟩;have d:=c q od;have e:=c (us.length - 1 - q) od;rw[oa,i]at d;rw[oa,hb]at e
 by_cases l:k=us.length - 1 - q
 .subst l;rw[qh3 (by simp[f];omega),oc,show us.length - 1 - (us.length - 1 - q)=q by omega,d]
 .rw[qe3 od]
  by_cases m:k=q
  .subst m;rw[qh3 od,oc,e]
  .rw[qe3 od,c k j]
   by_cases g:k<q\/us.length - 1 - q<k
   .rw[if_pos g,oc]
   .rw[if_neg g,oa]
def zK.done{us vs:bk}{q:Nat}(h:zK us q vs)(e:¬q<us.length - 1 - q):vs=us.reverse:=by
 have⟨c,d,b⟩:=h;refine List.ext_getElem? λk=>?_
 by_cases a:k<us.length
 .rw[b k a,List.getElem?_reverse a];split
  .rfl
  .rw[show us.length - 1 - k=k by omega]
 .rw[jc5 od,jc5 oB]
def zK.mem{us vs:bk}{q:Nat}(h:zK us q vs):∀u∈vs,u∈us:=λu b=>by
 obtain⟨k,a,rfl⟩:=ub b;have:=h.2.2 k (by rw[<-h.1];exact a);rw[qn a]at this;split at this
 .exact zj this.symm
 .exact zj this.symm
def BM{B:Nat}{w:bx}{g cap:Nat}{us:bk}{n:Nat}(o:dF B w (.o g n cap) us)(l:∀u∈us,(nodeCells u).length=7)(i:Nat){b c d e f h k:cg}(p:us[i]?=some (.agg #[b,c,d,e,f,h,k])) :
 (w.cell? ⟨g,i*7,none⟩=some b/\w.cell? ⟨g,i*7+1,none⟩=some c/\w.cell? ⟨g,i*7+2,none⟩=some d/\w.cell? ⟨g,i*7+3,none⟩=some e/\w.cell? ⟨g,i*7+4,none⟩=some f/\w.cell? ⟨g,i*7+5,none⟩=some h/\w.cell? ⟨g,i*7+6,none⟩=some k):=by
 have a:∀j x,j<7->(nodeCells (.agg #[b,c,d,e,f,h,k]))[j]?=some x->w.cell? ⟨g,i*7+j,none⟩=some x:=λj x m q=>by have:=qb0 o (g:=g) rfl (i*7+j) x (by rw[flatV_get us l i j _ p m];exact q);rw[gI,qa2]at this;exact this
 exact⟨a 0 _ od rfl,a 1 _ od rfl,a 2 _ od rfl,a 3 _ od rfl,a 4 _ od rfl,a 5 _ od rfl,a 6 _ od rfl⟩
def WO (B:Nat) (W:bx) (g:Nat) (v:cg) (us:bk) (e:Ending) (w':bx):Prop:=e =.returned (.tuple #[])/\dF B w' v us.reverse/\cm W w' (some g)
def Ih{B:Nat}{W:bx}{g cap:Nat}{us:bk}(ho:dF B W (.o g us.length cap) us)(h7:∀u∈us,∃k n a s aa al ac ta tl tc na nl nc,u=bg k n a s aa al ac ta tl tc na nl nc)(hn:us.length<=20000000) :
 Calls prog 52 #[.o g us.length cap] W (WO B W g (.o g us.length cap) us):=by
 have F:∀u∈us,(nodeCells u).length=7:=λu x=>by obtain⟨k,n,a,s,aa,al,ac,ta,tl,tc,na,nl,nc,rfl⟩:=h7 u x;rfl
 by_cases h0:us.length=0
 .have x:us=[]:=jx h0;subst x;have HP:Hid (WO B W g (.o g ([]:bk).length cap) [] (.returned (.tuple #[])) W):=⟨rfl,ho,bM _ _⟩;clear ho h7 F;simp only[xT]at HP|-;go_enter func52,ntmps52;go_wp2_with fail;refine je4 1 ?_;rw[ka1];go_wp2_with fail;refine yb (v:=.tuple #[]) Ys rfl ?_;exact HP
 .have HO:=jh ho;have H7:=jh h7;have ab:=jh F;have HN:=jh hn;have ah:=jh h0;have⟨N,hN⟩:∃N:Nat,N=us.length:=⟨_,rfl⟩;have w:=jh hN;rw[<-hN];have aj:(N:Int)<=20000000:=by omega
  have ai:(0:Int)<(N:Int):=od
  clear ho h7 F hn h0 hN;go_enter func52,ntmps52;go_wp2_with fail;go_loopw [2,3] (λiv jv wr=>∃(q p:Nat) (b:bk),iv =.i (q:Nat)/\jv =.i (p:Nat)/\p=N - 1 - q/\zK us q b/\dF B wr (.o g N cap) b/\cm W wr (some g)) (λiv _ _=>N - (intOf iv).toNat)
  case atStart=>exact⟨0,N - 1,us,rfl,OS,od,⟨rfl,od,λk hk=>by rw[oa]⟩,by have:=HO.out;rw[<-w.out]at this;exact this,bM _ _⟩
  case round =>
   obtain⟨q,p,b,rfl,rfl,Y,hR,y,hG⟩:=hrel;have c:b.length=N:=hR.1.trans w.symm;have E:=hR.2.1;rw[<-w.out]at E
   by_cases G:q<p
   .have H:∀u∈b,∃k n a s aa al ac ta tl tc na nl nc,u=bg k n a s aa al ac ta tl tc na nl nc:=λu x=>H7 u (hR.mem u x);have d:∀u∈b,(nodeCells u).length=7:=λu x=>ab u (hR.mem u x);have⟨k1,n1,a1,s1,A,D,C,L,fE,M,I,K,J,e1⟩:=H b[q] (zd od);have⟨P,Q,O,R,f,oH,h,r,sM,t,l,o,m,e2⟩:=H b[p] (zd od);have g1:b[q]?=some (bg k1 n1 a1 s1 A D C L fE M I K J):=by rw[qn od,e1]
    have g2:b[p]?=some (bg P Q O R f oH h r sM t l o m):=by rw[qn od,e2]
    have CA:=BM y d q g1;have CB:=BM y d p g2;have ae:=λj=>jd4 (by unfold dF at y;rw[c]at y;exact y) j;have d1:(q:Int)<(N:Int):=od
    have d2:(p:Int)<(N:Int):=od
    have d3:(q:Int)<(p:Int):=od
    have⟨HR,U,HG,V,HL,HP,ad,G1,G2⟩:=wq hR y hG d c Y G g1 g2;clear hR y hG H d c Y G g1 g2 e1 e2 E;go_wp2_with fail;have X:dF B wr (.o g b.length cap) b:=by rw[HL.out];exact U
    have⟨o1,y1⟩:=Hr X V q (by rw[HL.out];omega) (.i P) (.i Q) (.i O) (.string R) (.slice f oH h) (.slice r sM t) (.slice l o m);have Z:dF B (L9 wr g (q*7) (.i P) (.i Q) (.i O) (.string R) (.slice f oH h) (.slice r sM t) (.slice l o m)) (.o g (b.set q (bg P Q O R f oH h r sM t l o m)).length cap) (b.set q (bg P Q O R f oH h r sM t l o m)):=by rw[jf2];exact o1
    have⟨o2,y2⟩:=Hr Z (λu x=>by rcases List.mem_or_eq_of_mem_set x with x|rfl;exact V u x;rfl) p (by rw[jf2,HL.out];omega) (.i k1) (.i n1) (.i a1) (.string s1) (.slice A D C) (.slice L fE M) (.slice I K J);have z:=jh o2;have HY:=jh (fF y1 y2);clear X o1 Z o2 y1 y2
    go_big_region
    unfold L9 at z HY;have S:=jh (fK (fF HG HY));have T:=jh (yq (row:=none) z (fK (bM _ _)) (.inr oT));clear HY z CA CB ae U HG;generalize (World.drew _)=wz at S T|-;go_wp2;go_roundw
    case rel =>
     have Y:=HP.out;have G:=ad.out;have e:us.length=N:=w.out.symm;refine⟨q+1,p - 1,(b.set q (bg P Q O R f oH h r sM t l o m)).set p (bg k1 n1 a1 s1 A D C L fE M I K J),OS,OS,od,?_,?_,S⟩
     .have:=HR.out.step (by rw[e];omega) G1 (by rw[e,<-Y];exact G2);rw[e,<-Y]at this;exact this
     .have:=T.out;unfold dF;rw[jf2,HL.out]at this;exact this
    case measure=>simp[intOf];omega
   .have d3:¬(q:Int)<(p:Int):=by omega
    have hD:=hR.done (by rw[<-w.out];omega);subst hD;have HE:Hid (WO B W g (.o g N cap) us (.returned (.tuple #[])) wr):=⟨rfl,y,hG⟩;clear hR y hG c E;go_wp2_with fail;refine yb (v:=.tuple #[]) Ys rfl ?_;exact HE
def reverse_nil{W:bx}{Q:Ending->bx->Prop}(a:Q (.returned (.tuple #[])) W):Calls prog 52 #[.n0] W Q:=by have b:=jh a;clear a;go_enter func52,ntmps52;go_wp2_with fail;refine je4 1 ?_;rw[ka1];go_wp2_with fail;refine yb (v:=.tuple #[]) Ys rfl ?_;exact b
def Cy{O:br}{W:bx}{l:an}{xv:cg}(h:Src O W l xv)(hn:l.length<=20000000):Calls prog 28 #[xv] W (IV O W l.reverse):=by
 have B:=jh (wB h hn);have C:=jh hn;have⟨M,z,r,N⟩:=h;have m:∃a c,xv =.slice a l.length c:=by
  rcases z with⟨c,e,h,_⟩|⟨E,c,e,_⟩
  .exact⟨none,c,by rw[e,<-r,h]⟩
  .exact⟨some E,c,by rw[e,r]⟩
 obtain⟨a,c,rfl⟩:=m;clear z r N hn;go_enter func28,ntmps28;go_wp2_with ((go_at_call 51;(with_reducible refine B.out.mono ?_);rintro e P ⟨v,y,rfl,t,w⟩;have f:=jh t;have s:=jh w;clear w t));have b:=f.out.own;have d:=f.out.len;rcases b.2 with⟨rfl,H⟩|⟨g,F,G,rfl,I,L,J⟩
 .have n:y=[]:=jx H;subst n;have q:l=[]:=jx (by simpa using d.symm);subst q;go_wp2_with ((go_at_call 52;(with_reducible refine reverse_nil ?_)));go_ret;exact⟨_,_,rfl,f.out,s.out⟩
 .have D:=jh (Ih b (mO d f.out.lies) (by rw[d];exact C.out));have A:=jh I;clear b L J;go_wp2_with ((go_at_call 52;(with_reducible refine D.out.mono ?_);rintro e Q ⟨rfl,j,k⟩;have p:=jh j;have o:=jh (aG s.out k A.out);clear j k));go_ret;refine⟨_,y.reverse,rfl,⟨by have h:=p.out;rw[d]at h;exact h,by simp[d],λi x u m n=>?_⟩,o.out⟩;have K:i<l.length:=by have:=(qv.1 m).1;simpa using this
  rw[List.getElem?_reverse K]at m;rw[List.getElem?_reverse od,d]at n;exact f.lies _ x u m n
def Y9(w:bx)(a:bj)(n c:Nat):(binOp .eql 27 (.slice a n c) (.n0)).run prog w =.ok (.bool a.isNone) w:=by simp only[binOp];simp[Op.equal,Op.maxDepth,Lib.run_equalIn_slice_nil w 9999 27 54 a n c 0 0 underlying27]
attribute [local go_sem] Y9
def XY (W:bx) (l:ao) (e:Ending) (w':bx):Prop:=∃v us,e =.returned v/\vN (λ_=>True) W w' v l us/\cm W w' none
def Jm{W:bx}{l:ao}{a:bj}{c:Nat}{V:bt}(h:dw (λ_=>True) W l a V)(hn:l.length<=20000000):Calls prog 82 #[.slice a l.length c] W (XY W l):=by
 have⟨m,p,n,s,v,q⟩:=h.Vf c
 cases a with
 | none =>
  have D:l=[]:=by
   cases l with
   | nil=>rfl
   | cons t l=>have⟨b,o,e,_⟩:=h.2.1 0 ot;cases e
  subst D;have B:Hid (XY W [] (.returned (.n0)) W):=⟨_,[],rfl,⟨qg1 _ _ _ _,rfl,λi x u h=>by simp at h⟩,bM _ _⟩;clear h n p q s v;go_enter func82,ntmps82;go_wp2;go_ret;exact B.out
 | some E =>
  have d:=aK (w:=W) (.cells #[] 54);have A:=jh (jj W (.cells #[] 54));have g:Hid (vN (λ_=>True) W (W.alloc (.cells #[] 54)) (.o (W.heap.size) 0 0) [] []):=⟨⟨rfl,.inr ⟨W.heap.size,0,#[],rfl,qS _,A.out,qS _,zE _,rfl,rfl⟩⟩,rfl,λi x u h=>by simp at h⟩;have⟨C,r,k⟩:=we (n.grow d) d q;clear h n q d;go_enter func82,ntmps82;go_wp2_with (at_builtin;refine ed rfl _ _ 27 rfl W.heap.size 54 underlying27 rO rfl ov _ ([]:bk).length (bX []) rfl g.out.own _ l.length (bX m) rfl s C.out v vf (by simp only[xT];omega) r.out.size ?_;intro z w' y d _;have f:=jh (dX r.out g.out.own (qS _) d.1);have j:=jh (g.out.more (v':=z) (w':=w') (us:=l) (ns:=m) (by unfold wS;rw[dx,qT,p];exact y) p k.out);clear y d);go_ret;exact⟨_,_,rfl,by simpa using j.out,f.out⟩
def vN.slice{ok:br}{W w:bx}{v:cg}{ts:ao}{vs:bk}(h:vN ok W w v ts vs):∃a c,v =.slice a ts.length c:=by
 rcases h.own.2 with⟨rfl,e⟩|⟨g,b,d,rfl,_⟩
 .exact⟨none,0,by rw[<-h.len,e]⟩
 .exact⟨_,b,by rw[h.len]⟩
def Dw(t:Int)(a:bj)(l c:Nat)(b:bj)(e d:Nat):∀(us:bk),(∀u∈us,(tyCells u).length=2)->∀i,us[i]?=some (bY t a l c)->bX (us.set i (bY t b e d))=(bX us).set (i*2+1) (.slice b e d)
 | [],_,i,h=>by simp at h
 | x::us,f,0,h=>by simp only[kA,qk]at h;subst h;rfl
 | x::us,f,i+1,h=>by have j:=f x ot;have k:=Dw t a l c b e d us (λu g=>f u (by simp[g])) i (by simpa using h);rw[xj,show bX (x::us.set i (bY t b e d))=tyCells x++bX (us.set i (bY t b e d)) from rfl,k,show bX (x::us)=tyCells x++bX us from rfl,jf0 _ _ od,j,show (i+1)*2+1 - 2=i*2+1 by omega]
def Sw (W:bx) (l:ao) (e:Ending) (w':bx):Prop:=∃a c V,e =.returned (.slice a l.length c)/\l.length<=c/\dw (W.heap.size <= ·) w' l a V/\cm W w' none
structure Ws (W w:bx) (g cap:Nat) (l:ao) (j:Nat) (us:bk):Prop where
 own:wS W.heap.size w (.o g l.length cap) us
 len:us.length=l.length
 done:∀(i:Nat) (x:Ty) (u:cg),l[i]?=some x->us[i]?=some u->i<j->aH (λb=>W.heap.size<=b/\b≠g) w x u
 rest:∀(i:Nat) (x:Ty) (u:cg),l[i]?=some x->us[i]?=some u->j<=i->aH (λ_=>True) W x u
 gr:cm W w none
def Jq{W w:bx}{g cap:Nat}{l:ao}{us:bk}(h:Ws W w g cap l l.length us)(n:l.length<=maxLen):Sw W l (.returned (.o g l.length cap)) w:=by have m:gz W.heap.size w (.o g l.length cap) l us:=⟨h.own,h.len,λi x u f o=>(h.done i x u f o (qv.1 f).1).ae λb _ d=>⟨d.1,by simp[Value.ownBlock];exact d.2⟩⟩;have⟨a,c,V,e,j,k⟩:=m.done;exact⟨a,c,V,by rw[e],qP h.own e,⟨n,j,k⟩,h.gr⟩
def copiedT_any:∀(N:Nat) {W:bx}{l:ao}{a:bj}{c:Nat}{V:bt},tysizes l<N->N<=20000000->dw (λ_=>True) W l a V->Calls prog 54 #[.slice a l.length c] W (Sw W l):=λN=>by
 induction N with
 | zero=>intro W l a c V hN;exact absurd hN (Nat.not_lt_zero _)
 | succ N ih =>
  intro W l a c V hN bp h;have bc:l.length<=tysizes l:=pW l;have HC:=jh (Jm (c:=c) h od);have ah:Hid (∀{W:bx} {l:ao} {a:bj} {c:Nat} {V:bt},tysizes l<N->dw (λ_=>True) W l a V->Calls prog 54 #[.slice a l.length c] W (Sw W l)):=λh1 O=>ih h1 od O;have HN:=jh hN;have ca:(l.length:Int)<=20000000:=od
  have aq:Hid (l.length<=maxLen):=h.1;clear h ih hN bc;go_enter func54,ntmps54;go_wp2_with ((go_at_call 82;(with_reducible refine HC.out.mono ?_);rintro e w1 ⟨v,I,rfl,hK,hg⟩;obtain⟨a2,c2,rfl⟩:=hK.slice;have Y:=jh hK;have HG:=jh hg;clear hg hK));have d:=Y.out.own;have T:=Y.out.len;rcases d.2 with⟨M,h0⟩|⟨g,bh,bm,M,r,hq,hc⟩
  .simp only[kl]at M;obtain⟨rfl,B,rfl⟩:=M;clear B;have m:I=[]:=jx h0;subst m;have bb:l=[]:=jx (by simpa using T.symm);subst bb;clear d T h0;simp only[xT];refine je4 1 ?_;rw[ka1];go_wp2;go_ret;exact⟨none,0,λ_=>.i 0,rfl,qS _,dw.nil _ _ _ _,HG⟩
  .simp only[kl]at M;obtain⟨rfl,B,rfl⟩:=M;clear B;have HB:=jh r;have ad:Hid (Ws W w1 g c2 l 0 I):=⟨d,T,λi x u _ _ h=>od,λi x u y m _=>Y.lies i x u y m,HG⟩;have HL:=jh T;clear d hq hc r T Y;go_loopw [8] (λiv wr=>∃(j:Nat) (I:bk),j<=l.length/\iv =.i j/\Ws W wr g c2 l j I) (λiv _=>l.length - (intOf iv).toNat)
   case atStart=>exact⟨0,I,zE _,rfl,ad⟩
   case round =>
    obtain⟨j,q,hj,rfl,k⟩:=hrel
    by_cases f:j<l.length
    .have E:j<q.length:=by rw[k.len];exact f
     have C:=k.rest j l[j] q[j] (qn f) (qn E) (qS _);have p:=zd f;have G:=qn f;generalize l[j]=x at C p G;have⟨t,n⟩:=x;have⟨Z,L,Vj,ev,it,D⟩:=C.inv;simp only[Ty.t,Ty.args]at ev it D;have F:q[j]?=some (bY t Z n.length L):=by rw[qn E,ev]
     have O:∀u∈q,(tyCells u).length=2:=λu m=>by
      obtain⟨i,R,rfl⟩:=ub m;have S:i<l.length:=by rw[<-k.len];exact R
      by_cases aO:i<j
      .have⟨_,_,_,e,_⟩:=(k.done i l[i] q[i] (qn S) (qn R) aO).inv;rw[e];rfl
      .have⟨_,_,_,e,_⟩:=(k.rest i l[i] q[i] (qn S) (qn R) od).inv;rw[e];rfl
     have d:wS W.heap.size wr (.o g q.length c2) q:=by rw[k.len];exact k.own
     have bq:g<wr.heap.size:=(zp d g rfl).2;have cc:wr.cell? ⟨g,j*2+1,none⟩=some (.slice Z n.length L):=by have:=qb0 d (g:=g) rfl (j*2+1) (.slice Z n.length L) (by rw[flatT_get q O j 1 _ F od];rfl);rw[gI,qa2]at this;exact this
     have au:Hid (tysizes n<N):=by have h1:=jS p;have h3:=HN.out;exact (by simp only[Ty.size]at h1;omega:tysizes n<N)
     have J:=jh (ah (c:=L) au ((D.ae (λ_ _ _=>trivial)).same (ni k.gr)));have d1:(j:Int)<(l.length:Int):=od
     have d2:(j:Int)<(I.length:Int):=by rw[HL.out];exact d1
     have⟨HI,K,ax,H2,ay,ai⟩:=wk k d F O G it;have aa:Hid (W.heap.size<=g):=HB.out;clear k d F O G it D p C;go_wp2_with ((go_at_call 54;(with_reducible refine J.out.mono ?_);rintro e X ⟨A,H,V3,rfl,Q,P,s⟩;have bl:=JJ s cc;have fz:=jd4 (yq K.out s (.inr oT)) (j*2+1);have ar:=jh P;have ab:=jh Q;have z:=jh s;clear P s Q J));go_roundw
     case rel =>
      have w:cm X (X.setCell ⟨g,j*2+1,none⟩ (.slice A n.length H)) (some g):=dY (bM _ _) _ _ _;have U:Same (λb=>b≠g) X (X.setCell ⟨g,j*2+1,none⟩ (.slice A n.length H)):=λb o r f=>qt (w.block b f (by simpa using r));have k:=HI.out;have aC:=aa.out;have bf:=yq K z (.inr oT);refine⟨j+1,q.set j (bY t A n.length H),od,OS,⟨?_,by simp[k.len],λi x u y m R=>?_,λi x u y m R=>?_,aG (aJ k.gr z) w aC⟩⟩
      .unfold wS;have:=(bf.stored (j*2+1) (.slice A n.length H)).1;rw[jf2,Dw t Z n.length L A n.length H q H2.out j ax.out,<-k.len];exact this
      .by_cases e:i=j
       .subst e;rw[ay.out]at y;simp only[qk]at y;subst y;rw[qh3 E]at m;simp only[qk]at m;subst m;have h3:dw (λb=>W.heap.size<=b/\b≠g) (X.setCell ⟨g,i*2+1,none⟩ (.slice A n.length H)) n A V3:=(ar.out.ae (λb _ r=>⟨km k.gr.size r,od⟩)).same (λb o r f=>U b o r.2 f);exact aH.of ai h3 ab
       .rw[qe3 od]at m;exact ((k.done i x u y m od).same (λb o _ f=>ni z b o trivial f)).same (λb o r f=>U b o r.2 f)
      .rw[qe3 od]at m;exact k.rest i x u y m od
     case measure=>simp[intOf];omega
    .have ba:j=l.length:=by omega
     subst ba;have d1:¬(l.length:Int)<(l.length:Int):=od
     have HE:=jh (Jq k aq);clear k;go_wp2;go_ret;have h:=HE.out
     first|exact h|(rw[<-HL.out]at h;exact h)
def Y8(w:bx)(a:bj)(n c:Nat):(binOp .eql 24 (.slice a n c) (.n0)).run prog w =.ok (.bool a.isNone) w:=by simp only[binOp];simp[Op.equal,Op.maxDepth,Lib.run_equalIn_slice_nil w 9999 24 26 a n c 0 0 underlying24]
attribute [local go_sem] Y8
structure IU (W w:bx) (v:cg) (ts:aE) (vs:bk):Prop where
 own:lh W.heap.size w v vs
 len:vs.length=ts.length
 lies:∀(i:Nat) (t:Tr) (u:cg),ts[i]?=some t->vs[i]?=some u->bI (λ_=>True) W t u
def IU.more{W w w':bx}{v v':cg}{ts us:aE}{vs ns:bk}(h:IU W w v ts vs)(e:lh W.heap.size w' v' (vs++ns))(d:ns.length=us.length)(f:∀(i:Nat) (t:Tr) (u:cg),us[i]?=some t->ns[i]?=some u->bI (λ_=>True) W t u):IU W w' v' (ts++us) (vs++ns):=by
 refine⟨e,by simp[h.len,d],λi t u a b=>?_⟩
 by_cases c:i<ts.length
 .rw[jz c]at a;rw[jz (by rw[h.len];exact c)]at b;exact h.lies i t u a b
 .rw[ju od]at a;rw[ju (by rw[h.len];omega),h.len]at b;exact f _ t u a b
def Ei{t:Tr} : ∀{l:aE},t∈l->t.size<=sizes l
 | x::l,h=>by
  simp only[sizes];rcases zr.1 h with rfl|h
  .omega
  .have:=Ei h;omega
def cK.Zk{ok:br}{w:bx}{ts:aE}{a:bj}{V:bt}(h:cK ok w ts a V)(c:Nat):∃vs:bk,vs.length=ts.length/\gZ w (.slice a ts.length c) ts.length (flat vs)/\(flat vs).length=ts.length*5/\(∀u∈flat vs,u.oneCell')/\∀(i:Nat) (t:Tr) (u:cg),ts[i]?=some t->vs[i]?=some u->bI ok w t u:=by
 let vs:=(List.range ts.length).map V
 have g:vs.length=ts.length:=by simp[vs]
 have y:∀i,i<ts.length->vs[i]?=some (V i):=λi m=>by simp[vs,m]
 have G:∀i,i<ts.length->∃k n p s r l v,V i=af k n p s r l v:=λi m=>by have⟨_,_,_,_,k,n,p,s,r,l,v,H,_⟩:=h.2.1 i m;exact⟨k,n,p,s,r,l,v,H⟩
 have I:∀u∈vs,∃k n p s r l v,u=af k n p s r l v:=λu d=>by simp only[vs,ud,List.mem_range]at d;obtain⟨i,m,rfl⟩:=d;exact G i m
 have z:∀u∈vs,(nodeCells u).length=5:=λu d=>by obtain⟨k,n,p,s,r,l,v,rfl⟩:=I u d;rfl
 have B:∀(A:bk),(∀u∈A,(nodeCells u).length=5)->(flat A).length=A.length*5:=λA=>by
  induction A with
  | nil=>intro _;rfl
  | cons x A Q =>
   intro D;have R:=D x ot;have E:=Q (λu d=>D u (by simp[d]));simp only[flat,qd4,qT,jt]at E|-;omega
 refine⟨vs,g,?_,by rw[B vs z,g],λu d=>?_,λi t u C d=>?_⟩
 .cases a with
  | none =>
   have F:ts.length=0:=by
    rcases Nat.eq_zero_or_pos ts.length with e|e
    .exact e
    .have⟨b,o,E,_⟩:=h.2.1 0 e;cases E
   exact .inl ⟨c,by rw[F],F,by rw[jx (g.trans F)];rfl⟩
  | some J =>
   refine .inr ⟨J,c,rfl,λj u d=>?_⟩;have P:j<(flat vs).length:=(qv.1 d).1;rw[B vs z,g]at P;have m:j / 5<ts.length:=od
   have⟨b,o,e,_,k,n,p,s,r,l,v,H,K,L,M,N,O⟩:=h.2.1 (j / 5) m;have f:=flat_get vs z (j / 5) (j % 5) (V (j / 5)) (y _ m) od;rw[show j / 5*5+j % 5=j from by omega,d,H]at f;simp only[qk]at e;subst e;rw[addr_add];rcases (show j % 5=0\/j % 5=1\/j % 5=2\/j % 5=3\/j % 5=4 by omega)with q|q|q|q|q
   .rw[q]at f;simp[nodeCells,af]at f;rw[f,<-K,show o+j=o+j / 5*5 from by omega]
   .rw[q]at f;simp[nodeCells,af]at f;rw[f,<-L,show o+j=o+j / 5*5+1 from by omega]
   .rw[q]at f;simp[nodeCells,af]at f;rw[f,<-M,show o+j=o+j / 5*5+2 from by omega]
   .rw[q]at f;simp[nodeCells,af]at f;rw[f,<-N,show o+j=o+j / 5*5+3 from by omega]
   .rw[q]at f;simp[nodeCells,af]at f;rw[f,<-O,show o+j=o+j / 5*5+4 from by omega]
 .simp only[flat,qc1]at d;have⟨x,D,d⟩:=d;obtain⟨k,n,p,s,r,l,v,rfl⟩:=I x D;simp[nodeCells,af]at d;rcases d with rfl|rfl|rfl|rfl|rfl<;>rfl
 .have m:i<ts.length:=(qv.1 C).1;rw[y i m]at d;rw[qn m]at C;simp only[qk]at C d;subst C;subst d;exact h.2.2 i m
def XX (W:bx) (l:aE) (e:Ending) (w':bx):Prop:=∃v us,e =.returned v/\IU W w' v l us/\cm W w' none
def Jl{W:bx}{l:aE}{a:bj}{c:Nat}{V:bt}(h:cK (λ_=>True) W l a V)(hn:l.length<=20000000):Calls prog 83 #[.slice a l.length c] W (XX W l):=by
 have⟨m,p,n,s,v,q⟩:=h.Zk c
 cases a with
 | none =>
  have D:l=[]:=by
   cases l with
   | nil=>rfl
   | cons t l=>have⟨b,o,e,_⟩:=h.2.1 0 ot;cases e
  subst D;have B:Hid (XX W [] (.returned (.n0)) W):=⟨_,[],rfl,⟨qg1 _ _ _ _,rfl,λi x u h=>by simp at h⟩,bM _ _⟩;clear h n p q s v;go_enter func83,ntmps83;go_wp2;go_ret;exact B.out
 | some E =>
  have d:=aK (w:=W) (.cells #[] 26);have A:=jh (jj W (.cells #[] 26));have g:Hid (IU W (W.alloc (.cells #[] 26)) (.o (W.heap.size) 0 0) [] []):=⟨⟨rfl,.inr ⟨W.heap.size,0,#[],rfl,qS _,A.out,qS _,zE _,rfl,rfl⟩⟩,rfl,λi x u h=>by simp at h⟩;have⟨C,r,k⟩:=we (n.grow d) d q;clear h n q d;go_enter func83,ntmps83;go_wp2_with (at_builtin;refine ed rfl _ _ 24 rfl W.heap.size 26 underlying24 JD rfl ov _ ([]:bk).length (flat []) rfl g.out.own _ l.length (flat m) rfl s C.out v vf (by simp only[xT];omega) r.out.size ?_;intro z w' y d _;have f:=jh (dX r.out g.out.own (qS _) d.1);have j:=jh (g.out.more (v':=z) (w':=w') (us:=l) (ns:=m) (by unfold lh;rw[bV,qT,p];exact y) p k.out);clear y d);go_ret;exact⟨_,_,rfl,by simpa using j.out,f.out⟩
def IU.slice{W w:bx}{v:cg}{ts:aE}{vs:bk}(h:IU W w v ts vs):∃a c,v =.slice a ts.length c:=by
 rcases h.own.2 with⟨rfl,e⟩|⟨g,b,d,rfl,_⟩
 .exact⟨none,0,by rw[<-h.len,e]⟩
 .exact⟨_,b,by rw[h.len]⟩
def Dv(k n p:Int)(s:bo)(a:bj)(l c:Nat)(b:bj)(e d:Nat):∀(us:bk),(∀u∈us,(nodeCells u).length=5)->∀i,us[i]?=some (af k n p s a l c)->flat (us.set i (af k n p s b e d))=(flat us).set (i*5+4) (.slice b e d)
 | [],_,i,h=>by simp at h
 | x::us,f,0,h=>by simp only[kA,qk]at h;subst h;rfl
 | x::us,f,i+1,h=>by have j:=f x ot;have m:=Dv k n p s a l c b e d us (λu g=>f u (by simp[g])) i (by simpa using h);rw[xj,show flat (x::us.set i (af k n p s b e d))=nodeCells x++flat (us.set i (af k n p s b e d)) from rfl,m,show flat (x::us)=nodeCells x++flat us from rfl,jf0 _ _ od,j,show (i+1)*5+4 - 5=i*5+4 by omega]
def Sv (W:bx) (l:aE) (e:Ending) (w':bx):Prop:=∃a c V,e =.returned (.slice a l.length c)/\l.length<=c/\cK (W.heap.size <= ·) w' l a V/\cm W w' none
structure Wu (W w:bx) (g cap:Nat) (l:aE) (j:Nat) (us:bk):Prop where
 own:lh W.heap.size w (.o g l.length cap) us
 len:us.length=l.length
 done:∀(i:Nat) (x:Tr) (u:cg),l[i]?=some x->us[i]?=some u->i<j->bI (λb=>W.heap.size<=b/\b≠g) w x u
 rest:∀(i:Nat) (x:Tr) (u:cg),l[i]?=some x->us[i]?=some u->j<=i->bI (λ_=>True) W x u
 gr:cm W w none
def Gn{W w:bx}{g cap:Nat}{l:aE}{us:bk}(h:Wu W w g cap l l.length us)(n:l.length<=maxLen):Sv W l (.returned (.o g l.length cap)) w:=by have m:kQ W.heap.size w (.o g l.length cap) l us:=⟨h.own,h.len,λi x u f o=>(h.done i x u f o (qv.1 f).1).ae λb _ d=>⟨d.1,by simp[Value.ownBlock];exact d.2⟩⟩;have⟨a,c,V,e,j,k⟩:=m.done;exact⟨a,c,V,by rw[e],qP h.own e,⟨n,j,k⟩,h.gr⟩
def copiedN_any:∀(N:Nat) {W:bx}{l:aE}{a:bj}{c:Nat}{V:bt},sizes l<N->N<=20000000->cK (λ_=>True) W l a V->Calls prog 55 #[.slice a l.length c] W (Sv W l):=λN=>by
 induction N with
 | zero=>intro W l a c V hN;exact absurd hN (Nat.not_lt_zero _)
 | succ N ih =>
  intro W l a c V hN bm h;have bb:l.length<=sizes l:=cB l;have HC:=jh (Jl (c:=c) h od);have ah:Hid (∀{W:bx} {l:aE} {a:bj} {c:Nat} {V:bt},sizes l<N->cK (λ_=>True) W l a V->Calls prog 55 #[.slice a l.length c] W (Sv W l)):=λh1 O=>ih h1 od O;have HN:=jh hN;have bq:(l.length:Int)<=20000000:=od
  have ai:Hid (l.length<=maxLen):=h.1;clear h ih hN bb;go_enter func55,ntmps55;go_wp2_with ((go_at_call 83;(with_reducible refine HC.out.mono ?_);rintro e w1 ⟨v,I,rfl,hK,hg⟩;obtain⟨a2,c2,rfl⟩:=hK.slice;have Y:=jh hK;have HG:=jh hg;clear hg hK));have d:=Y.out.own;have T:=Y.out.len;rcases d.2 with⟨M,h0⟩|⟨g,bf,bl,M,r,hq,hc⟩
  .simp only[kl]at M;obtain⟨rfl,B,rfl⟩:=M;clear B;have m:I=[]:=jx h0;subst m;have ba:l=[]:=jx (by simpa using T.symm);subst ba;clear d T h0;simp only[xT];refine je4 1 ?_;rw[ka1];go_wp2;go_ret;exact⟨none,0,λ_=>.i 0,rfl,qS _,cK.nil _ _ _ _,HG⟩
  .simp only[kl]at M;obtain⟨rfl,B,rfl⟩:=M;clear B;have HB:=jh r;have ad:Hid (Wu W w1 g c2 l 0 I):=⟨d,T,λi x u _ _ h=>od,λi x u y m _=>Y.lies i x u y m,HG⟩;have HL:=jh T;clear d hq hc r T Y;go_loopw [8] (λiv wr=>∃(j:Nat) (I:bk),j<=l.length/\iv =.i j/\Wu W wr g c2 l j I) (λiv _=>l.length - (intOf iv).toNat)
   case atStart=>exact⟨0,I,zE _,rfl,ad⟩
   case round =>
    obtain⟨j,q,hj,rfl,k⟩:=hrel
    by_cases f:j<l.length
    .have E:j<q.length:=by rw[k.len];exact f
     have C:=k.rest j l[j] q[j] (qn f) (qn E) (qS _);have p:=zd f;have G:=qn f;generalize l[j]=x at C p G;have⟨xk,xn,xp,xs,n⟩:=x;have⟨Z,L,Vj,ev,it,D⟩:=C.yX;simp only[Tr.k0,Tr.n0,Tr.p0,Tr.s0,Tr.args0]at ev it D;have F:q[j]?=some (af xk xn xp xs Z n.length L):=by rw[qn E,ev]
     have O:∀u∈q,(nodeCells u).length=5:=λu m=>by
      obtain⟨i,R,rfl⟩:=ub m;have S:i<l.length:=by rw[<-k.len];exact R
      by_cases aC:i<j
      .have⟨_,_,_,e,_⟩:=(k.done i l[i] q[i] (qn S) (qn R) aC).yX;rw[e];rfl
      .have⟨_,_,_,e,_⟩:=(k.rest i l[i] q[i] (qn S) (qn R) od).yX;rw[e];rfl
     have d:lh W.heap.size wr (.o g q.length c2) q:=by rw[k.len];exact k.own
     have bp:g<wr.heap.size:=(zp d g rfl).2;have cc:wr.cell? ⟨g,j*5+4,none⟩=some (.slice Z n.length L):=by have:=qb0 d (g:=g) rfl (j*5+4) (.slice Z n.length L) (by rw[flat_get q O j 4 _ F od];rfl);rw[gI,qa2]at this;exact this
     have ar:Hid (sizes n<N):=by have h1:=Ei p;have h3:=HN.out;exact (by simp only[Tr.size]at h1;omega:sizes n<N)
     have J:=jh (ah (c:=L) ar ((D.ae (λ_ _ _=>trivial)).same (ni k.gr)));have d1:(j:Int)<(l.length:Int):=od
     have d2:(j:Int)<(I.length:Int):=by rw[HL.out];exact d1
     have⟨HI,K,au,H2,ax,s⟩:=wk k d F O G it;have aa:Hid (W.heap.size<=g):=HB.out;clear k d F O G it D p C;go_wp2_with ((go_at_call 55;(with_reducible refine J.out.mono ?_);rintro e X ⟨A,H,V3,rfl,Q,P,t⟩;have bh:=JJ t cc;have fz:=jd4 (yq K.out t (.inr oT)) (j*5+4);have aq:=jh P;have ab:=jh Q;have z:=jh t;clear P t Q J));go_roundw
     case rel =>
      have w:cm X (X.setCell ⟨g,j*5+4,none⟩ (.slice A n.length H)) (some g):=dY (bM _ _) _ _ _;have U:Same (λb=>b≠g) X (X.setCell ⟨g,j*5+4,none⟩ (.slice A n.length H)):=λb o r f=>qt (w.block b f (by simpa using r));have k:=HI.out;have ay:=aa.out;have bc:=yq K z (.inr oT);refine⟨j+1,q.set j (af xk xn xp xs A n.length H),od,OS,⟨?_,by simp[k.len],λi x u y m R=>?_,λi x u y m R=>?_,aG (aJ k.gr z) w ay⟩⟩
      .unfold lh;have:=(bc.stored (j*5+4) (.slice A n.length H)).1;rw[jf2,Dv xk xn xp xs Z n.length L A n.length H q H2.out j au.out,<-k.len];exact this
      .by_cases e:i=j
       .subst e;rw[ax.out]at y;simp only[qk]at y;subst y;rw[qh3 E]at m;simp only[qk]at m;subst m;have h3:cK (λb=>W.heap.size<=b/\b≠g) (X.setCell ⟨g,i*5+4,none⟩ (.slice A n.length H)) n A V3:=(aq.out.ae (λb _ r=>⟨km k.gr.size r,od⟩)).same (λb o r f=>U b o r.2 f);exact bI.mk (hk:=ab.out) V3 h3.1 s.2.2.2 s.1 s.2.1 s.2.2.1 h3.2.1 h3.2.2
       .rw[qe3 od]at m;exact ((k.done i x u y m od).same (λb o _ f=>ni z b o trivial f)).same (λb o r f=>U b o r.2 f)
      .rw[qe3 od]at m;exact k.rest i x u y m od
     case measure=>simp[intOf];omega
    .have aO:j=l.length:=by omega
     subst aO;have d1:¬(l.length:Int)<(l.length:Int):=od
     have HE:=jh (Gn k ai);clear k;go_wp2;go_ret;have h:=HE.out
     first|exact h|(rw[<-HL.out]at h;exact h)
