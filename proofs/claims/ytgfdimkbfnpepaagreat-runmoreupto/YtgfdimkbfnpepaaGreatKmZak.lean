import Derived.Test.YtgfdimkbfnpepaaGreatKmZaj
namespace Go.Proofs.YtgfdimkbfnpepaaGreat
set_option linter.all false
open Go.Proofs.Tryz
set_option maxRecDepth 100000
set_option maxHeartbeats 4000000
open Go.ChangeShapes Go.WideShapes Go.ChangeAt Go.RowKit
def TB{W:World}{T:Ty}{t:Int}{a:Option Addr}{l c:Nat}(f:aH (λ_=>True) W T (bY t a l c)) :
 Calls prog 44 #[bY t a l c] W λe w'=>e =.returned (.bool (!bn T))/\W.grownBy w' none:=by
 have b:=jh (aK (w:=W) (.cells #[.i t,.slice a l c] 54));have d:=qT W (.cells #[.i t,.slice a l c] 54);have m:=xq d;have n:=wy d;have H:=jh (nT (f.same (ni b)).low);unfold bY at H|-;clear f d;generalize bn T=g at *;go_enter func44,ntmps44;go_wp2_with fail;refine H.mono ?_;rintro e k ⟨rfl,h⟩;have j:=jh (aJ b h);clear h;go_wp2_with fail;go_ret;exact⟨rfl,j⟩
def ent_ag1:∀args w,(callFunc 44 args).run prog w =.ok (.enter 44 args) w:=λargs w=>OK
def JC{W:World}{s:List Ty}{a:Option Addr}{l c:Nat}(B:jo W s (.slice a l c)) :
 Calls prog 64 #[.slice a l c,.func (.func 44) #[] #[]] W λe w'=>∃r:Int,e =.returned (.i r)/\((0<=r/\s.all bn=false)\/(r = -1/\s.all bn=true))/\W.grownBy w' none:=by
 obtain⟨C,L,K⟩:=B.len;subst C;unfold maxLen at K;have G:=jh B;have Q:=ent_ag1;clear B;go_enter func64,ntmps64;go_wp2_with fail;go_loopw [8] (λD wr=>∃j:Nat,j<=s.length/\D =.i j/\(∀i (h:i<s.length),i<j->bn s[i]=true)/\W.grownBy wr none) (λD _=>s.length - (intOf D).toNat)
 case atStart=>exact⟨0,kB _,rfl,λi h A=>od,bM _ _⟩
 case round =>
  obtain⟨j,R,rfl,k,f⟩:=hrel;have g:=jh k;have m:=jh f;clear k
  by_cases n:j<s.length
  .obtain⟨b,o,t,P,T,S,rfl,O,F,z⟩:=(G.out.grow f).at j n;have v:bB s j=s[j]:=by unfold bB;rw[qt n];rfl
   rw[v]at z;rw[show 2*j=j*2 from ja5 _ _]at O F;rw[<-qe0]at F;have q:=jh (TB z);unfold bY at q;have I:(j:Int)<(s.length:Int):=od
   clear z f v
   cases p:bn s[j]with
   | true =>
    rw[p]at q;have y:=jh p;clear p;go_wp2_with fail;refine q.mono ?_;rintro e N ⟨rfl,u⟩;have w:=jh (aJ m u);clear u;go_wp2_with fail;go_roundw
    case rel =>
     refine⟨j+1,od,OF,λi h A=>?_,w⟩
     by_cases e:i=j
     .subst e;exact y
     .exact g i h od
    case measure=>simp[intOf];omega
   | false =>
    rw[p]at q;have y:=jh p;clear p;go_wp2_with fail;refine q.mono ?_;rintro e N ⟨rfl,u⟩;have w:=jh (aJ m u);clear u;go_wp2_with fail;go_ret;refine⟨_,rfl,.inl ⟨od,?_⟩,w⟩
    cases H:s.all bn with
    | false=>rfl
    | true=>have:=zr.1 H s[j] (zj n);rw[y.out]at this;cases this
  .have d:s.all bn=true:=zr.2 λx M=>by
    obtain⟨i,A,rfl⟩:=ye M;exact g i A od
   have E:=jh d;have J:¬(j:Int)<(s.length:Int):=od
   clear d f;go_wp2_with fail;go_ret;refine⟨_,rfl,.inr ⟨rfl,?_⟩,m⟩
   first|exact E|exact zr.1 E
def CL{W:World}{s:List Ty}{a:Option Addr}{l c:Nat}(f:jo W s (.slice a l c)) :
 Calls prog 43 #[.slice a l c,.func (.func 44) #[] #[]] W λe w'=>e =.returned (.bool (!s.all bn))/\W.grownBy w' none:=by
 have H:=jh (JC f);clear f;generalize s.all bn=q at *;go_enter func43,ntmps43;go_wp2_with fail;refine H.mono ?_;rintro e j ⟨r,rfl,d,b⟩;have g:=jh b;have h:=jh d;clear b d;go_wp2_with fail;go_ret;refine Lf.kZ ?_ g;rcases h with⟨i,rfl⟩|⟨rfl,rfl⟩
 .simp[i]
 .rfl
def Ga{W:World}{s:List Ty}{a:Option Addr}{l c:Nat}(d:jo W s (.slice a l c)) :
 Calls prog 23 #[.slice a l c] W λe w'=>e =.returned (.bool (s.all bn))/\W.grownBy w' none:=by
 have H:=jh (CL d);clear d;generalize s.all bn=q at *;go_enter func23,ntmps23;go_wp2_with fail;refine H.mono ?_;rintro e g ⟨rfl,b⟩;have f:=jh b;clear b;go_wp2_with fail;go_ret;refine Lf.kZ ?_ f;simp
open Go.ChangeShapes Go.WideShapes Go.ChangeAt Go.RowKit Pe
def Qz (l:List Int):A1:=.one (.d (.s 1 (l.map λk=>[.v (.i k)])))
def rowsD:List (List Tr)->List (List D)
 | []=>[]
 | r::rs=>[.s 5 (ndsD r)]::rowsD rs
def uq (p n:Int) (types:List Ty) (rows:List (List Tr)) (dk dn dp:Int) (ds:ByteArray) (da:List Tr):A1 :=
 .agg [.d (.v (.i p)),.d (.v (.i n)),.d (.s 2 (tysD types)),.d (.s 1 (rowsD rows)),.d (.v (.i dk)),.d (.v (.i dn)),.d (.v (.i dp)),.d (.v (.string ds)),.d (.s 5 (ndsD da))]
def ledA:iF->List A1
 | .no e=>[.agg [.d (.s 0 []),.d (.v (.bool false))],iA e]
 | .ok f ts=>[.agg [.d (.s 2 (tysD ts)),.d (.v (.bool f))],iA 0]
def iH (r:iF):AV:=.rz (ledA r)
def XI{W:World}{s:List Ty}{M:Value}{ks:List Int}{kb ko kc:Nat}(T:jo W s M)(hk:∀i (h:i<ks.length),W.cell? ⟨kb,ko+i,none⟩=some (.i ks[i]))(S:ks.length<=8) :
 Calls prog 102 #[M,.slice (some ⟨kb,ko,none⟩) ks.length kc] W λe w'=>e =.returned (.bool (sFq s ks))/\w'=W:=by
 obtain⟨sa,sc,V,rfl,U,x⟩:=T;have u:=x.1;unfold maxLen at u
 by_cases F:s.length<ks.length
 .have hz:(s.length:Int)<(ks.length:Int):=by omega
  have w:sFq s ks=false:=by
   cases h:sFq s ks with
   | false=>rfl
   | true=>have:=slq h;omega
  rw[w];clear x hk;go_enter func102,ntmps102;go_wp2_with fail;go_ret;exact⟨rfl,rfl⟩
 .have hz:¬(s.length:Int)<(ks.length:Int):=by omega
  have I:=jh x;have N:=jh hk;clear x hk;go_enter func102,ntmps102;go_wp2_with fail;go_loopw [14] (λH wr=>wr=W/\∃j:Nat,j<=ks.length/\H =.i j/\∀i (h:i<ks.length) (d:i<s.length),i<j->ks[i]=0\/(s[i]).t=ks[i]) (λH _=>ks.length - (intOf H).toNat)
  case atStart=>exact⟨rfl,0,kB _,rfl,λi _ _ h=>od⟩
  case round =>
   obtain⟨G,j,Z,rfl,a⟩:=hrel;replace G:=G.symm;subst G
   by_cases m:j<ks.length
   .have D:(j:Int)<(ks.length:Int):=by omega
    have q:j<s.length:=od
    have K:(j:Int)<(s.length:Int):=od
    have E:=N.out j m;obtain⟨b,o,rfl,_,t,X,l,c,L,Y,z⟩:=I.out.2.1 j q;have A:=I.out.2.2 j q;rw[L]at A;have v:(s[j]).t=t:=by obtain⟨_,_,_,e,_⟩:=A.inv;simp only[bY,qb3,qc1,xj,qg5,true_and]at e;exact e.1.symm
    have k:=jh a;have J:=jh v;obtain⟨n,r⟩:∃n,n=ks[j]:=⟨_,rfl⟩;rw[<-r]at E;have p:=jh r;clear a A L z v r F
    by_cases f:n=0
    .subst f;go_wp2_with fail;go_roundw
     case rel =>
      refine⟨by trivial,j+1,od,OF,λi B d C=>?_⟩
      by_cases e:i=j
      .subst e;exact .inl p.symm
      .exact k i B d od
     case measure=>simp[intOf];omega
    .have O:(n==0)=false:=by simpa using f
     have P:(n != 0)=true:=by simpa using f
     by_cases g:t=n
     .subst g;go_wp2_with fail;go_roundw
      case rel =>
       refine⟨by trivial,j+1,od,OF,λi B d C=>?_⟩
       by_cases e:i=j
       .subst e;exact .inr (J.trans p)
       .exact k i B d od
      case measure=>simp[intOf];omega
     .have Q:(t==n)=false:=by simpa using g
      have R:(t != n)=true:=by simpa using g
      have w:sFq s ks=false:=by
       cases h:sFq s ks with
       | false=>rfl
       | true =>
        have d:=((stand_iff s ks).1 h).2 j m q;rw[J.out,<-p.out]at d;rcases d with d|d
        .exact absurd d f
        .exact absurd d g
      have y:=jh w;clear w;go_wp2_with fail;go_ret;exact⟨by rw[y.out];rfl,rfl⟩
   .have D:¬(j:Int)<(ks.length:Int):=by omega
    have v:sFq s ks=true:=(stand_iff s ks).2 ⟨od,λi z d=>a i z d od⟩;have y:=jh v;clear a v;go_wp2_with fail;go_ret;exact⟨by rw[y.out];rfl,rfl⟩
def Ti{s:List Ty}{ks:List Int}(A:okTs s)(hk:0<ks.length)(z:ks.length<=8):Hd ⟨102,[dZ s,Qz ks],aQ (sFq s ks)⟩:=by
 refine⟨bK func102,λok w C h=>?_⟩
 match C,h with
 | [x,y],⟨n,p,_⟩ =>
  obtain⟨a,c,U,e,_⟩:=fH (n:fI ok w (.s 2 (tysD s)) x);subst e;obtain⟨l,j,V,q⟩:=rep_rowT _ (qv _) A n;obtain⟨G,kc,E,e,r,t,u,f⟩:=fH (p:fI ok w (.s 1 _) y);subst e;have d:∀(i:Nat) (g:i<ks.length),(ks.map λk=>[D.v (.i k)])[i]?=some [D.v (.i ks[i])]:=λi g=>by simp[g]
  obtain⟨⟨b,o,rfl,_⟩,_⟩:=f 0 _ 0 _ (d 0 hk) rfl;have hR:jo w s (.slice a s.length c):=⟨a,c,V,rfl,j,q.ae (λ_ _ _=>trivial)⟩;rw[l];have:=XI (ks:=ks) (kb:=b) (ko:=o) (kc:=kc) hR (λi g=>by obtain⟨⟨F,H,e,_,m⟩,B⟩:=f i _ 0 _ (d i g) rfl;simp only[qk,qb2,and_true]at e;obtain⟨rfl,rfl⟩:=e;rw[bW B]at m;simpa using m) z
  refine (by simpa using this:Calls _ _ _ _ _).mono ?_;rintro e I ⟨rfl,rfl⟩;exact⟨bM _ _,_,rfl,fI.v _⟩
section
variable {T U:Ty}
def Wx(b:okT T)(c:T.size<=50000000):Hd ⟨99,[tyA T],aQ (oF T)⟩:=jM (bK func99) λe w d h=>by
 match d,h with
 | [v],⟨a,_⟩=>exact tV ((jC b a).ae (λ_ h _=>h)) c
def Wy(b:okT T)(c:T.size<=50000000):Hd ⟨104,[tyA T],aQ (A7 T)⟩:=jM (bK func104) λe w d h=>by
 match d,h with
 | [v],⟨a,_⟩=>exact Jp ((jC b a).ae (λ_ h _=>h)) c
def WC(b:okT T)(c:T.size<=50000000):Hd ⟨112,[tyA T],aQ (eB T)⟩:=jM (bK func112) λe w d h=>by
 match d,h with
 | [v],⟨a,_⟩=>exact BQ ((jC b a).ae (λ_ h _=>h)) c
def Tj(b:okT T)(c:T.size<=50000000):Hd ⟨114,[tyA T],aQ (storeT T)⟩:=jM (bK func114) λe w d h=>by
 match d,h with
 | [v],⟨a,_⟩=>exact KA ((jC b a).ae (λ_ h _=>h)) c
def Po(c:okT T)(e:T.size<=50000000)(d:okT U):Hd ⟨39,[tyA T,tyA U],aQ (sameT T U)⟩:=jM (bK func39) λg w f h=>by
 match f,h with
 | [v,u],⟨a,b,_⟩=>exact Ik ((jC c a).ae (λ_ h _=>h)) ((jC d b).ae (λ_ h _=>h)) e
end
def lg{x y:List Ty}{m n:Nat}(B:okTs x)(C:okTs y)(z:m=2\/x=[])(A:n=2\/y=[])(u:x.length+y.length<=20000000):Hd ⟨105,[.one (.d (.s 1 [[.s m (tysD x)],[.s n (tysD y)]]))],.of (dZ (x++y))⟩:=by
 refine⟨bK func105,λok w k h=>?_⟩
 match k,h with
 | [v],⟨o,_⟩ =>
  obtain⟨a,c,U,rfl,_,_,_,i⟩:=fH (o:fI ok w (.s 1 _) v);obtain⟨⟨b,q,rfl,_,f⟩,D⟩:=i 0 _ 0 _ rfl rfl;obtain⟨⟨H,I,e,_,g⟩,E⟩:=i 1 _ 0 _ rfl rfl;simp only[qk,qb2,and_true]at e;obtain⟨rfl,rfl⟩:=e;obtain⟨K,L,F,ex,_,r⟩:=jR B z D;obtain⟨M,N,G,l,_,t⟩:=jR C A E;rw[ex]at f;rw[l]at g;refine (TT (qc:=c) (by simpa using f) (by simpa using g) r t u).mono ?_;rintro e J ⟨v,k,rfl,p,j⟩;exact⟨j,v,rfl,p.rep j (by simp[maxLen];omega)⟩
def YZ{x y:List Ty}{m n:Nat}(k:okTs x)(l:okTs y)(i:m=2\/x=[])(j:n=2\/y=[])(hz:tysizes x<=50000000):Hd ⟨38,[.one (.d (.s m (tysD x))),.one (.d (.s n (tysD y))),.one (.d (.v (.func (.func 39) #[] #[])))],aQ (sameTs x y)⟩ :=
 jM (bK func38) λok w o h=>by
  match o,h with
  | [u,v,f],⟨a,b,c,_⟩ =>
   obtain⟨r,t,p,rfl,_,e⟩:=jR k i a;obtain⟨z,A,q,rfl,_,g⟩:=jR l j b;have:=bW c;subst this;exact tY (e.ae (λ_ _ _=>trivial)) (g.ae (λ_ _ _=>trivial)) hz w (bM _ _)
def KZ{l:List Tr}(f:okNs l):Hd ⟨90,[CW l],aQ (mintsTs l)⟩:=jM (bK func90) λok w g h=>by
 match g,h with
 | [v],⟨b,_⟩ =>
  obtain⟨a,c,U,e,_⟩:=fH (b:fI ok w (.s 5 (ndsD l)) v);subst e;obtain⟨e,i,V,d⟩:=rep_rowN _ (qv _) f b;rw[e];exact mints_any _ (d.ae (λ_ _ _=>trivial)) (qv _)
def C9{s:List Ty}(f:okTs s):Hd ⟨23,[dZ s],aQ (s.all bn)⟩:=jM (bK func23) λok w g h=>by
 match g,h with
 | [v],⟨b,_⟩ =>
  obtain⟨a,c,V,rfl,e,d⟩:=jR f (.inl rfl) b;exact Ga ⟨a,c,V,rfl,e,d.ae (λ_ _ _=>trivial)⟩
def pz(t:Int)(az:List Ty):Hd ⟨106,[iA t,dZ az],.of (tyA (.nd t az))⟩:=aF func106 []
def dA(t:Int):Hd ⟨106,[iA t,nilA],.of (tyA (.nd t []))⟩:=by
 have h:Hd ⟨106,[iA t,nilA],.of (.agg [.d (.v (.i t)),.d (.s 0 [])])⟩:=aF func106 [];exact h.conv (λ_ _ _ h=>h) (λg w v ⟨f,e,c⟩=>by
  match f,c with
  | [x,y],⟨a,b,_⟩=>exact⟨_,e,a,gG b,trivial⟩)
def vS{s top:List Ty}(b:okTs s)(c:okTs top)(a:top.length+s.length<=20000000):Hd ⟨103,[dZ s,dZ top],iH (fQ s top)⟩ :=
 aF func103 [⟨_,lg c b (.inl rfl) (.inl rfl) a⟩]
def AO{s:List Ty}(b:okTs s)(a:s.length<=20000000):Hd ⟨103,[dZ s,nilA],iH (fQ s [])⟩ :=
 aF func103 [⟨_,lg (m:=0) (x:=[]) (y:=s) trivial b (.inr rfl) (.inl rfl) (by simpa using a)⟩]
def ag(e:Int):Hd ⟨22,[iA e],iH (.no e)⟩:=aF func22 []
open Pe
def iX{s:List Ty}{ks:List Int}(h:sFq s (0::ks)=true):∃t a r,s =.nd t a::r/\sFq r ks=true:=by
 cases s with
 | nil=>simp[sFq]at h
 | cons T r =>
  simp only[sFq,qu]at h;obtain⟨t,a⟩:=T;exact⟨t,a,r,rfl,h.2⟩
def fT{s:List Ty}{k:Int}{ks:List Int}(hk:k≠0)(h:sFq s (k::ks)=true):∃a r,s =.nd k a::r/\sFq r ks=true:=by
 cases s with
 | nil=>simp[sFq]at h
 | cons T r =>
  simp only[sFq,qu,qc7,ki]at h;obtain⟨t,a⟩:=T;obtain⟨b|b,c⟩:=h
  .exact absurd b hk
  .simp only[Ty.t]at b;subst b;exact⟨a,r,rfl,c⟩
def st2{u v j k:Int}{c d:List Ty}(f:j≠0)(hk:k≠0)(h:sFq [.nd u c,.nd v d] [j,k]=true):u=j/\v=k:=by obtain⟨a,r,e,b⟩:=fT f h;simp only[xj,Ty.nd.injEq]at e;obtain⟨⟨rfl,_⟩,rfl⟩:=e;obtain⟨a,r,e,_⟩:=fT hk b;simp only[xj,Ty.nd.injEq]at e;exact⟨rfl,e.1.1⟩
def lZ{k:Int}{a:List Ty}(h:bn (.nd k a)=true)(c:bT k=0):a=[]:=by have b:=xL h;simp only[Ty.args,Ty.t,c]at b;exact ju od
def GR{a:List Ty}(h:a.length=1):∃t b,a=[.nd t b]:=by
 match a,h with
 | [.nd t b],_=>exact⟨t,b,rfl⟩
def Uk{a:List Ty}(h:a.length=2):∃t b u c,a=[.nd t b,.nd u c]:=by
 match a,h with
 | [.nd t b,.nd u c],_=>exact⟨t,b,u,c,rfl⟩
def Bi{k:Int}{a:List Ty}(h:bn (.nd k a)=true)(d:bT k=1):∃t b,a=[.nd t b]:=by have c:=xL h;simp only[Ty.args,Ty.t,d]at c;exact GR od
def vY{k:Int}{a:List Ty}(h:bn (.nd k a)=true)(e:bT k=2):∃t b u c,a=[.nd t b,.nd u c]:=by have d:=xL h;simp only[Ty.args,Ty.t,e]at d;exact Uk od
def sz_len:∀{s:List Ty},s.all bn=true->tysizes s<=300*s.length
 | [],_=>by simp[tysizes]
 | T::s,h=>by simp only[xf,qu]at h;have a:=sz_len h.2;have:=h.1;simp only[bn,qu,ki]at this;simp only[tysizes,jn];omega
def dD{s:List Ty}(h:s.all bn=true)(a:s.length<=1000):tysizes s<=300000:=by have:=sz_len h;omega
section
variable {T U:Ty}{b:Bool}
def aN{s:List Ty}{k:Int}{ks:List Int}(c:okTs s)(h:sFq s (k::ks)=b)(a:(k::ks).length<=8:=by simp):Hd ⟨102,[dZ s,Qz (k::ks)],aQ b⟩:=h ▸ Ti c ot a
def aS{s:List Ty}{k:Int}{ks:List Int}(b:okTs s)(h:sFq s (k::ks)=true:=by simp[sFq,Ty.t])(a:(k::ks).length<=8:=by simp):Hd ⟨102,[dZ s,Qz (k::ks)],aQ true⟩:=aN b h a
def dQ{s top:List Ty}(b:okTs s:=by simp_all [okTs,okT,bD])(c:okTs top:=by simp_all [okTs,okT,bD])(a:top.length+s.length<=20000000:=by simp only[jn,xT]at *;omega):Hd ⟨103,[dZ s,dZ top],iH (fQ s top)⟩:=vS b c a
abbrev HI (f:FuncId) (p n:Int) (types:List Ty) (rows:List (List Tr)) (dk dn dp:Int) (ds:ByteArray) (da:List Tr) (s:List Ty) (F:Ins->List Ty->iF):Prop:=Hd ⟨f,[uq p n types rows dk dn dp ds da,dZ s],iH (F ⟨p,n,types,rows,.nd dk dn dp ds da⟩ s)⟩
def gu(a:okT T)(d:T.size<=50000000)(c:okT U)(h:sameT T U=b):Hd ⟨39,[tyA T,tyA U],aQ b⟩:=h ▸ Po a d c
def uQ(a:okT T)(c:T.size<=50000000)(h:oF T=b):Hd ⟨99,[tyA T],aQ b⟩:=h ▸ Wx a c
def Ak(a:okT T)(c:T.size<=50000000)(h:A7 T=b):Hd ⟨104,[tyA T],aQ b⟩:=h ▸ Wy a c
def pG(a:okT T)(c:T.size<=50000000)(h:eB T=b):Hd ⟨112,[tyA T],aQ b⟩:=h ▸ WC a c
def FO(a:okT T)(c:T.size<=50000000)(h:storeT T=b):Hd ⟨114,[tyA T],aQ b⟩:=h ▸ Tj a c
end
def H_two93:Hd ⟨110,[iA 93],aQ false⟩:=aF func110 []
def H_two94:Hd ⟨110,[iA 94],aQ false⟩:=aF func110 []
def H_two95:Hd ⟨110,[iA 95],aQ false⟩:=aF func110 []
def H_two69:Hd ⟨110,[iA 69],aQ true⟩:=aF func110 []
def H_two70:Hd ⟨110,[iA 70],aQ true⟩:=aF func110 []
def H_two71:Hd ⟨110,[iA 71],aQ true⟩:=aF func110 []
def H_two72:Hd ⟨110,[iA 72],aQ true⟩:=aF func110 []
section
variable {n:Int}{types:List Ty}{rows:List (List Tr)}{dk dn dp:Int}{ds:ByteArray}{da:List Tr}{s:List Ty}
def MC(g:s.all bn=true)(m:s.length<=1000)(r:types.all bn=true):HI 69 46 n types rows dk dn dp ds da s bO:=by
 unfold HI;have j:=ak g
 cases i:sFq s [0,0]with
 | false =>
  have e:bO ⟨46,n,types,rows,.nd dk dn dp ds da⟩ s =.no 5:=by simp[bO,i]
  rw[e];exact aF func69 [⟨_,aN j i⟩,⟨_,ag 5⟩]
 | true =>
  obtain⟨d,a,u,rfl,c⟩:=iX i;obtain⟨f,b,h,rfl,l⟩:=iX c;have v:=dD g m;simp only[xf,qu]at g;obtain⟨o,p,q⟩:=g;have e:bO ⟨46,n,types,rows,.nd dk dn dp ds da⟩ ((.nd d a)::(.nd f b)::h)=fQ h [.nd 11 [(.nd d a),(.nd f b)]]:=by simp[bO,sFq,bB,Ty.t]
  rw[e];exact aF func69 [⟨_,aS (s:=((.nd d a)::(.nd f b)::h)) (k:=0) (ks:=[0]) j⟩,⟨_,pz 11 [(.nd d a),(.nd f b)]⟩,⟨_,dQ (s:=h) (top:=[.nd 11 [(.nd d a),(.nd f b)]])⟩]
def ME(c:s.all bn=true)(l:s.length<=1000)(p:types.all bn=true):HI 69 47 n types rows dk dn dp ds da s bO:=by
 unfold HI;have h:=ak c
 cases g:sFq s [11]with
 | false =>
  have e:bO ⟨47,n,types,rows,.nd dk dn dp ds da⟩ s =.no 5:=by simp[bO,g]
  rw[e];exact aF func69 [⟨_,aN h g⟩,⟨_,ag 5⟩]
 | true =>
  obtain⟨m,d,rfl,i⟩:=fT ov g;have q:=dD c l;simp only[xf,qu]at c;obtain⟨j,o⟩:=c;obtain⟨u0,a,f,b,rfl⟩:=vY j ov;have e:bO ⟨47,n,types,rows,.nd dk dn dp ds da⟩ ((.nd 11 [.nd u0 a,.nd f b])::d)=fQ d [(.nd u0 a),(.nd f b)]:=by simp[bO,sFq,bB,Ty.args,Ty.t]
  rw[e];exact aF func69 [⟨_,aS (s:=((.nd 11 [.nd u0 a,.nd f b])::d)) (k:=11) (ks:=[]) h⟩,⟨_,dQ (s:=d) (top:=[(.nd u0 a),(.nd f b)])⟩]
def MF(b:s.all bn=true)(l:s.length<=1000)(p:types.all bn=true):HI 69 48 n types rows dk dn dp ds da s bO:=by
 unfold HI;have f:=ak b
 cases d:sFq s [11]with
 | false =>
  have e:bO ⟨48,n,types,rows,.nd dk dn dp ds da⟩ s =.no 5:=by simp[bO,d]
  rw[e];exact aF func69 [⟨_,aN f d⟩,⟨_,ag 5⟩]
 | true =>
  obtain⟨m,c,rfl,h⟩:=fT ov d;have q:=dD b l;simp only[xf,qu]at b;obtain⟨j,o⟩:=b;obtain⟨u0,a,i,g,rfl⟩:=vY j ov;have e:bO ⟨48,n,types,rows,.nd dk dn dp ds da⟩ ((.nd 11 [.nd u0 a,.nd i g])::c)=fQ c [(.nd u0 a)]:=by simp[bO,sFq,bB,Ty.args,Ty.t]
  rw[e];exact aF func69 [⟨_,aS (s:=((.nd 11 [.nd u0 a,.nd i g])::c)) (k:=11) (ks:=[]) f⟩,⟨_,dQ (s:=c) (top:=[(.nd u0 a)])⟩]
def MG(b:s.all bn=true)(l:s.length<=1000)(p:types.all bn=true):HI 69 49 n types rows dk dn dp ds da s bO:=by
 unfold HI;have g:=ak b
 cases f:sFq s [11]with
 | false =>
  have e:bO ⟨49,n,types,rows,.nd dk dn dp ds da⟩ s =.no 5:=by simp[bO,f]
  rw[e];exact aF func69 [⟨_,aN g f⟩,⟨_,ag 5⟩]
 | true =>
  obtain⟨m,c,rfl,i⟩:=fT ov f;have q:=dD b l;simp only[xf,qu]at b;obtain⟨j,o⟩:=b;obtain⟨u0,h,d,a,rfl⟩:=vY j ov;have e:bO ⟨49,n,types,rows,.nd dk dn dp ds da⟩ ((.nd 11 [.nd u0 h,.nd d a])::c)=fQ c [(.nd d a)]:=by simp[bO,sFq,bB,Ty.args,Ty.t]
  rw[e];exact aF func69 [⟨_,aS (s:=((.nd 11 [.nd u0 h,.nd d a])::c)) (k:=11) (ks:=[]) g⟩,⟨_,dQ (s:=c) (top:=[(.nd d a)])⟩]
def MH(f:s.all bn=true)(m:s.length<=1000)(i:types.all bn=true)(o:types.length=1):HI 69 50 n types rows dk dn dp ds da s bO:=by
 unfold HI;obtain⟨c,d,rfl⟩:=GR o;have r:=ak i;have v:=dD i ot;clear i;have j:=ak f
 cases h:sFq s [0]with
 | false =>
  have e:bO ⟨50,n,[.nd c d],rows,.nd dk dn dp ds da⟩ s =.no 5:=by simp[bO,h]
  rw[e];exact aF func69 [⟨_,aN j h⟩,⟨_,ag 5⟩]
 | true =>
  obtain⟨b,a,g,rfl,l⟩:=iX h;have u:=dD f m;simp only[xf,qu]at f;obtain⟨p,q⟩:=f;have e:bO ⟨50,n,[.nd c d],rows,.nd dk dn dp ds da⟩ ((.nd b a)::g)=fQ g [.nd 12 [(.nd b a),(.nd c d)]]:=by simp[bO,sFq,bB,Ty.t]
  rw[e];exact aF func69 [⟨_,aS (s:=((.nd b a)::g)) (k:=0) (ks:=[]) j⟩,⟨_,pz 12 [(.nd b a),(.nd c d)]⟩,⟨_,dQ (s:=g) (top:=[.nd 12 [(.nd b a),(.nd c d)]])⟩]
def MI(f:s.all bn=true)(m:s.length<=1000)(i:types.all bn=true)(o:types.length=1):HI 69 51 n types rows dk dn dp ds da s bO:=by
 unfold HI;obtain⟨c,d,rfl⟩:=GR o;have r:=ak i;have v:=dD i ot;clear i;have j:=ak f
 cases h:sFq s [0]with
 | false =>
  have e:bO ⟨51,n,[.nd c d],rows,.nd dk dn dp ds da⟩ s =.no 5:=by simp[bO,h]
  rw[e];exact aF func69 [⟨_,aN j h⟩,⟨_,ag 5⟩]
 | true =>
  obtain⟨b,a,g,rfl,l⟩:=iX h;have u:=dD f m;simp only[xf,qu]at f;obtain⟨p,q⟩:=f;have e:bO ⟨51,n,[.nd c d],rows,.nd dk dn dp ds da⟩ ((.nd b a)::g)=fQ g [.nd 12 [(.nd c d),(.nd b a)]]:=by simp[bO,sFq,bB,Ty.t]
  rw[e];exact aF func69 [⟨_,aS (s:=((.nd b a)::g)) (k:=0) (ks:=[]) j⟩,⟨_,pz 12 [(.nd c d),(.nd b a)]⟩,⟨_,dQ (s:=g) (top:=[.nd 12 [(.nd c d),(.nd b a)]])⟩]
def MJ(c:s.all bn=true)(i:s.length<=1000)(m:types.all bn=true):HI 69 53 n types rows dk dn dp ds da s bO:=by
 unfold HI;have g:=ak c
 cases f:sFq s [0]with
 | false =>
  have e:bO ⟨53,n,types,rows,.nd dk dn dp ds da⟩ s =.no 5:=by simp[bO,f]
  rw[e];exact aF func69 [⟨_,aN g f⟩,⟨_,ag 5⟩]
 | true =>
  obtain⟨b,a,d,rfl,h⟩:=iX f;have o:=dD c i;simp only[xf,qu]at c;obtain⟨j,l⟩:=c;have e:bO ⟨53,n,types,rows,.nd dk dn dp ds da⟩ ((.nd b a)::d)=fQ d [.nd 9 [(.nd b a)]]:=by simp[bO,sFq,bB,Ty.t]
  rw[e];exact aF func69 [⟨_,aS (s:=((.nd b a)::d)) (k:=0) (ks:=[]) g⟩,⟨_,pz 9 [(.nd b a)]⟩,⟨_,dQ (s:=d) (top:=[.nd 9 [(.nd b a)]])⟩]
def MK(d:s.all bn=true)(g:s.length<=1000)(c:types.all bn=true)(f:types.length=1):HI 69 54 n types rows dk dn dp ds da s bO:=by
 unfold HI;obtain⟨a,b,rfl⟩:=GR f;have i:=ak c;have j:=dD c ot;clear c;have h:=ak d;have e:bO ⟨54,n,[.nd a b],rows,.nd dk dn dp ds da⟩ s=fQ s [.nd 9 [(.nd a b)]]:=by simp[bO,bB]
 rw[e];exact aF func69 [⟨_,pz 9 [(.nd a b)]⟩,⟨_,dQ (s:=s) (top:=[.nd 9 [(.nd a b)]])⟩]
def FP(d:s.all bn=true)(g:s.length<=1000)(c:types.all bn=true)(f:types.length=1):HI 70 56 n types rows dk dn dp ds da s aP:=by
 unfold HI;obtain⟨a,b,rfl⟩:=GR f;have i:=ak c;have j:=dD c ot;clear c;have h:=ak d;have e:aP ⟨56,n,[.nd a b],rows,.nd dk dn dp ds da⟩ s=fQ s [.nd 10 [(.nd a b)]]:=by simp[aP,bB]
 rw[e];exact aF func70 [⟨_,pz 10 [(.nd a b)]⟩,⟨_,dQ (s:=s) (top:=[.nd 10 [(.nd a b)]])⟩]
def FQ(i:s.all bn=true)(o:s.length<=1000)(u:types.all bn=true):HI 70 57 n types rows dk dn dp ds da s aP:=by
 unfold HI;have f:=ak i
 cases j:sFq s [0,10]with
 | false =>
  have e:aP ⟨57,n,types,rows,.nd dk dn dp ds da⟩ s =.no 5:=by simp[aP,j,bB,Ty.args]
  rw[e];exact aF func70 [⟨_,aN f j⟩,⟨_,ag 5⟩]
 | true =>
  obtain⟨g,c,v,rfl,d⟩:=iX j;obtain⟨p,b,rfl,l⟩:=fT ov d;have w:=dD i o;simp only[xf,qu]at i;obtain⟨q,m,r⟩:=i;obtain⟨u1,a,rfl⟩:=Bi m ov
  cases h:sameT (.nd g c) (.nd u1 a)with
  | false =>
   have e:aP ⟨57,n,types,rows,.nd dk dn dp ds da⟩ ((.nd g c)::(.nd 10 [.nd u1 a])::b) =.no 5:=by simp[aP,sFq,bB,Ty.args,Ty.t,h]
   rw[e];exact aF func70 [⟨_,aS (s:=((.nd g c)::(.nd 10 [.nd u1 a])::b)) (k:=0) (ks:=[10]) f⟩,⟨_,gu oE oR oE h⟩,⟨_,ag 5⟩]
  | true =>
   have e:aP ⟨57,n,types,rows,.nd dk dn dp ds da⟩ ((.nd g c)::(.nd 10 [.nd u1 a])::b)=fQ ((.nd 10 [.nd u1 a])::b) []:=by simp[aP,sFq,bB,Ty.args,Ty.t,h]
   rw[e];exact aF func70 [⟨_,aS (s:=((.nd g c)::(.nd 10 [.nd u1 a])::b)) (k:=0) (ks:=[10]) f⟩,⟨_,gu oE oR oE h⟩,⟨_,AO (s:=((.nd 10 [.nd u1 a])::b)) oE (by simp only[jn]at *;omega)⟩]
def FT(h:s.all bn=true)(j:s.length<=1000)(g:types.all bn=true)(i:types.length=2):HI 70 61 n types rows dk dn dp ds da s aP:=by
 unfold HI;obtain⟨a,b,c,d,rfl⟩:=Uk i;have l:=ak g;have m:=dD g ot;clear g;have k:=ak h
 cases f:oF (.nd a b)with
 | false =>
  have e:aP ⟨61,n,[.nd a b,.nd c d],rows,.nd dk dn dp ds da⟩ s =.no 5:=by simp[aP,f,bB]
  rw[e];exact aF func70 [⟨_,uQ oE oR f⟩,⟨_,ag 5⟩]
 | true =>
  have e:aP ⟨61,n,[.nd a b,.nd c d],rows,.nd dk dn dp ds da⟩ s=fQ s [.nd 13 [(.nd a b),(.nd c d)]]:=by simp[aP,f,bB]
  rw[e];exact aF func70 [⟨_,uQ oE oR f⟩,⟨_,pz 13 [(.nd a b),(.nd c d)]⟩,⟨_,dQ (s:=s) (top:=[.nd 13 [(.nd a b),(.nd c d)]])⟩]
def FU(m:s.all bn=true)(r:s.length<=1000)(x:types.all bn=true):HI 70 62 n types rows dk dn dp ds da s aP:=by
 unfold HI;have g:=ak m
 cases o:sFq s [0,13]with
 | false =>
  have e:aP ⟨62,n,types,rows,.nd dk dn dp ds da⟩ s =.no 5:=by simp[aP,o,bB,Ty.args]
  rw[e];exact aF func70 [⟨_,aN g o⟩,⟨_,ag 5⟩]
 | true =>
  obtain⟨h,d,y,rfl,j⟩:=iX o;obtain⟨u,c,rfl,p⟩:=fT ov j;have z:=dD m r;simp only[xf,qu]at m;obtain⟨v,q,w⟩:=m;obtain⟨u1,f,b,a,rfl⟩:=vY q ov
  cases i:sameT (.nd h d) (.nd u1 f)with
  | false =>
   have e:aP ⟨62,n,types,rows,.nd dk dn dp ds da⟩ ((.nd h d)::(.nd 13 [.nd u1 f,.nd b a])::c) =.no 5:=by simp[aP,sFq,bB,Ty.args,Ty.t,i]
   rw[e];exact aF func70 [⟨_,aS (s:=((.nd h d)::(.nd 13 [.nd u1 f,.nd b a])::c)) (k:=0) (ks:=[13]) g⟩,⟨_,gu oE oR oE i⟩,⟨_,ag 5⟩]
  | true =>
   cases l:A7 (.nd b a)with
   | false =>
    have e:aP ⟨62,n,types,rows,.nd dk dn dp ds da⟩ ((.nd h d)::(.nd 13 [.nd u1 f,.nd b a])::c) =.no 5:=by simp[aP,sFq,bB,Ty.args,Ty.t,i,l]
    rw[e];exact aF func70 [⟨_,aS (s:=((.nd h d)::(.nd 13 [.nd u1 f,.nd b a])::c)) (k:=0) (ks:=[13]) g⟩,⟨_,gu oE oR oE i⟩,⟨_,Ak oE oR l⟩,⟨_,ag 5⟩]
   | true =>
    have e:aP ⟨62,n,types,rows,.nd dk dn dp ds da⟩ ((.nd h d)::(.nd 13 [.nd u1 f,.nd b a])::c)=fQ c [.nd 9 [(.nd b a)]]:=by simp[aP,sFq,bB,Ty.args,Ty.t,i,l]
    rw[e];exact aF func70 [⟨_,aS (s:=((.nd h d)::(.nd 13 [.nd u1 f,.nd b a])::c)) (k:=0) (ks:=[13]) g⟩,⟨_,gu oE oR oE i⟩,⟨_,Ak oE oR l⟩,⟨_,pz 9 [(.nd b a)]⟩,⟨_,dQ (s:=c) (top:=[.nd 9 [(.nd b a)]])⟩]
def FV(p:s.all bn=true)(w:s.length<=1000)(B:types.all bn=true):HI 70 63 n types rows dk dn dp ds da s aP:=by
 unfold HI;have h:=ak p
 cases q:sFq s [0,9,13]with
 | false =>
  have e:aP ⟨63,n,types,rows,.nd dk dn dp ds da⟩ s =.no 5:=by simp[aP,q,bB,Ty.args]
  rw[e];exact aF func70 [⟨_,aN h q⟩,⟨_,ag 5⟩]
 | true =>
  obtain⟨i,f,C,rfl,l⟩:=iX q;obtain⟨x,D,rfl,m⟩:=fT ov l;obtain⟨y,d,rfl,r⟩:=fT ov m;have E:=dD p w;simp only[xf,qu]at p;obtain⟨z,u,v,A⟩:=p;obtain⟨u1,g,rfl⟩:=Bi u ov;obtain⟨u2,a,c,b,rfl⟩:=vY v ov
  cases j:sameT (.nd i f) (.nd u2 a)with
  | false =>
   have e:aP ⟨63,n,types,rows,.nd dk dn dp ds da⟩ ((.nd i f)::(.nd 9 [.nd u1 g])::(.nd 13 [.nd u2 a,.nd c b])::d) =.no 5:=by simp[aP,sFq,bB,Ty.args,Ty.t,j]
   rw[e];exact aF func70 [⟨_,aS (s:=((.nd i f)::(.nd 9 [.nd u1 g])::(.nd 13 [.nd u2 a,.nd c b])::d)) (k:=0) (ks:=[9,13]) h⟩,⟨_,gu oE oR oE j⟩,⟨_,ag 5⟩]
  | true =>
   cases o:sameT (.nd u1 g) (.nd c b)with
   | false =>
    have e:aP ⟨63,n,types,rows,.nd dk dn dp ds da⟩ ((.nd i f)::(.nd 9 [.nd u1 g])::(.nd 13 [.nd u2 a,.nd c b])::d) =.no 5:=by simp[aP,sFq,bB,Ty.args,Ty.t,j,o]
    rw[e];exact aF func70 [⟨_,aS (s:=((.nd i f)::(.nd 9 [.nd u1 g])::(.nd 13 [.nd u2 a,.nd c b])::d)) (k:=0) (ks:=[9,13]) h⟩,⟨_,gu oE oR oE j⟩,⟨_,gu oE oR oE o⟩,⟨_,ag 5⟩]
   | true =>
    have e:aP ⟨63,n,types,rows,.nd dk dn dp ds da⟩ ((.nd i f)::(.nd 9 [.nd u1 g])::(.nd 13 [.nd u2 a,.nd c b])::d)=fQ ((.nd 13 [.nd u2 a,.nd c b])::d) []:=by simp[aP,sFq,bB,Ty.args,Ty.t,j,o]
    rw[e];exact aF func70 [⟨_,aS (s:=((.nd i f)::(.nd 9 [.nd u1 g])::(.nd 13 [.nd u2 a,.nd c b])::d)) (k:=0) (ks:=[9,13]) h⟩,⟨_,gu oE oR oE j⟩,⟨_,gu oE oR oE o⟩,⟨_,AO (s:=((.nd 13 [.nd u2 a,.nd c b])::d)) oE (by simp only[jn]at *;omega)⟩]
def Pw(l:s.all bn=true)(p:s.length<=1000)(v:types.all bn=true):HI 74 73 n types rows dk dn dp ds da s dI:=by
 unfold HI;have f:=ak l
 cases m:sFq s [0,0]with
 | false =>
  have e:dI ⟨73,n,types,rows,.nd dk dn dp ds da⟩ s =.no 5:=by simp[dI,m,bB]
  rw[e];exact aF func74 [⟨_,aN f m⟩,⟨_,ag 5⟩]
 | true =>
  obtain⟨c,a,w,rfl,i⟩:=iX m;obtain⟨g,d,b,rfl,o⟩:=iX i;have x:=dD l p;simp only[xf,qu]at l;obtain⟨q,r,u⟩:=l
  cases h:sameT (.nd c a) (.nd g d)with
  | false =>
   have e:dI ⟨73,n,types,rows,.nd dk dn dp ds da⟩ ((.nd c a)::(.nd g d)::b) =.no 5:=by simp[dI,sFq,bB,Ty.t,h]
   rw[e];exact aF func74 [⟨_,aS (s:=((.nd c a)::(.nd g d)::b)) (k:=0) (ks:=[0]) f⟩,⟨_,gu oE oR oE h⟩,⟨_,ag 5⟩]
  | true =>
   cases j:oF (.nd c a)with
   | false =>
    have e:dI ⟨73,n,types,rows,.nd dk dn dp ds da⟩ ((.nd c a)::(.nd g d)::b) =.no 5:=by simp[dI,sFq,bB,Ty.t,h,j]
    rw[e];exact aF func74 [⟨_,aS (s:=((.nd c a)::(.nd g d)::b)) (k:=0) (ks:=[0]) f⟩,⟨_,gu oE oR oE h⟩,⟨_,uQ oE oR j⟩,⟨_,ag 5⟩]
   | true =>
    have e:dI ⟨73,n,types,rows,.nd dk dn dp ds da⟩ ((.nd c a)::(.nd g d)::b)=fQ b [.nd 3 []]:=by simp[dI,sFq,bB,Ty.t,h,j]
    rw[e];exact aF func74 [⟨_,aS (s:=((.nd c a)::(.nd g d)::b)) (k:=0) (ks:=[0]) f⟩,⟨_,gu oE oR oE h⟩,⟨_,uQ oE oR j⟩,⟨_,dA 3⟩,⟨_,dQ (s:=b) (top:=[.nd 3 []])⟩]
def Px(a:s.all bn=true)(h:s.length<=1000)(l:types.all bn=true):HI 74 74 n types rows dk dn dp ds da s dI:=by
 unfold HI;have d:=ak a
 cases c:sFq s [3]with
 | false =>
  have e:dI ⟨74,n,types,rows,.nd dk dn dp ds da⟩ s =.no 5:=by simp[dI,c,bB]
  rw[e];exact aF func74 [⟨_,aN d c⟩,⟨_,ag 5⟩]
 | true =>
  obtain⟨i,b,rfl,f⟩:=fT ov c;have m:=dD a h;simp only[xf,qu]at a;obtain⟨g,j⟩:=a;obtain rfl:=lZ g ov;have e:dI ⟨74,n,types,rows,.nd dk dn dp ds da⟩ ((.nd 3 [])::b)=fQ b [.nd 2 []]:=Ks
  rw[e];exact aF func74 [⟨_,aS (s:=((.nd 3 [])::b)) (k:=3) (ks:=[]) d⟩,⟨_,dA 2⟩,⟨_,dQ (s:=b) (top:=[.nd 2 []])⟩]
def Py(a:s.all bn=true)(h:s.length<=1000)(l:types.all bn=true):HI 74 75 n types rows dk dn dp ds da s dI:=by
 unfold HI;have d:=ak a
 cases c:sFq s [3]with
 | false =>
  have e:dI ⟨75,n,types,rows,.nd dk dn dp ds da⟩ s =.no 5:=by simp[dI,c,bB]
  rw[e];exact aF func74 [⟨_,aN d c⟩,⟨_,ag 5⟩]
 | true =>
  obtain⟨i,b,rfl,f⟩:=fT ov c;have m:=dD a h;simp only[xf,qu]at a;obtain⟨g,j⟩:=a;obtain rfl:=lZ g ov;have e:dI ⟨75,n,types,rows,.nd dk dn dp ds da⟩ ((.nd 3 [])::b)=fQ b [.nd 2 []]:=Ks
  rw[e];exact aF func74 [⟨_,aS (s:=((.nd 3 [])::b)) (k:=3) (ks:=[]) d⟩,⟨_,dA 2⟩,⟨_,dQ (s:=b) (top:=[.nd 2 []])⟩]
def Pz(a:s.all bn=true)(h:s.length<=1000)(l:types.all bn=true):HI 74 76 n types rows dk dn dp ds da s dI:=by
 unfold HI;have d:=ak a
 cases c:sFq s [3]with
 | false =>
  have e:dI ⟨76,n,types,rows,.nd dk dn dp ds da⟩ s =.no 5:=by simp[dI,c,bB]
  rw[e];exact aF func74 [⟨_,aN d c⟩,⟨_,ag 5⟩]
 | true =>
  obtain⟨i,b,rfl,f⟩:=fT ov c;have m:=dD a h;simp only[xf,qu]at a;obtain⟨g,j⟩:=a;obtain rfl:=lZ g ov;have e:dI ⟨76,n,types,rows,.nd dk dn dp ds da⟩ ((.nd 3 [])::b)=fQ b [.nd 2 []]:=Ks
  rw[e];exact aF func74 [⟨_,aS (s:=((.nd 3 [])::b)) (k:=3) (ks:=[]) d⟩,⟨_,dA 2⟩,⟨_,dQ (s:=b) (top:=[.nd 2 []])⟩]
def PD(a:s.all bn=true)(h:s.length<=1000)(l:types.all bn=true):HI 74 77 n types rows dk dn dp ds da s dI:=by
 unfold HI;have d:=ak a
 cases c:sFq s [2]with
 | false =>
  have e:dI ⟨77,n,types,rows,.nd dk dn dp ds da⟩ s =.no 5:=by simp[dI,c,bB]
  rw[e];exact aF func74 [⟨_,aN d c⟩,⟨_,ag 5⟩]
 | true =>
  obtain⟨i,b,rfl,f⟩:=fT ov c;have m:=dD a h;simp only[xf,qu]at a;obtain⟨g,j⟩:=a;obtain rfl:=lZ g ov;have e:dI ⟨77,n,types,rows,.nd dk dn dp ds da⟩ ((.nd 2 [])::b)=fQ b [.nd 2 []]:=Ks
  rw[e];exact aF func74 [⟨_,aS (s:=((.nd 2 [])::b)) (k:=2) (ks:=[]) d⟩,⟨_,dA 2⟩,⟨_,dQ (s:=b) (top:=[.nd 2 []])⟩]
def PE(b:s.all bn=true)(j:s.length<=1000)(p:types.all bn=true):HI 74 78 n types rows dk dn dp ds da s dI:=by
 unfold HI;have f:=ak b
 cases d:sFq s [2,2]with
 | false =>
  have e:dI ⟨78,n,types,rows,.nd dk dn dp ds da⟩ s =.no 5:=by simp[dI,d,bB]
  rw[e];exact aF func74 [⟨_,aN f d⟩,⟨_,ag 5⟩]
 | true =>
  obtain⟨l,q,rfl,a⟩:=fT ov d;obtain⟨m,c,rfl,g⟩:=fT ov a;have r:=dD b j;simp only[xf,qu]at b;obtain⟨h,i,o⟩:=b;obtain rfl:=lZ h ov;obtain rfl:=lZ i ov;have e:dI ⟨78,n,types,rows,.nd dk dn dp ds da⟩ ((.nd 2 [])::(.nd 2 [])::c)=fQ c [.nd 2 []]:=Ks
  rw[e];exact aF func74 [⟨_,aS (s:=((.nd 2 [])::(.nd 2 [])::c)) (k:=2) (ks:=[2]) f⟩,⟨_,dA 2⟩,⟨_,dQ (s:=c) (top:=[.nd 2 []])⟩]
def PG(b:s.all bn=true)(j:s.length<=1000)(p:types.all bn=true):HI 74 79 n types rows dk dn dp ds da s dI:=by
 unfold HI;have f:=ak b
 cases d:sFq s [2,2]with
 | false =>
  have e:dI ⟨79,n,types,rows,.nd dk dn dp ds da⟩ s =.no 5:=by simp[dI,d,bB]
  rw[e];exact aF func74 [⟨_,aN f d⟩,⟨_,ag 5⟩]
 | true =>
  obtain⟨l,q,rfl,a⟩:=fT ov d;obtain⟨m,c,rfl,g⟩:=fT ov a;have r:=dD b j;simp only[xf,qu]at b;obtain⟨h,i,o⟩:=b;obtain rfl:=lZ h ov;obtain rfl:=lZ i ov;have e:dI ⟨79,n,types,rows,.nd dk dn dp ds da⟩ ((.nd 2 [])::(.nd 2 [])::c)=fQ c [.nd 2 []]:=Ks
  rw[e];exact aF func74 [⟨_,aS (s:=((.nd 2 [])::(.nd 2 [])::c)) (k:=2) (ks:=[2]) f⟩,⟨_,dA 2⟩,⟨_,dQ (s:=c) (top:=[.nd 2 []])⟩]
def FW(a:s.all bn=true)(h:s.length<=1000)(l:types.all bn=true):HI 73 93 n types rows dk dn dp ds da s bJ:=by
 unfold HI;have d:=ak a
 cases c:sFq s [3]with
 | false =>
  have e:bJ ⟨93,n,types,rows,.nd dk dn dp ds da⟩ s =.no 5:=by simp[bJ,c]
  rw[e];exact aF func73 [⟨_,aN d c⟩,⟨_,H_two93⟩,⟨_,ag 5⟩]
 | true =>
  obtain⟨i,b,rfl,f⟩:=fT ov c;have m:=dD a h;simp only[xf,qu]at a;obtain⟨g,j⟩:=a;obtain rfl:=lZ g ov;have e:bJ ⟨93,n,types,rows,.nd dk dn dp ds da⟩ ((.nd 3 [])::b)=fQ b [.nd 4 []]:=by simp[bJ,sFq,Ty.t]
  rw[e];exact aF func73 [⟨_,aS (s:=((.nd 3 [])::b)) (k:=3) (ks:=[]) d⟩,⟨_,dA 4⟩,⟨_,dQ (s:=b) (top:=[.nd 4 []])⟩]
def FX(a:s.all bn=true)(h:s.length<=1000)(l:types.all bn=true):HI 73 94 n types rows dk dn dp ds da s bJ:=by
 unfold HI;have d:=ak a
 cases c:sFq s [3]with
 | false =>
  have e:bJ ⟨94,n,types,rows,.nd dk dn dp ds da⟩ s =.no 5:=by simp[bJ,c]
  rw[e];exact aF func73 [⟨_,aN d c⟩,⟨_,H_two94⟩,⟨_,ag 5⟩]
 | true =>
  obtain⟨i,b,rfl,f⟩:=fT ov c;have m:=dD a h;simp only[xf,qu]at a;obtain⟨g,j⟩:=a;obtain rfl:=lZ g ov;have e:bJ ⟨94,n,types,rows,.nd dk dn dp ds da⟩ ((.nd 3 [])::b)=fQ b [.nd 9 [.nd 4 []]]:=by simp[bJ,sFq,Ty.t]
  rw[e];exact aF func73 [⟨_,aS (s:=((.nd 3 [])::b)) (k:=3) (ks:=[]) d⟩,⟨_,dA 4⟩,⟨_,pz 9 [.nd 4 []]⟩,⟨_,dQ (s:=b) (top:=[.nd 9 [.nd 4 []]])⟩]
def FY(a:s.all bn=true)(h:s.length<=1000)(l:types.all bn=true):HI 73 95 n types rows dk dn dp ds da s bJ:=by
 unfold HI;have d:=ak a
 cases c:sFq s [4]with
 | false =>
  have e:bJ ⟨95,n,types,rows,.nd dk dn dp ds da⟩ s =.no 5:=by simp[bJ,c]
  rw[e];exact aF func73 [⟨_,aN d c⟩,⟨_,H_two95⟩,⟨_,ag 5⟩]
 | true =>
  obtain⟨i,b,rfl,f⟩:=fT ov c;have m:=dD a h;simp only[xf,qu]at a;obtain⟨g,j⟩:=a;obtain rfl:=lZ g ov;have e:bJ ⟨95,n,types,rows,.nd dk dn dp ds da⟩ ((.nd 4 [])::b)=fQ b [.nd 3 []]:=by simp[bJ,sFq,Ty.t]
  rw[e];exact aF func73 [⟨_,aS (s:=((.nd 4 [])::b)) (k:=4) (ks:=[]) d⟩,⟨_,dA 3⟩,⟨_,dQ (s:=b) (top:=[.nd 3 []])⟩]
def F3(h:s.all bn=true)(m:s.length<=1000)(r:types.all bn=true):HI 76 84 n types rows dk dn dp ds da s bF:=by
 unfold HI;have f:=ak h
 cases i:sFq s [0,4]with
 | false =>
  have e:bF ⟨84,n,types,rows,.nd dk dn dp ds da⟩ s =.no 5:=by simp[bF,i,bB,Ty.args]
  rw[e];exact aF func76 [⟨_,dA 4⟩,⟨_,aN f i⟩,⟨_,ag 5⟩]
 | true =>
  obtain⟨b,a,u,rfl,d⟩:=iX i;obtain⟨o,c,rfl,j⟩:=fT ov d;have v:=dD h m;simp only[xf,qu]at h;obtain⟨p,l,q⟩:=h;obtain rfl:=lZ l ov
  cases g:oF (.nd b a)with
  | false =>
   have e:bF ⟨84,n,types,rows,.nd dk dn dp ds da⟩ ((.nd b a)::(.nd 4 [])::c) =.no 5:=by simp[bF,sFq,bB,Ty.args,Ty.t,g]
   rw[e];exact aF func76 [⟨_,dA 4⟩,⟨_,aS (s:=((.nd b a)::(.nd 4 [])::c)) (k:=0) (ks:=[4]) f⟩,⟨_,uQ oE oR g⟩,⟨_,ag 5⟩]
  | true =>
   have e:bF ⟨84,n,types,rows,.nd dk dn dp ds da⟩ ((.nd b a)::(.nd 4 [])::c)=fQ c [.nd 9 [.nd 15 [(.nd b a)]]]:=by simp[bF,sFq,bB,Ty.t,g]
   rw[e];exact aF func76 [⟨_,dA 4⟩,⟨_,aS (s:=((.nd b a)::(.nd 4 [])::c)) (k:=0) (ks:=[4]) f⟩,⟨_,uQ oE oR g⟩,⟨_,pz 15 [(.nd b a)]⟩,⟨_,pz 9 [.nd 15 [(.nd b a)]]⟩,⟨_,dQ (s:=c) (top:=[.nd 9 [.nd 15 [(.nd b a)]]])⟩]
def F4(b:s.all bn=true)(i:s.length<=1000)(m:types.all bn=true):HI 76 85 n types rows dk dn dp ds da s bF:=by
 unfold HI;have f:=ak b
 cases d:sFq s [15]with
 | false =>
  have e:bF ⟨85,n,types,rows,.nd dk dn dp ds da⟩ s =.no 5:=by simp[bF,d,bB,Ty.args]
  rw[e];exact aF func76 [⟨_,dA 4⟩,⟨_,aN f d⟩,⟨_,ag 5⟩]
 | true =>
  obtain⟨j,c,rfl,g⟩:=fT ov d;have o:=dD b i;simp only[xf,qu]at b;obtain⟨h,l⟩:=b;obtain⟨u0,a,rfl⟩:=Bi h ov;have e:bF ⟨85,n,types,rows,.nd dk dn dp ds da⟩ ((.nd 15 [.nd u0 a])::c)=fQ ((.nd 15 [.nd u0 a])::c) [.nd 11 [.nd 7 [],.nd 11 [(.nd u0 a),.nd 4 []]]]:=by simp[bF,sFq,bB,Ty.args,Ty.t]
  rw[e];exact aF func76 [⟨_,dA 4⟩,⟨_,aS (s:=((.nd 15 [.nd u0 a])::c)) (k:=15) (ks:=[]) f⟩,⟨_,dA 7⟩,⟨_,pz 11 [(.nd u0 a),.nd 4 []]⟩,⟨_,pz 11 [.nd 7 [],.nd 11 [(.nd u0 a),.nd 4 []]]⟩,⟨_,dQ (s:=((.nd 15 [.nd u0 a])::c)) (top:=[.nd 11 [.nd 7 [],.nd 11 [(.nd u0 a),.nd 4 []]]])⟩]
def F5(i:s.all bn=true)(r:s.length<=1000)(x:types.all bn=true):HI 76 86 n types rows dk dn dp ds da s bF:=by
 unfold HI;have f:=ak i
 cases j:sFq s [15,11]with
 | false =>
  have e:bF ⟨86,n,types,rows,.nd dk dn dp ds da⟩ s =.no 5:=by simp[bF,j,bB,Ty.args]
  rw[e];exact aF func76 [⟨_,dA 4⟩,⟨_,aN f j⟩,⟨_,ag 5⟩]
 | true =>
  obtain⟨u,y,rfl,h⟩:=fT ov j;obtain⟨v,g,rfl,m⟩:=fT ov h;have z:=dD i r;simp only[xf,qu]at i;obtain⟨p,q,w⟩:=i;obtain⟨u0,a,rfl⟩:=Bi p ov;obtain⟨u1,c,l,d,rfl⟩:=vY q ov
  cases o:sFq [(.nd u1 c),(.nd l d)] [4,4]with
  | false =>
   have e:bF ⟨86,n,types,rows,.nd dk dn dp ds da⟩ ((.nd 15 [.nd u0 a])::(.nd 11 [.nd u1 c,.nd l d])::g) =.no 5:=by simp_all [bF,sFq,bB,Ty.args,Ty.t]
   rw[e];exact aF func76 [⟨_,dA 4⟩,⟨_,aS (s:=((.nd 15 [.nd u0 a])::(.nd 11 [.nd u1 c,.nd l d])::g)) (k:=15) (ks:=[11]) f⟩,⟨_,aN oE o⟩,⟨_,ag 5⟩]
  | true =>
   obtain⟨rfl,rfl⟩:=st2 ov ov o;have e:bF ⟨86,n,types,rows,.nd dk dn dp ds da⟩ ((.nd 15 [.nd u0 a])::(.nd 11 [.nd 4 c,.nd 4 d])::g)=fQ g [.nd 9 [.nd 11 [(.nd 15 [.nd u0 a]),(.nd 15 [.nd u0 a])]]]:=by simp[bF,sFq,bB,Ty.args,Ty.t]
   rw[e];exact aF func76 [⟨_,dA 4⟩,⟨_,aS (s:=((.nd 15 [.nd u0 a])::(.nd 11 [.nd 4 c,.nd 4 d])::g)) (k:=15) (ks:=[11]) f⟩,⟨_,aN (s:=[(.nd 4 c),(.nd 4 d)]) (k:=4) (ks:=[4]) (b:=true) oE (by simp[sFq,Ty.t])⟩,⟨_,pz 11 [(.nd 15 [.nd u0 a]),(.nd 15 [.nd u0 a])]⟩,⟨_,pz 9 [.nd 11 [(.nd 15 [.nd u0 a]),(.nd 15 [.nd u0 a])]]⟩,⟨_,dQ (s:=g) (top:=[.nd 9 [.nd 11 [(.nd 15 [.nd u0 a]),(.nd 15 [.nd u0 a])]]])⟩]
def F6(h:s.all bn=true)(p:s.length<=1000)(u:types.all bn=true):HI 76 87 n types rows dk dn dp ds da s bF:=by
 unfold HI;have d:=ak h
 cases i:sFq s [11]with
 | false =>
  have e:bF ⟨87,n,types,rows,.nd dk dn dp ds da⟩ s =.no 5:=by simp[bF,i,bB,Ty.args]
  rw[e];exact aF func76 [⟨_,dA 4⟩,⟨_,aN d i⟩,⟨_,ag 5⟩]
 | true =>
  obtain⟨q,f,rfl,l⟩:=fT ov i;have v:=dD h p;simp only[xf,qu]at h;obtain⟨o,r⟩:=h;obtain⟨u0,a,j,c,rfl⟩:=vY o ov
  cases m:sFq [(.nd u0 a),(.nd j c)] [15,15]with
  | false =>
   have e:bF ⟨87,n,types,rows,.nd dk dn dp ds da⟩ ((.nd 11 [.nd u0 a,.nd j c])::f) =.no 5:=by simp_all [bF,sFq,bB,Ty.args,Ty.t]
   rw[e];exact aF func76 [⟨_,dA 4⟩,⟨_,aS (s:=((.nd 11 [.nd u0 a,.nd j c])::f)) (k:=11) (ks:=[]) d⟩,⟨_,aN oE m⟩,⟨_,ag 5⟩]
  | true =>
   obtain⟨rfl,rfl⟩:=st2 ov ov m
   cases g:sameT (.nd 15 a) (.nd 15 c)with
   | false =>
    have e:bF ⟨87,n,types,rows,.nd dk dn dp ds da⟩ ((.nd 11 [.nd 15 a,.nd 15 c])::f) =.no 5:=by simp[bF,sFq,bB,Ty.args,Ty.t,g]
    rw[e];exact aF func76 [⟨_,dA 4⟩,⟨_,aS (s:=((.nd 11 [.nd 15 a,.nd 15 c])::f)) (k:=11) (ks:=[]) d⟩,⟨_,aN (s:=[(.nd 15 a),(.nd 15 c)]) (k:=15) (ks:=[15]) (b:=true) oE (by simp[sFq,Ty.t])⟩,⟨_,gu oE oR oE g⟩,⟨_,ag 5⟩]
   | true =>
    have e:bF ⟨87,n,types,rows,.nd dk dn dp ds da⟩ ((.nd 11 [.nd 15 a,.nd 15 c])::f)=fQ f [.nd 9 [(.nd 15 a)]]:=by simp[bF,sFq,bB,Ty.args,Ty.t,g]
    rw[e];exact aF func76 [⟨_,dA 4⟩,⟨_,aS (s:=((.nd 11 [.nd 15 a,.nd 15 c])::f)) (k:=11) (ks:=[]) d⟩,⟨_,aN (s:=[(.nd 15 a),(.nd 15 c)]) (k:=15) (ks:=[15]) (b:=true) oE (by simp[sFq,Ty.t])⟩,⟨_,gu oE oR oE g⟩,⟨_,pz 9 [(.nd 15 a)]⟩,⟨_,dQ (s:=f) (top:=[.nd 9 [(.nd 15 a)]])⟩]
def MQ(m:s.all bn=true)(v:s.length<=1000)(p:types.all bn=true)(w:types.length=1):HI 77 88 n types rows dk dn dp ds da s dO:=by
 unfold HI;obtain⟨i,j,rfl⟩:=GR w;have B:=ak p;have F:=dD p ot;clear p;have d:=ak m
 cases o:sFq s [0,5,7]with
 | false =>
  have e:dO ⟨88,n,[.nd i j],rows,.nd dk dn dp ds da⟩ s =.no 5:=by simp[dO,o,bB]
  rw[e];exact aF func77 [⟨_,aN d o⟩,⟨_,ag 5⟩]
 | true =>
  obtain⟨c,a,C,rfl,g⟩:=iX o;obtain⟨x,D,rfl,h⟩:=fT ov g;obtain⟨y,b,rfl,q⟩:=fT ov h;have E:=dD m v;simp only[xf,qu]at m;obtain⟨z,r,u,A⟩:=m;obtain rfl:=lZ r ov;obtain rfl:=lZ u ov
  cases f:sameT (.nd c a) (.nd i j)with
  | false =>
   have e:dO ⟨88,n,[.nd i j],rows,.nd dk dn dp ds da⟩ ((.nd c a)::(.nd 5 [])::(.nd 7 [])::b) =.no 5:=by simp[dO,sFq,bB,Ty.t,f]
   rw[e];exact aF func77 [⟨_,aS (s:=((.nd c a)::(.nd 5 [])::(.nd 7 [])::b)) (k:=0) (ks:=[5,7]) d⟩,⟨_,gu oE oR oE f⟩,⟨_,ag 5⟩]
  | true =>
   cases l:storeT (.nd c a)with
   | false =>
    have e:dO ⟨88,n,[.nd i j],rows,.nd dk dn dp ds da⟩ ((.nd c a)::(.nd 5 [])::(.nd 7 [])::b) =.no 5:=by simp[dO,sFq,bB,Ty.t,f,l]
    rw[e];exact aF func77 [⟨_,aS (s:=((.nd c a)::(.nd 5 [])::(.nd 7 [])::b)) (k:=0) (ks:=[5,7]) d⟩,⟨_,gu oE oR oE f⟩,⟨_,FO oE oR l⟩,⟨_,ag 5⟩]
   | true =>
    have e:dO ⟨88,n,[.nd i j],rows,.nd dk dn dp ds da⟩ ((.nd c a)::(.nd 5 [])::(.nd 7 [])::b)=fQ b [.nd 8 []]:=by simp[dO,sFq,bB,Ty.t,f,l]
    rw[e];exact aF func77 [⟨_,aS (s:=((.nd c a)::(.nd 5 [])::(.nd 7 [])::b)) (k:=0) (ks:=[5,7]) d⟩,⟨_,gu oE oR oE f⟩,⟨_,FO oE oR l⟩,⟨_,dA 8⟩,⟨_,dQ (s:=b) (top:=[.nd 8 []])⟩]
def MR(a:s.all bn=true)(c:s.length<=1000)(b:types.all bn=true):HI 77 89 n types rows dk dn dp ds da s dO:=by
 unfold HI;have d:=ak a;have e:dO ⟨89,n,types,rows,.nd dk dn dp ds da⟩ s=fQ s [.nd 7 []]:=by simp[dO,bB]
 rw[e];exact aF func77 [⟨_,dA 7⟩,⟨_,dQ (s:=s) (top:=[.nd 7 []])⟩]
def MS(a:s.all bn=true)(c:s.length<=1000)(b:types.all bn=true):HI 77 90 n types rows dk dn dp ds da s dO:=by
 unfold HI;have d:=ak a;have e:dO ⟨90,n,types,rows,.nd dk dn dp ds da⟩ s=fQ s [.nd 7 []]:=by simp[dO,bB]
 rw[e];exact aF func77 [⟨_,dA 7⟩,⟨_,dQ (s:=s) (top:=[.nd 7 []])⟩]
def MU(a:s.all bn=true)(c:s.length<=1000)(b:types.all bn=true):HI 77 91 n types rows dk dn dp ds da s dO:=by
 unfold HI;have d:=ak a;have e:dO ⟨91,n,types,rows,.nd dk dn dp ds da⟩ s=fQ s [.nd 5 []]:=by simp[dO,bB]
 rw[e];exact aF func77 [⟨_,dA 5⟩,⟨_,dQ (s:=s) (top:=[.nd 5 []])⟩]
def MV(a:s.all bn=true)(c:s.length<=1000)(b:types.all bn=true):HI 77 92 n types rows dk dn dp ds da s dO:=by
 unfold HI;have d:=ak a;have e:dO ⟨92,n,types,rows,.nd dk dn dp ds da⟩ s=fQ s [.nd 5 []]:=by simp[dO,bB]
 rw[e];exact aF func77 [⟨_,dA 5⟩,⟨_,dQ (s:=s) (top:=[.nd 5 []])⟩]
def MX(b:s.all bn=true)(j:s.length<=1000)(p:types.all bn=true):HI 75 80 n types rows dk dn dp ds da s cZ:=by
 unfold HI;have f:=ak b
 cases d:sFq s [6,6]with
 | false =>
  have e:cZ ⟨80,n,types,rows,.nd dk dn dp ds da⟩ s =.no 5:=by simp[cZ,d,bB]
  rw[e];exact aF func75 [⟨_,aN f d⟩,⟨_,ag 5⟩]
 | true =>
  obtain⟨l,q,rfl,a⟩:=fT ov d;obtain⟨m,c,rfl,g⟩:=fT ov a;have r:=dD b j;simp only[xf,qu]at b;obtain⟨h,i,o⟩:=b;obtain rfl:=lZ h ov;obtain rfl:=lZ i ov;have e:cZ ⟨80,n,types,rows,.nd dk dn dp ds da⟩ ((.nd 6 [])::(.nd 6 [])::c)=fQ c [.nd 6 []]:=by simp[cZ,sFq,bB,Ty.t]
  rw[e];exact aF func75 [⟨_,aS (s:=((.nd 6 [])::(.nd 6 [])::c)) (k:=6) (ks:=[6]) f⟩,⟨_,dA 6⟩,⟨_,dQ (s:=c) (top:=[.nd 6 []])⟩]
def MZ(g:s.all bn=true)(j:s.length<=1000)(o:types.all bn=true):HI 75 81 n types rows dk dn dp ds da s cZ:=by
 unfold HI;have c:=ak g
 cases h:sFq s [0]with
 | false =>
  have e:cZ ⟨81,n,types,rows,.nd dk dn dp ds da⟩ s =.no 5:=by simp[cZ,h,bB]
  rw[e];exact aF func75 [⟨_,aN c h⟩,⟨_,ag 5⟩]
 | true =>
  obtain⟨d,b,a,rfl,i⟩:=iX h;have p:=dD g j;simp only[xf,qu]at g;obtain⟨l,m⟩:=g
  cases f:eB (.nd d b)with
  | false =>
   have e:cZ ⟨81,n,types,rows,.nd dk dn dp ds da⟩ ((.nd d b)::a) =.no 5:=by simp[cZ,sFq,bB,Ty.t,f]
   rw[e];exact aF func75 [⟨_,aS (s:=((.nd d b)::a)) (k:=0) (ks:=[]) c⟩,⟨_,pG oE oR f⟩,⟨_,ag 5⟩]
  | true =>
   have e:cZ ⟨81,n,types,rows,.nd dk dn dp ds da⟩ ((.nd d b)::a)=fQ a [.nd 6 []]:=by simp[cZ,sFq,bB,Ty.t,f]
   rw[e];exact aF func75 [⟨_,aS (s:=((.nd d b)::a)) (k:=0) (ks:=[]) c⟩,⟨_,pG oE oR f⟩,⟨_,dA 6⟩,⟨_,dQ (s:=a) (top:=[.nd 6 []])⟩]
def M0(g:s.all bn=true)(m:s.length<=1000)(i:types.all bn=true)(o:types.length=1):HI 75 82 n types rows dk dn dp ds da s cZ:=by
 unfold HI;obtain⟨a,b,rfl⟩:=GR o;have r:=ak i;have v:=dD i ot;clear i;have d:=ak g
 cases h:sFq s [6]with
 | false =>
  have e:cZ ⟨82,n,[.nd a b],rows,.nd dk dn dp ds da⟩ s =.no 5:=by simp[cZ,h,bB]
  rw[e];exact aF func75 [⟨_,aN d h⟩,⟨_,ag 5⟩]
 | true =>
  obtain⟨p,c,rfl,j⟩:=fT ov h;have u:=dD g m;simp only[xf,qu]at g;obtain⟨l,q⟩:=g;obtain rfl:=lZ l ov
  cases f:eB (.nd a b)with
  | false =>
   have e:cZ ⟨82,n,[.nd a b],rows,.nd dk dn dp ds da⟩ ((.nd 6 [])::c) =.no 5:=by simp[cZ,sFq,bB,Ty.t,f]
   rw[e];exact aF func75 [⟨_,aS (s:=((.nd 6 [])::c)) (k:=6) (ks:=[]) d⟩,⟨_,pG oE oR f⟩,⟨_,ag 5⟩]
  | true =>
   have e:cZ ⟨82,n,[.nd a b],rows,.nd dk dn dp ds da⟩ ((.nd 6 [])::c)=fQ c [.nd 9 [(.nd a b)]]:=by simp[cZ,sFq,bB,Ty.t,f]
   rw[e];exact aF func75 [⟨_,aS (s:=((.nd 6 [])::c)) (k:=6) (ks:=[]) d⟩,⟨_,pG oE oR f⟩,⟨_,pz 9 [(.nd a b)]⟩,⟨_,dQ (s:=c) (top:=[.nd 9 [(.nd a b)]])⟩]
def ML(a:s.all bn=true)(i:s.length<=1000)(m:types.all bn=true):HI 68 40 n types rows dk dn dp ds da s dG:=by
 unfold HI;have d:=ak a
 cases c:sFq s [0]with
 | false =>
  have e:dG ⟨40,n,types,rows,.nd dk dn dp ds da⟩ s =.no 5:=by simp[dG,c,bB]
  rw[e];exact aF func68 [⟨_,aN d c⟩,⟨_,ag 5⟩]
 | true =>
  obtain⟨h,f,b,rfl,g⟩:=iX c;have o:=dD a i;simp only[xf,qu]at a;obtain⟨j,l⟩:=a;have e:dG ⟨40,n,types,rows,.nd dk dn dp ds da⟩ ((.nd h f)::b)=fQ b []:=by simp[dG,sFq,Ty.t]
  rw[e];exact aF func68 [⟨_,aS (s:=((.nd h f)::b)) (k:=0) (ks:=[]) d⟩,⟨_,AO (s:=b) oE (by simp only[jn]at *;omega)⟩]
def MN(d:s.all bn=true)(m:s.length<=1000)(r:types.all bn=true):HI 68 42 n types rows dk dn dp ds da s dG:=by
 unfold HI;have j:=ak d
 cases i:sFq s [0,0]with
 | false =>
  have e:dG ⟨42,n,types,rows,.nd dk dn dp ds da⟩ s =.no 5:=by simp[dG,i,bB]
  rw[e];exact aF func68 [⟨_,aN j i⟩,⟨_,ag 5⟩]
 | true =>
  obtain⟨g,b,u,rfl,a⟩:=iX i;obtain⟨h,c,f,rfl,l⟩:=iX a;have v:=dD d m;simp only[xf,qu]at d;obtain⟨o,p,q⟩:=d;have e:dG ⟨42,n,types,rows,.nd dk dn dp ds da⟩ ((.nd g b)::(.nd h c)::f)=fQ f [(.nd h c),(.nd g b)]:=by simp[dG,sFq,bB,Ty.t]
  rw[e];exact aF func68 [⟨_,aS (s:=((.nd g b)::(.nd h c)::f)) (k:=0) (ks:=[0]) j⟩,⟨_,dQ (s:=f) (top:=[(.nd h c),(.nd g b)])⟩]
def I8{row:List Tr->List Ty->iF}(l:s.all bn=true)(q:s.length<=1000)(v:types.all bn=true):Hd ⟨72,[uq 67 n types rows dk dn dp ds da,dZ s],iH (bP row ⟨67,n,types,rows,.nd dk dn dp ds da⟩ s)⟩:=by
 have h:=ak l
 cases m:sFq s [0,14]with
 | false =>
  have e:bP row ⟨67,n,types,rows,.nd dk dn dp ds da⟩ s =.no 5:=by simp[bP,m,bB,Ty.args]
  rw[e];exact aF func72 [⟨_,aN h m⟩,⟨_,ag 5⟩]
 | true =>
  obtain⟨i,d,w,rfl,g⟩:=iX m;obtain⟨r,b,rfl,o⟩:=fT ov g;have x:=dD l q;simp only[xf,qu]at l;obtain⟨u,p,gr⟩:=l;obtain⟨u1,f,c,a,rfl⟩:=vY p ov
  cases j:sameT (.nd i d) (.nd u1 f)with
  | false =>
   have e:bP row ⟨67,n,types,rows,.nd dk dn dp ds da⟩ ((.nd i d)::(.nd 14 [.nd u1 f,.nd c a])::b) =.no 5:=by simp[bP,sFq,bB,Ty.args,Ty.t,j]
   rw[e];exact aF func72 [⟨_,aS (s:=((.nd i d)::(.nd 14 [.nd u1 f,.nd c a])::b)) (k:=0) (ks:=[14]) h⟩,⟨_,gu oE oR oE j⟩,⟨_,ag 5⟩]
  | true =>
   have e:bP row ⟨67,n,types,rows,.nd dk dn dp ds da⟩ ((.nd i d)::(.nd 14 [.nd u1 f,.nd c a])::b)=fQ b [(.nd c a)]:=by simp[bP,sFq,bB,Ty.args,Ty.t,j]
   rw[e];exact aF func72 [⟨_,aS (s:=((.nd i d)::(.nd 14 [.nd u1 f,.nd c a])::b)) (k:=0) (ks:=[14]) h⟩,⟨_,gu oE oR oE j⟩,⟨_,dQ (s:=b) (top:=[(.nd c a)])⟩]
end
def wayA:iF->A1
 | .no e=>.agg [.d (.s 0 []),.d (.v (.bool false)),.d (.v (.i e))]
 | .ok f ts=>.agg [.d (.s 2 (tysD ts)),.d (.v (.bool f)),.d (.v (.i 0))]
def SA (e:Int):Prop:=e=1\/e=4\/e=5\/e=7
def yI (r:iF):Prop:=(∀e,r =.no e->SA e)/\∀f ts,r =.ok f ts->ts.all bn=true/\ts.length<=1001
def KY(r:iF):Hd ⟨148,ledA r,.of (wayA r)⟩:=by
 cases r with
 | no e=>exact aF func148 []
 | ok f a=>exact aF func148 []
def Pk{a b:iF}(j:yI a)(k:yI b):Hd ⟨147,[wayA a,wayA b],iH (meetF a b)⟩:=by
 cases a with
 | no e =>
  have d:=ag e;rcases j.1 e rfl with rfl|rfl|rfl|rfl
  all_goals
   cases b with
   | no c=>exact aF func147 [⟨_,d⟩]
   | ok g y=>exact aF func147 [⟨_,d⟩]
 | ok f x =>
  cases b with
  | no e =>
   have d:=ag e;rcases k.1 e rfl with rfl|rfl|rfl|rfl
   all_goals exact aF func147 [⟨_,d⟩]
  | ok g y =>
   obtain⟨i,m⟩:=j.2 f x rfl;obtain⟨l,n⟩:=k.2 g y rfl
   cases f with
   | true=>exact aF func147 []
   | false =>
    cases g with
    | true=>exact aF func147 []
    | false =>
     have h:=YZ (x:=x) (y:=y) (ak i) (ak l) (.inl rfl) (.inl rfl) (by have:=sz_len i;omega)
     cases e:sameTs x y with
     | true =>
      rw[e]at h;have c:meetF (.ok false x) (.ok false y) =.ok false x:=by simp[meetF,e]
      rw[c];exact aF func147 [⟨_,h⟩]
     | false =>
      rw[e]at h;have c:meetF (.ok false x) (.ok false y) =.no 5:=by simp[meetF,e]
      rw[c];exact aF func147 [⟨_,h⟩,⟨_,ag 5⟩]
def yI.put{s:List Ty}(b:s.all bn=true)(a:s.length<=1001):yI (fQ s []) :=
 ⟨λe h=>by simp[fQ]at h,λf c h=>by simp only[fQ,iF.ok.injEq,qf0]at h;obtain⟨_,rfl⟩:=h;exact⟨b,a⟩⟩
section
variable {p n:Int}{types:List Ty}{rows:List (List Tr)}{dk dn dp:Int}{ds:ByteArray}{da:List Tr}{row:List Tr->List Ty->iF}{M:Nat}
structure xg (row:List Tr->List Ty->iF) (rows:List (List Tr)) (M:Nat):Prop where
 ok:∀l∈rows,okNs l
 run:∀l∈rows,∀s:List Ty,s.all bn=true->s.length<=M+1->Hd ⟨25,[CW l,dZ s],iH (row l s)⟩
 led:∀l∈rows,∀s:List Ty,s.all bn=true->s.length<=M+1->yI (row l s)
 top:M<=1000
def wW{s x y:List Ty}{k m:Nat}{e f:List Tr}(h:xg row [e,f] M)(o:s.all bn=true)(z:x.all bn=true)(A:y.all bn=true)(hk:k=2\/x=[])(F:m=2\/y=[])(w:x.length+s.length<=M+1)(i:y.length+s.length<=M+1) :
 Hd ⟨107,[uq p n types [e,f] dk dn dp ds da,dZ s,.one (.d (.s k (tysD x))),.one (.d (.s m (tysD y)))],iH (iC row ⟨p,n,types,[e,f],.nd dk dn dp ds da⟩ s x y)⟩:=by
 have j:(x++s).all bn=true:=by simp[z,o]
 have l:(y++s).all bn=true:=by simp[A,o]
 have H:=h.top;have D:=h.run e ot (x++s) j (by simpa using w);have E:=h.run f ot (y++s) l (by simpa using i);have B:=h.led e ot (x++s) j (by simpa using w);have C:=h.led f ot (y++s) l (by simpa using i);have g:iC row ⟨p,n,types,[e,f],.nd dk dn dp ds da⟩ s x y=meetF (row e (x++s)) (row f (y++s)):=rfl;rw[g];clear g;have v:=Pk B C;have q:=lg (m:=k) (n:=2) (ak z) (ak o) hk (.inl rfl) od;have r:=lg (m:=m) (n:=2) (ak A) (ak o) F (.inl rfl) od;have t:=KY (row e (x++s));have u:=KY (row f (y++s));generalize row e (x++s)=a at *;generalize row f (y++s)=b at *;generalize G:meetF a b=c at *;cases a<;>cases b<;>cases c<;>exact aF func107 [⟨_,q⟩,⟨_,D⟩,⟨_,t⟩,⟨_,r⟩,⟨_,E⟩,⟨_,u⟩,⟨_,v⟩]
def Yx{a b:iF}(c:yI a)(d:yI b):yI (meetF a b):=by
 cases a with
 | no e=>exact c
 | ok f x =>
  cases b with
  | no e=>exact d
  | ok g y =>
   simp only[meetF];split
   .exact d
   .split
    .exact c
    .exact⟨λe h=>by simp only[iF.no.injEq]at h;subst h;exact .inr (.inr (.inl rfl)),λf i h=>by simp at h⟩
def uR{x y z:List Ty}{b:List Tr}(hR:xg row [b] M)(s:x.all bn=true)(l:y.all bn=true)(hz:okTs z)(q:x.length<=M+1)(i:y.length<=1001)(u:z.length<=1001) :
 Hd ⟨108,[uq p n types [b] dk dn dp ds da,dZ x,dZ y,dZ z],iH (dM row ⟨p,n,types,[b],.nd dk dn dp ds da⟩ x y z)⟩:=by
 have A:=hR.top;have o:=hR.run b ot x s q;have m:=hR.led b ot x s q;have d:dM row ⟨p,n,types,[b],.nd dk dn dp ds da⟩ x y z=(match meetF (row b x) (fQ y [])with | .no e=>.no e | .ok _ _=>fQ z []):=rfl;rw[d];clear d;have j:=Pk m (yI.put l i);have r:=AO (ak l) od;have k:=AO hz od;have g:=KY (row b x);have h:=KY (fQ y []);have t:=(Yx m (yI.put l i)).1;generalize row b x=a at *;generalize v:meetF a (fQ y [])=c at *
 cases c with
 | no e =>
  have w:=ag e;rcases t e rfl with rfl|rfl|rfl|rfl
  all_goals cases a<;>exact aF func108 [⟨_,o⟩,⟨_,g⟩,⟨_,r⟩,⟨_,h⟩,⟨_,j⟩,⟨_,w⟩]
 | ok f B=>cases a<;>exact aF func108 [⟨_,o⟩,⟨_,g⟩,⟨_,r⟩,⟨_,h⟩,⟨_,j⟩,⟨_,k⟩]
def SH{t0:Int}{a0 s:List Ty}{b:List Tr}(hR:xg row [b] M)(k:bn (.nd t0 a0)=true)(j:s.all bn=true)(i:s.length<=M+1) :
 Hd ⟨109,[uq p n types [b] dk dn dp ds da,tyA (.nd t0 a0),dZ s],iH (l7 row ⟨p,n,types,[b],.nd dk dn dp ds da⟩ (.nd t0 a0) s)⟩:=by
 have g:=hR.run b ot s j i;have h:=hR.led b ot s j i;have c:l7 row ⟨p,n,types,[b],.nd dk dn dp ds da⟩ (.nd t0 a0) s=(match row b s with | .no e=>.no e | .ok f d=>if f=true then .no 1 else fQ d [.nd t0 a0]):=rfl;rw[c];clear c;generalize row b s=a at *
 cases a with
 | no e =>
  have l:=ag e;rcases h.1 e rfl with rfl|rfl|rfl|rfl
  all_goals exact aF func109 [⟨_,g⟩,⟨_,l⟩]
 | ok f d =>
  obtain⟨gt,lt⟩:=h.2 f d rfl
  cases f with
  | true=>exact aF func109 [⟨_,g⟩,⟨_,ag 1⟩]
  | false=>exact aF func109 [⟨_,g⟩,⟨_,vS (s:=d) (top:=[.nd t0 a0]) (ak gt) ⟨oM k,trivial⟩ oB⟩]
end
section
variable {n:Int}{types:List Ty}{rows:List (List Tr)}{dk dn dp:Int}{ds:ByteArray}{da:List Tr}{row:List Tr->List Ty->iF}{s:List Ty}{M:Nat}
def wZ{p k:Int}(l:p=52/\k=12\/p=55/\k=9\/p=58/\k=10\/p=64/\k=2)(a:s.all bn=true)(q:s.length<=M){b f:List Tr}(hR:xg row [b,f] M) :
 Hd ⟨71,[uq p n types [b,f] dk dn dp ds da,dZ s],iH (eG row ⟨p,n,types,[b,f],.nd dk dn dp ds da⟩ s)⟩:=by
 have o:=ak a
 cases j:sFq s [k]with
 | false =>
  have e:eG row ⟨p,n,types,[b,f],.nd dk dn dp ds da⟩ s =.no 5:=by rcases l with⟨rfl,rfl⟩|⟨rfl,rfl⟩|⟨rfl,rfl⟩|⟨rfl,rfl⟩<;>simp[eG,j]
  rw[e];have i:=aN o j;rcases l with⟨rfl,rfl⟩|⟨rfl,rfl⟩|⟨rfl,rfl⟩|⟨rfl,rfl⟩<;>exact aF func71 [⟨_,i⟩,⟨_,ag 5⟩]
 | true =>
  have i:=aN o j;obtain⟨w,r,rfl,_⟩:=fT od j;simp only[xf,qu]at a;simp only[jn]at q;have g:=wF a.1;rcases l with⟨rfl,rfl⟩|⟨rfl,rfl⟩|⟨rfl,rfl⟩|⟨rfl,rfl⟩
  .obtain⟨u,c,v,d,rfl⟩:=vY a.1 ov;simp only[xf,jh3,qu,and_true]at g;have h:=wW (p:=52) (n:=n) (types:=types) (dk:=dk) (dn:=dn) (dp:=dp) (ds:=ds) (da:=da) (k:=2) (m:=2) (x:=[.nd u c]) (y:=[.nd v d]) hR a.2 (by simp[g]) (by simp[g]) (.inl rfl) (.inl rfl) oB oB;rw[show eG row ⟨52,n,types,[b,f],.nd dk dn dp ds da⟩ (.nd 12 [.nd u c,.nd v d]::r)=iC row ⟨52,n,types,[b,f],.nd dk dn dp ds da⟩ r [.nd u c] [.nd v d] by simp[eG,sFq,bB,Ty.args,Ty.t]];generalize iC row _ _ _ _=c at *;cases c<;>exact aF func71 [⟨_,i⟩,⟨_,h⟩]
  .obtain⟨u,c,rfl⟩:=Bi a.1 ov;simp only[xf,jh3,qu,and_true]at g;have h:=wW (p:=55) (n:=n) (types:=types) (dk:=dk) (dn:=dn) (dp:=dp) (ds:=ds) (da:=da) (k:=0) (m:=2) (x:=[]) (y:=[.nd u c]) hR a.2 rfl (by simp[g]) (.inr rfl) (.inl rfl) oB oB;rw[show eG row ⟨55,n,types,[b,f],.nd dk dn dp ds da⟩ (.nd 9 [.nd u c]::r)=iC row ⟨55,n,types,[b,f],.nd dk dn dp ds da⟩ r [] [.nd u c] by simp[eG,sFq,bB,Ty.args,Ty.t]];generalize iC row _ _ _ _=c at *;cases c<;>exact aF func71 [⟨_,i⟩,⟨_,h⟩]
  .obtain⟨u,c,rfl⟩:=Bi a.1 ov;simp only[xf,jh3,qu,and_true]at g;have h:=wW (p:=58) (n:=n) (types:=types) (dk:=dk) (dn:=dn) (dp:=dp) (ds:=ds) (da:=da) (k:=2) (m:=0) (x:=[.nd u c,.nd 10 [.nd u c]]) (y:=[]) hR a.2 (by simp[g,a.1]) rfl (.inl rfl) (.inr rfl) oB oB;rw[show eG row ⟨58,n,types,[b,f],.nd dk dn dp ds da⟩ (.nd 10 [.nd u c]::r)=iC row ⟨58,n,types,[b,f],.nd dk dn dp ds da⟩ r [.nd u c,.nd 10 [.nd u c]] [] by simp[eG,sFq,bB,Ty.args,Ty.t]];generalize iC row _ _ _ _=c at *;cases c<;>exact aF func71 [⟨_,i⟩,⟨_,h⟩]
  .obtain rfl:=lZ a.1 ov;have h:=wW (p:=64) (n:=n) (types:=types) (dk:=dk) (dn:=dn) (dp:=dp) (ds:=ds) (da:=da) (k:=0) (m:=0) (x:=[]) (y:=[]) hR a.2 rfl rfl (.inr rfl) (.inr rfl) oB oB;rw[show eG row ⟨64,n,types,[b,f],.nd dk dn dp ds da⟩ (.nd 2 []::r)=iC row ⟨64,n,types,[b,f],.nd dk dn dp ds da⟩ r [] [] by simp[eG,sFq,Ty.t]];generalize iC row _ _ _ _=c at *;cases c<;>exact aF func71 [⟨_,i⟩,⟨_,h⟩]
def I5(a:s.all bn=true)(q:s.length<=M){b:List Tr}(hR:xg row [b] M) :
 Hd ⟨72,[uq 60 n types [b] dk dn dp ds da,dZ s],iH (bP row ⟨60,n,types,[b],.nd dk dn dp ds da⟩ s)⟩:=by
 have g:=ak a;have A:=hR.top
 cases e:sFq s [10]with
 | true =>
  have k:=aN g e;obtain⟨w,r,rfl,_⟩:=fT ov e;simp only[xf,qu]at a;simp only[jn]at q;have h:=wF a.1;obtain⟨u,c,rfl⟩:=Bi a.1 ov;simp only[xf,jh3,qu,and_true]at h;have i:=lg (m:=2) (n:=2) (x:=[.nd u c]) (y:=r) ⟨oM h,trivial⟩ (ak a.2) (.inl rfl) (.inl rfl) oB;have j:=uR (p:=60) (n:=n) (types:=types) (dk:=dk) (dn:=dn) (dp:=dp) (ds:=ds) (da:=da) (x:=[.nd u c]++r) (y:=r) (z:=r) hR (by simp[h,a.2]) a.2 (ak a.2) oB od od;rw[show bP row ⟨60,n,types,[b],.nd dk dn dp ds da⟩ (.nd 10 [.nd u c]::r)=dM row ⟨60,n,types,[b],.nd dk dn dp ds da⟩ ([.nd u c]++r) r r by simp[bP,sFq,bB,Ty.args,Ty.t]];generalize dM row _ _ _ _=c at *;cases c<;>exact aF func72 [⟨_,k⟩,⟨_,i⟩,⟨_,j⟩]
 | false =>
  have o:=aN g e
  cases f:sFq s [13]with
  | true =>
   have k:=aN g f;obtain⟨w,r,rfl,_⟩:=fT ov f;simp only[xf,qu]at a;simp only[jn]at q;have l:=yV a.1;obtain⟨u,c,v,d,rfl⟩:=vY a.1 ov;have i:=lg (m:=2) (n:=2) (x:=[.nd 11 [.nd u c,.nd v d]]) (y:=r) ⟨oM l,trivial⟩ (ak a.2) (.inl rfl) (.inl rfl) oB;have j:=uR (p:=60) (n:=n) (types:=types) (dk:=dk) (dn:=dn) (dp:=dp) (ds:=ds) (da:=da) (x:=[.nd 11 [.nd u c,.nd v d]]++r) (y:=r) (z:=r) hR (by simp[l,a.2]) a.2 (ak a.2) oB od od;rw[show bP row ⟨60,n,types,[b],.nd dk dn dp ds da⟩ (.nd 13 [.nd u c,.nd v d]::r)=dM row ⟨60,n,types,[b],.nd dk dn dp ds da⟩ ([.nd 11 [.nd u c,.nd v d]]++r) r r by simp[bP,sFq,bB,Ty.args,Ty.t]];generalize dM row _ _ _ _=c at *;cases c<;>exact aF func72 [⟨_,o⟩,⟨_,k⟩,⟨_,pz 11 [.nd u c,.nd v d]⟩,⟨_,i⟩,⟨_,j⟩]
  | false =>
   rw[show bP row ⟨60,n,types,[b],.nd dk dn dp ds da⟩ s =.no 5 by simp[bP,e,f]];exact aF func72 [⟨_,o⟩,⟨_,aN g f⟩,⟨_,ag 5⟩]
def I6(b:s.all bn=true)(j:s.length<=M){a:List Tr}(hR:xg row [a] M) :
 Hd ⟨72,[uq 65 n types [a] dk dn dp ds da,dZ s],iH (bP row ⟨65,n,types,[a],.nd dk dn dp ds da⟩ s)⟩:=by
 have g:=ak b;have k:=hR.top
 cases d:sFq s [2]with
 | true =>
  have i:=aN g d;have f:=b;obtain⟨e,r,rfl,_⟩:=fT ov d;simp only[xf,qu]at b;simp only[jn]at j;have h:=uR (p:=65) (n:=n) (types:=types) (dk:=dk) (dn:=dn) (dp:=dp) (ds:=ds) (da:=da) (x:=r) (y:=.nd 2 e::r) (z:=r) hR b.2 f (ak b.2) od oB od;rw[show bP row ⟨65,n,types,[a],.nd dk dn dp ds da⟩ (.nd 2 e::r)=dM row ⟨65,n,types,[a],.nd dk dn dp ds da⟩ r (.nd 2 e::r) r by simp[bP,sFq,Ty.t]];generalize dM row _ _ _ _=c at *;cases c<;>exact aF func72 [⟨_,i⟩,⟨_,h⟩]
 | false =>
  rw[show bP row ⟨65,n,types,[a],.nd dk dn dp ds da⟩ s =.no 5 by simp[bP,d]];exact aF func72 [⟨_,aN g d⟩,⟨_,ag 5⟩]
def I7(q:s.all bn=true)(u:s.length<=M){g:List Tr}(hR:xg row [g] M)(i:types.all bn=true)(r:types.length=2) :
 Hd ⟨72,[uq 66 n types [g] dk dn dp ds da,dZ s],iH (bP row ⟨66,n,types,[g],.nd dk dn dp ds da⟩ s)⟩:=by
 have k:=ak q;have t:=hR.top;have j:=ak i;obtain⟨a,d,b,e,rfl⟩:=Uk r;have f:=KZ (hR.ok g ot);simp only[xf,jh3,qu,and_true]at i
 cases h:mintsTs g with
 | true =>
  rw[h]at f;rw[show bP row ⟨66,n,[.nd a d,.nd b e],[g],.nd dk dn dp ds da⟩ s =.no 5 by simp[bP,rowAt,h]];exact aF func72 [⟨_,f⟩,⟨_,ag 5⟩]
 | false =>
  rw[h]at f;have l:=lg (m:=2) (n:=2) (x:=[.nd 14 [.nd a d,.nd b e]]) (y:=s) ⟨⟨⟨ov,ov⟩,j⟩,trivial⟩ k (.inl rfl) (.inl rfl) oB;have o:=uR (p:=66) (n:=n) (types:=[.nd a d,.nd b e]) (dk:=dk) (dn:=dn) (dp:=dp) (ds:=ds) (da:=da) (x:=[.nd a d]) (y:=[.nd b e]) (z:=[.nd 14 [.nd a d,.nd b e]]++s) hR (by simp[i]) (by simp[i]) (show okTs (.nd 14 [.nd a d,.nd b e]::s) from ⟨⟨⟨ov,ov⟩,j⟩,k⟩) ot ot oB;rw[show bP row ⟨66,n,[.nd a d,.nd b e],[g],.nd dk dn dp ds da⟩ s=dM row ⟨66,n,[.nd a d,.nd b e],[g],.nd dk dn dp ds da⟩ [.nd a d] [.nd b e] ([.nd 14 [.nd a d,.nd b e]]++s) by simp[bP,rowAt,h]];generalize dM row _ _ _ _=c at *;cases c<;>exact aF func72 [⟨_,f⟩,⟨_,pz 14 [.nd a d,.nd b e]⟩,⟨_,l⟩,⟨_,o⟩]
def I9(d:s.all bn=true)(j:s.length<=M){a:List Tr}(hR:xg row [a] M) :
 Hd ⟨72,[uq 68 n types [a] dk dn dp ds da,dZ s],iH (bP row ⟨68,n,types,[a],.nd dk dn dp ds da⟩ s)⟩:=by
 have f:=ak d
 cases b:sFq s [0]with
 | true =>
  have i:=aN f b;obtain⟨g,e,r,rfl,_⟩:=iX b;simp only[xf,qu]at d;simp only[jn]at j;have h:=SH (p:=68) (n:=n) (types:=types) (dk:=dk) (dn:=dn) (dp:=dp) (ds:=ds) (da:=da) hR d.1 d.2 od;rw[show bP row ⟨68,n,types,[a],.nd dk dn dp ds da⟩ (.nd g e::r)=l7 row ⟨68,n,types,[a],.nd dk dn dp ds da⟩ (.nd g e) r by simp[bP,sFq,bB,Ty.args,Ty.t]];generalize l7 row _ _ _=c at *;cases c<;>exact aF func72 [⟨_,i⟩,⟨_,h⟩]
 | false =>
  rw[show bP row ⟨68,n,types,[a],.nd dk dn dp ds da⟩ s =.no 5 by simp[bP,b]];exact aF func72 [⟨_,aN f b⟩,⟨_,ag 5⟩]
def FR(o:s.all bn=true)(j:s.length<=1000):HI 70 59 n types rows dk dn dp ds da s aP:=by
 unfold HI;have b:=ak o;have fin:∀{k:Int},k=6\/k=10\/k=13->sFq s [k]=true->∃t a r,s =.nd t a::r/\aP ⟨59,n,types,rows,.nd dk dn dp ds da⟩ s=fQ r [.nd 4 []]:=λm h=>by obtain⟨a,r,rfl,_⟩:=fT od h;refine⟨_,a,r,rfl,?_⟩;rcases m with rfl|rfl|rfl<;>simp[aP,sFq,Ty.t]
 cases f:sFq s [6]with
 | true =>
  have c:=aN b f;obtain⟨t,a,r,rfl,e⟩:=fin (.inl rfl) f;rw[e];exact aF func70 [⟨_,c⟩,⟨_,dA 4⟩,⟨_,vS (s:=r) (top:=[.nd 4 []]) b.2 ⟨⟨⟨ov,ov⟩,trivial⟩,trivial⟩ (by simp at j|-;omega)⟩]
 | false =>
  have c:=aN b f
  cases g:sFq s [10]with
  | true =>
   have d:=aN b g;obtain⟨t,a,r,rfl,e⟩:=fin (.inr (.inl rfl)) g;rw[e];exact aF func70 [⟨_,c⟩,⟨_,d⟩,⟨_,dA 4⟩,⟨_,vS (s:=r) (top:=[.nd 4 []]) b.2 ⟨⟨⟨ov,ov⟩,trivial⟩,trivial⟩ (by simp at j|-;omega)⟩]
  | false =>
   have d:=aN b g
   cases i:sFq s [13]with
   | true =>
    have l:=aN b i;obtain⟨t,a,r,rfl,e⟩:=fin (.inr (.inr rfl)) i;rw[e];exact aF func70 [⟨_,c⟩,⟨_,d⟩,⟨_,l⟩,⟨_,dA 4⟩,⟨_,vS (s:=r) (top:=[.nd 4 []]) b.2 ⟨⟨⟨ov,ov⟩,trivial⟩,trivial⟩ (by simp at j|-;omega)⟩]
   | false =>
    rw[show aP ⟨59,n,types,rows,.nd dk dn dp ds da⟩ s =.no 5 by simp[aP,f,g,i]];exact aF func70 [⟨_,c⟩,⟨_,d⟩,⟨_,aN b i⟩,⟨_,ag 5⟩]
def Zl{A A' B:A1}{ok:Nat->Prop}{w:World}{v:Value}(h:∀u,gm (λ_=>none) ok w A u->gm (λ_=>none) ok w A' u)(k:iZ (λ_=>none) ok w (.rz [A,B]) v):iZ (λ_=>none) ok w (.rz [A',B]) v:=by
 obtain⟨d,e,c⟩:=k
 match d,c with
 | [x,y],⟨a,b,_⟩=>exact⟨_,e,h x a,b,trivial⟩
def M3(j:s.all bn=true)(o:s.length<=1000):HI 75 83 n types rows dk dn dp ds da s cZ:=by
 unfold HI;have f:=ak j
 cases c:sFq s [0]with
 | false =>
  rw[show cZ ⟨83,n,types,rows,.nd dk dn dp ds da⟩ s =.no 5 by simp[cZ,c]];exact aF func75 [⟨_,aN f c⟩,⟨_,ag 5⟩]
 | true =>
  have i:=aN f c;have t:=dD j o;obtain⟨g,b,r,rfl,_⟩:=iX c
  cases a:eB (.nd g b)with
  | false =>
   rw[show cZ ⟨83,n,types,rows,.nd dk dn dp ds da⟩ (.nd g b::r) =.no 5 by simp[cZ,bB,a]];exact aF func75 [⟨_,i⟩,⟨_,pG f.1 oR a⟩,⟨_,ag 5⟩]
  | true =>
   rw[show cZ ⟨83,n,types,rows,.nd dk dn dp ds da⟩ (.nd g b::r) =.ok true [] by simp[cZ,sFq,bB,a]];have h:Hd ⟨75,[uq 83 n types rows dk dn dp ds da,dZ (.nd g b::r)],.rz [.agg [.d (.s 0 []),.d (.v (.bool true))],iA 0]⟩:=aF func75 [⟨_,i⟩,⟨_,pG f.1 oR a⟩];exact h.conv (λ_ _ _ h=>h) (λq w v k=>Zl (A:=.agg [.d (.s 0 []),.d (.v (.bool true))]) (A':=.agg [.d (.s 2 (tysD [])),.d (.v (.bool true))]) (λu ⟨p,e,m⟩=>by
    match p,m with
    | [x,y],⟨a,l,_⟩=>exact⟨_,e,gG a,l,trivial⟩) k)
def Td{T:Ty}{t:Tr}(r:okT T)(s:okN t)(hz:t.size<=4611686018427387903):Hd ⟨113,[tyA T,ndA t],.rz [.agg [.d .t,.d .t,.d .t,.d .t,.d .t,.d .t,.d .t],iA (if (jf T t).isSome=true then 0 else 1)]⟩:=by
 have j:∀{ok:Nat->Prop} {w:World} {k l m n o p q:X} {v:Value},gm (λ_=>none) ok w (.agg [k,l,m,n,o,p,q]) v->[k,l,m,n,o,p,q].all X.plain=true->gm (λ_=>none) ok w anyA v:=λ⟨f,e,h⟩ c=>by
  simp only[xf,jh3,qu,Bool.and_true]at c
  match f,h with
  | [E,F,G,H,I,J,K],⟨u,y,z,A,B,C,D,_⟩=>exact⟨_,e,.t _ (jE u c.1),.t _ (jE y c.2.1),.t _ (jE z c.2.2.1),.t _ (jE A c.2.2.2.1),.t _ (jE B c.2.2.2.2.1),.t _ (jE C c.2.2.2.2.2.1),.t _ (jE D c.2.2.2.2.2.2),trivial⟩
 refine (WI r s hz).conv (λ_ _ _ h=>h) (λok w v h=>?_)
 cases c:jf T t with
 | none =>
  rw[c]at h;obtain⟨f,e,h⟩:=h
  match f,h with
  | [a,b],⟨g,i,_⟩=>exact⟨_,e,j g rfl,i,trivial⟩
 | some x =>
  rw[c]at h;obtain⟨f,e,h⟩:=h
  match f,h with
  | [a,b],⟨g,i,_⟩=>exact⟨_,e,j g rfl,i,trivial⟩
def MW(j:s.all bn=true)(o:s.length<=1000)(h:types.all bn=true)(k:types.length=1)(i:okN (.nd dk dn dp ds da))(l:(Tr.nd dk dn dp ds da).size<=4611686018427387903):HI 75 45 n types rows dk dn dp ds da s cZ:=by
 unfold HI;have m:=ak j;have f:=ak h;have p:=dD h od;obtain⟨a,b,rfl⟩:=GR k
 cases d:eB (.nd a b)with
 | false =>
  rw[show cZ ⟨45,n,[.nd a b],rows,.nd dk dn dp ds da⟩ s =.no 5 by simp[cZ,bB,d]];exact aF func75 [⟨_,pG f.1 oR d⟩,⟨_,ag 5⟩]
 | true =>
  have e:=Td f.1 i l;have g:=pG f.1 oR d
  cases c:(jf (.nd a b) (.nd dk dn dp ds da)).isSome with
  | false =>
   rw[c]at e;rw[show cZ ⟨45,n,[.nd a b],rows,.nd dk dn dp ds da⟩ s =.no 5 by simp only[Option.isSome_eq_false_iff,qh4]at c;simp[cZ,bB,c]];exact aF func75 [⟨_,g⟩,⟨_,e⟩,⟨_,ag 5⟩]
  | true =>
   rw[c]at e;rw[show cZ ⟨45,n,[.nd a b],rows,.nd dk dn dp ds da⟩ s=fQ s [.nd a b] by simp[cZ,bB,d,c]];exact aF func75 [⟨_,g⟩,⟨_,e⟩,⟨_,vS (s:=s) (top:=[.nd a b]) m f oB⟩]
end
