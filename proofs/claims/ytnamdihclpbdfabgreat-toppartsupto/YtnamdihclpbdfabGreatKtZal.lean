import Derived.Test.YtnamdihclpbdfabGreatKtZak
import Derived.RangeFuncFrom
import Derived.Deep.RegionHeld3
import Derived.Deep.DeepCutAuto
namespace Go.Proofs.YtnamdihclpbdfabGreat
set_option linter.all false
open Go.Proofs.Tryz
set_option maxRecDepth 100000
set_option maxHeartbeats 100000000
open Pe
def argA:Option Va->AV
 | some x=>.rz [pF x,iA 0]
 | none=>.rz [zV0,iA 5]
def argF:Rq->Ty->Option Va
 | .op _ o,T=>jf T o.arg
 | .told _ v,T=>if sameT (bB v.types 0) T then some (v.args.headD zeroVa)else none
def RqOk:Rq->Prop
 | .op _ o=>okN o.arg/\o.arg.size<=4611686018427387903
 | .told _ v=>∃A y,v.types=[A]/\v.args=[y]/\A.size<=50000000
def Mh{r:Rq}{T:Ty}(b:RqOk r)(m:okT T):Hd ⟨99,[Y1 r,tyA T],argA (argF r T)⟩:=by
 cases r with
 | op f o =>
  have h:=aed m b.1 b.2;simp only[argF];have⟨k,d,a,⟨p,n1,w,B,g⟩,⟨_,_,_,_,_⟩,⟨_,_,_,_,_⟩,⟨_,_,_,_,_⟩⟩:=o;have⟨t,ta⟩:=T;simp only at h|-;generalize jf (.nd t ta) (.nd p n1 w B g)=q at h|-
  cases q with
  | none=>exact aF func99 [⟨_,h⟩]
  | some x=>have⟨_,_,_,_,_,_,_⟩:=x;exact aF func99 [⟨_,h⟩]
 | told f v =>
  have⟨A,y,i,j,l⟩:=b;have⟨k,n,a,s,z,ty,c⟩:=v;obtain rfl:ty=[A]:=i;obtain rfl:z=[y]:=j;have h:=BR (U:=T) l;show Hd ⟨99,[Y1 (.told f (.mk k n a s [y] [A] c)),tyA T],argA (if sameT A T then some y else none)⟩;have⟨t,ta⟩:=T;have⟨u,C⟩:=A;have⟨_,_,_,_,_,_,_⟩:=y
  cases e:sameT (.nd u C) (.nd t ta)with
  | false=>rw[e]at h;rw[if_neg oe];exact aF func99 [⟨_,h⟩]
  | true=>rw[e]at h;rw[if_pos rfl];exact aF func99 [⟨_,h⟩]
def rqN:List Rq->Nat
 | []=>0
 | _::_=>3
def KN (l:List Rq):A1:=.one (.d (.s (rqN l) (kH l)))
abbrev rqL (S:St) (ex:Nat) (q:St):Prop:=vO prog f114.ntmps ⟨gF f114,S,ex,q⟩
def rqX (j:Nat):List Rq->St
 | []=>[((0,5),.of nilA)]
 | x::r=>[((0,5),.of (.one (.g 3000019 3 j))),((3000020,0),.kv 94 3 (kH (x::r)))]
def rqS (i:Int) (t:ao) (j:Nat):St:=[((0,0),.of (iA i)),((0,1),.of (qi t)),((0,8),lW (vasD t).length),((0,9),.of (jA j))]++rqX j ((t.take j).map (Rq.told i))
def abG{i:Int}{t:ao}(v:t.length<=1000000):∀(u:ao) (j:Nat),j<=t.length->t.drop j=u->rqL (rqS i t j) 2 (rqX t.length (t.map (Rq.told i)))
 | [],j,g,p=>by
  have l:t.length<=j:=by have:=congrArg List.length p;simp at this;omega
  obtain rfl:j=t.length:=jh6 g l;unfold rqS;rw[je7];have o:=al (show mD (aQ (decide (Int.ofNat t.length<((vasD t).length:Int)))) (bA false) from wH (by simp[qY])) al0;generalize t.length=m at o;cases t<;>exact xQ (e:=1) [(10,bA false)] [] o
 | x::u,j,g,p=>by
  have⟨l,q,w⟩:=kX p;have f:=abG (i:=i) v u (j+1) l w;have A:mD (aQ (decide (Int.ofNat j<((vasD t).length:Int)))) (bA true):=is_lt (by simp[qY];omega);have B:=PT q;have C:mD (lW (IntKind.i64.wrap (Int.ofNat j+1))) (jA (j+1)):=yY (zF oe ot ot);have r:t.take (j+1)=t.take j++[x]:=by rw[jc1,q];rfl
  have b:((t.take j).map (Rq.told i)).length=j:=by rw[xj,qc2];omega
  unfold rqS at f|-;rw[r,ux]at f;simp only[qb2,qg6]at f;generalize (t.take j).map (Rq.told i)=h at f b|-;have⟨k,n,a,s,z,ty,c⟩:=x;have E:zV 24 j (kH h) [rqD (.told i (.mk k n a s z ty c))]:=iL (by rw[mg];omega) oe rfl ot ov;have D:rowsLe ((kH h).take j++[rqD (.told i (.mk k n a s z ty c))]) (kH (h++[.told i (.mk k n a s z ty c)])):=by rw[ub (by rw[mg];omega)];simp only[kH,ux];exact rows_refl _
  have o:=al A (al B (al D (al E (al C al0))))
  cases h with
  | nil=>obtain rfl:j=0:=b.symm;exact LG [(10,bA true),(16,.one (.e (vaD (.mk k n a s z ty c)) 0)),(2000019,.one (.d (.s 3 (kH [.told i (.mk k n a s z ty c)])))),(20,jA (0+1))] [] f o
  | cons y F=>exact LG [(10,bA true),(16,.one (.e (vaD (.mk k n a s z ty c)) 0)),(2000019,.one (.d (.s 3 (kH ((y::F)++[.told i (.mk k n a s z ty c)]))))),(20,jA (j+1))] [] f o
def Nn{i:Int}{t:ao}(d:t.length<=1000000):Hd ⟨114,[iA i,qi t],.of (KN (t.map (Rq.told i)))⟩:=by
 have b:=abG (i:=i) d t 0 (yb _) rfl;have c:=wI (S:=rqS i t 0) (q:=gF f114=gF f114) rfl (ps:=[]) al0
 cases t with
 | nil=>exact Ce func114 [] [_] (λx a=>by rw[qu]at a;subst a;exact b) [] c
 | cons x r=>exact Ce func114 [(21,KN ((x::r).map (Rq.told i)))] [_] (λx a=>by rw[qu]at a;subst a;exact b) [] (jX c (al (show (x::r).length=(kH ((x::r).map (Rq.told i))).length by rw[mg,xj]) al0))
open Go.ChangeShapes Go.WideShapes Go.ChangeAt Go.RowKit
def bs (l:bw):bp:=⟨l.toArray⟩
def eQ(l:bw):(bs l).size=l.length:=by simp[bs,ByteArray.size]
def TM(l:bw)(k:Nat)(h:k<=l.length):(bs l).extract 0 k=bs (l.take k):=by apply ByteArray.ext;rw[je5];apply Array.ext';simp[bs]
def TL(l:bw)(k:Nat):(bs l).extract k l.length=bs (l.drop k):=by apply ByteArray.ext;rw[je5];apply Array.ext';simp[bs];exact ub oe
def DL(w:cg):Calls prog 268 #[.int .u64 1152921504606846976] w λr w'=>r =.returned (.i 61)/\w'=w:=by
 go_enter func268,ntmps268
 go_wp2
 go_ret;exact Lf.lX Xs rfl
def numTail:Nat->Nat->Nat->UInt8->bw->Option (Nat×UInt8×bw)
 | 0,_,size,last,l=>if last.toNat<128 then some (size,last,l)else none
 | k+1,sh,size,last,l=>if last.toNat<128 then some (size,last,l)else
  match l with
  | []=>none
  | b::l=>numTail k (sh+7) (size+b.toNat % 128*2 ^ sh) b l
def wK(k sh a:Nat)(last:UInt8)(l:bw)(h:last.toNat<128):numTail k sh a last l=some (a,last,l):=by
 cases k<;>rw[numTail.eq_def]<;>simp[h]
def zR(k sh a:Nat)(last:UInt8)(h:¬last.toNat<128):numTail (k+1) sh a last []=none:=by rw[numTail.eq_def];simp[h]
def xX(k sh a:Nat)(last b:UInt8)(l:bw)(h:¬last.toNat<128):numTail (k+1) sh a last (b::l)=numTail k (sh+7) (a+b.toNat % 128*2 ^ sh) b l:=by rw[numTail.eq_def];simp[h]
def pNum:bw->Option (Int×bw)
 | []=>none
 | f::l=>match numTail 8 6 (f.toNat % 64) f l with
  | none=>none
  | some (size,last,l')=>if (128<=f.toNat/\last.toNat=0)\/1152921504606846976<size\/(f.toNat / 64 % 2=1/\size=0)then none
   else some (if f.toNat / 64 % 2=1 then -(size:Int)else size,l')
def yE{a:UInt8}{n:Nat}(h:a.toNat=n):a=n.toUInt8:=by apply UInt8.toNat_inj.1;rw[h];have:=a.toNat_lt;show n=n % 256;omega
def CX(k:Nat):∀(sh e:Nat) (f:UInt8) (l:bw) (d:Nat) (b:UInt8) (i:bw),numTail k sh e f l=some (d,b,i) ->
 ∃m,d=e+m*2 ^ sh/\m<128 ^ k/\((f.toNat<128/\m=0/\b=f/\i=l)\/(128<=f.toNat/\(b.toNat≠0->m≠0/\f::l=wD (f.toNat - 128) m++i))):=by
 induction k with
 | zero =>
  intro sh e f l d b i h;rw[numTail]at h
  by_cases g:f.toNat<128
  .rw[if_pos g]at h;simp at h;obtain⟨rfl,rfl,rfl⟩:=h;exact⟨0,oe,oe,.inl ⟨g,rfl,rfl,rfl⟩⟩
  .rw[if_neg g]at h;simp at h
 | succ k v =>
  intro sh e f l d b i h
  by_cases g:f.toNat<128
  .rw[wK _ _ _ _ _ g]at h;simp at h;obtain⟨rfl,rfl,rfl⟩:=h;exact⟨0,oe,by have:=Nat.pow_pos (n:=k+1) (show 0<128 by omega);omega,.inl ⟨g,rfl,rfl,rfl⟩⟩
  .cases l with
   | nil=>rw[zR _ _ _ _ g]at h;simp at h
   | cons c y =>
    rw[xX _ _ _ _ _ _ g]at h;have⟨j,u,x,t⟩:=v _ _ _ _ _ _ _ h;have w:=c.toNat_lt;refine⟨c.toNat % 128+128*j,?_,?_,.inr ⟨od,λs=>?_⟩⟩
    .rw[u,Nat.pow_add,qf7,qg2];congr 2;rw[jh3 128 j,Nat.mul_assoc];congr 1;rw[jh3]
    .rw[Nat.pow_succ];omega
    .rcases t with⟨r,o,q,p⟩|⟨r,o⟩
     .subst o;subst q;subst p;refine⟨od,?_⟩;rw[wD,oa,show (b.toNat % 128+128*0) % 128=b.toNat from by omega,show (b.toNat % 128+128*0) / 128=0 from by omega,wD,if_pos rfl];rw[<-yE (a:=b) rfl,<-yE (a:=f) od];rfl
     .have⟨q,p⟩:=o s;refine⟨od,?_⟩;rw[wD,oa,show (c.toNat % 128+128*j) % 128=c.toNat - 128 from by omega,show (c.toNat % 128+128*j) / 128=j from by omega,p];rw[<-yE (a:=f) od];rfl
def oQ{l p:bw}{n:Int}(h:pNum l=some (n,p)):(-1152921504606846976<=n/\n<=1152921504606846976)/\l=pE n++p:=by
 cases l with
 | nil=>simp[pNum]at h
 | cons f l =>
  rw[pNum]at h
  cases j:numTail 8 6 (f.toNat % 64) f l with
  | none=>rw[j]at h;simp at h
  | some r =>
   have⟨size,c,y⟩:=r;rw[j]at h;simp only at h
   by_cases o:(128<=f.toNat/\c.toNat=0)\/1152921504606846976<size\/(f.toNat / 64 % 2=1/\size=0)
   .rw[if_pos o]at h;simp at h
   rw[if_neg o]at h;simp only[qq,js]at h;obtain⟨e,rfl⟩:=h;have⟨m,u,x,t⟩:=CX 8 _ _ _ _ _ _ _ j;have w:=f.toNat_lt;have i:(2:Nat) ^ 6=64:=rfl;rw[i]at u;have s:(-1152921504606846976<=n/\n<=1152921504606846976):=by split at e<;>omega
   have k:n.natAbs=size:=by split at e<;>omega
   have b:(if n<0 then 64 else 0)=f.toNat / 64 % 2*64:=by
    by_cases d:f.toNat / 64 % 2=1
    .rw[if_pos d]at e;rw[oc];omega
    .rw[if_neg d]at e;rw[oa];omega
   refine⟨s,?_⟩;unfold pE;rw[b,k,show size % 64=f.toNat % 64 from by omega,show size / 64=m from by omega];rcases t with⟨d,g,v,q⟩|⟨d,g⟩
   .subst g;subst q;rw[show f.toNat / 64 % 2*64+f.toNat % 64=f.toNat from by omega,wD,if_pos rfl,<-yE (a:=f) rfl];rfl
   .rw[show f.toNat / 64 % 2*64+f.toNat % 64=f.toNat - 128 from by omega];exact (g od).2
def Kb(k:Nat)(hk:k<=8):2 ^ (6+7*(8 - k))<=4611686018427387904:=by
 have : ∀k:Fin 9,2 ^ (6+7*(8 - k.val))<=4611686018427387904:=Xs
 exact this ⟨k,od⟩
def KS(x:Nat)(h:x<9223372036854775808):wrap64 (x:Int)=(x:Int):=by unfold wrap64;omega
def Xt(sh size x:Nat)(h:size<2 ^ sh)(hx:x<128)(hs:sh<=55):bits .or .i64 (size:Int) (wrap64 ((x:Int)*2 ^ sh))=((size+x*2 ^ sh:Nat):Int)/\size+x*2 ^ sh<2 ^ (sh+7):=by
 have hp:2 ^ sh<=36028797018963968:=by
  have : (36028797018963968:Nat)=2 ^ 55:=Xs
  rw[this];exact Nat.pow_le_pow_right od hs
 have hp0:0<2 ^ sh:=Nat.pow_pos od;have hxs:x*2 ^ sh+2 ^ sh<=128*2 ^ sh:=by have:=qh2 (2 ^ sh) (show x+1<=128 by omega);rw[qf7,Nat.one_mul]at this;exact this
 have e:((x:Int)*2 ^ sh)=((x*2 ^ sh:Nat):Int):=by push_cast;rfl
 rw[e,KS _ od,oO _ _ od od];have h2:=Nat.two_pow_add_eq_or_of_lt h x;rw[Nat.or_comm,jh3 x,<-h2];refine⟨by congr 1;omega,?_⟩;rw[Nat.pow_add,jh3];have : (2:Nat) ^ 7=128:=rfl;rw[this];omega
def kR (l:bw):Option (Nat×bw):=match pNum l with
 | some (m,l')=>if m<0 then none else some (m.toNat,l')
 | none=>none
def yf (l:bw):Option (bw×bw):=match kR l with
 | some (m,l')=>if 200<m\/l'.length<m then none else some (l'.take m,l'.drop m)
 | none=>none
def zm (f:Nat->bw->Except Int (Tr×Nat×bw)):Nat->Nat->bw->Except Int (aE×Nat×bw)
 | 0,n,l=>.ok ([],n,l)
 | k+1,n,l=>match f n l with
  | .error e=>.error e
  | .ok (t,n',l')=>match zm f k n' l' with
   | .error e=>.error e
   | .ok (ts,n'',l'')=>.ok (t::ts,n'',l'')
def pQ (f:Nat->bw->Except Int (Tr×Nat×bw)) (n:Nat) (l:bw):Except Int (aE×Nat×bw) :=
 match kR l with
 | none=>.error 1
 | some (c,l')=>zm f c n l'
def pNode:Nat->Nat->bw->Except Int (Tr×Nat×bw)
 | 0,_,_=>.error 4
 | d+1,n,l=>if n=300 then .error 4 else match l with
  | []=>.error 1
  | b::l =>
   if b.toNat=0 then match pNum l with
    | none=>.error 1
    | some (m,l')=>.ok (.nd 0 m 0 (bs []) [],n+1,l')
   else if b.toNat=1 then match yf l with
    | none=>.error 1
    | some (s,l')=>.ok (.nd 1 0 0 (bs s) [],n+1,l')
   else if b.toNat=2 then match l with
    | []=>.error 1
    | p::l=>if Lf.gD p.toNat=false then .error 1 else match pQ (λn l=>pNode d n l) (n+1) l with
     | .error e=>.error e
     | .ok (ts,n',l')=>.ok (.nd 2 0 p.toNat (bs []) ts,n',l')
   else if b.toNat=3 then match pQ (λn l=>pNode d n l) (n+1) l with
    | .error e=>.error e
    | .ok (ts,n',l')=>.ok (.nd 3 0 0 (bs []) ts,n',l')
   else .error 1
def TK(l:bw):(bs l).data.toList=l:=by simp[bs]
def sF{l d:bw}{c:Nat}(h:kR l=some (c,d)):c<=1152921504606846976/\l=pE c++d:=by
 unfold kR at h
 cases a:pNum l with
 | none=>rw[a]at h;simp at h
 | some r =>
  have⟨x,g⟩:=r;have⟨f,e⟩:=oQ a;rw[a]at h;simp only at h
  by_cases b:x<0
  .rw[if_pos b]at h;simp at h
  .rw[if_neg b]at h;simp only[qq,js]at h;obtain⟨rfl,rfl⟩:=h;rw[Int.toNat_of_nonneg od];exact⟨od,e⟩
def zS{l s c:bw}(h:yf l=some (s,c)):s.length<=200/\l=pE s.length++s++c:=by
 unfold yf at h
 cases a:kR l with
 | none=>rw[a]at h;simp at h
 | some r =>
  have⟨m,d⟩:=r;have⟨g,e⟩:=sF a;rw[a]at h;simp only at h
  by_cases b:200<m\/d.length<m
  .rw[if_pos b]at h;simp at h
  rw[if_neg b]at h;simp only[qq,js]at h;obtain⟨rfl,rfl⟩:=h;have f:(d.take m).length=m:=vl
  rw[f];exact⟨od,by rw[qa6,qd1];exact e⟩
def Sound (d:Nat) (n:Nat) (l:bw) (t:Tr) (n':Nat) (l':bw):Prop:=l=encTr t++l'/\n'=n+t.size/\n'<=300/\bC (25 - d) t=0
def J7{d:Nat}{f:Nat->bw->Except Int (Tr×Nat×bw)}(z:∀n l t a b,n<=300->f n l =.ok (t,a,b)->Sound d n l t a b) :
 ∀(k n:Nat) (l:bw) (ts:aE) (a:Nat) (b:bw),n<=300->zm f k n l =.ok (ts,a,b)->l=encTrs ts++b/\a=n+sizes ts/\a<=300/\bG (25 - d) ts=0/\ts.length=k:=by
 intro k
 induction k with
 | zero =>
  intro n l ts a b i h;simp only[zm,jf4,js]at h;obtain⟨rfl,rfl,rfl⟩:=h;exact⟨by simp[encTrs],by simp[sizes],i,by simp[bG],rfl⟩
 | succ k A =>
  intro n l ts a b i h;rw[zm]at h
  cases c:f n l with
  | error e=>rw[c]at h;simp at h
  | ok r =>
   have⟨t,n1,j⟩:=r;rw[c]at h;simp only at h
   cases g:zm f k n1 j with
   | error e=>rw[g]at h;simp at h
   | ok r =>
    have⟨m,C,B⟩:=r;rw[g]at h;simp only[jf4,js]at h;obtain⟨rfl,rfl,rfl⟩:=h;have⟨o,p,q,s⟩:=z n l t n1 j i c;have⟨u,v,w,x,y⟩:=A n1 j m C B q g;refine⟨by rw[o,u,encTrs];simp,by rw[v,p,sizes];omega,w,?_,by simp[y]⟩;rw[bG,s];simpa using x
def vM(k n p:Int)(s:bp)(l:Nat)(a:Lf.rP k)(b:¬(k=2/\Lf.gD p=false))(c:Lf.qM k n p s l=false)(d:-1152921504606846976<=n/\n<=1152921504606846976)(e:s.size<=200):Lf.fD k n p s l=0:=by unfold Lf.fD;rw[if_neg (by simp[a]),if_neg b,if_neg (by simp[c]),oa,oa]
def pR{d:Nat}{f:Nat->bw->Except Int (Tr×Nat×bw)}(p:∀n l t a b,n<=300->f n l =.ok (t,a,b)->Sound d n l t a b){n:Nat}{l:bw}{ts:aE}{a:Nat}{b:bw}(hn:n<=300)
 (h:pQ f n l =.ok (ts,a,b)):l=pE ts.length++encTrs ts++b/\a=n+sizes ts/\a<=300/\bG (25 - d) ts=0:=by
 unfold pQ at h
 cases e:kR l with
 | none=>rw[e]at h;simp at h
 | some r =>
  have⟨c,q⟩:=r;have⟨s,o⟩:=sF e;rw[e]at h;have⟨g,i,j,k,m⟩:=J7 p c n q ts a b hn h;subst m;exact⟨by rw[o,g];simp,i,j,k⟩
def pU(d:Nat):d<=24->∀(n:Nat) (l:bw) (t:Tr) (u:Nat) (q:bw),n<=300->pNode d n l =.ok (t,u,q)->Sound d n l t u q:=by
 induction d with
 | zero=>intro _ n l t u q E h;simp[pNode]at h
 | succ d o =>
  intro I n l t u q E h;have o:=o od;rw[pNode.eq_def]at h;simp only at h
  by_cases g:n=300
  .rw[if_pos g]at h;simp at h
  rw[if_neg g]at h;have hF:∀(k m p:Int) (s:bp) (f:aE),Lf.fD k m p s f.length=0->bG (25 - d) f=0->bC (25 - (d+1)) (.nd k m p s f)=0:=by intro k m p s f G F;rw[bC,oa,if_neg (by simpa using G),show 25 - (d+1)+1=25 - d from by omega];exact F
  cases l with
  | nil=>simp at h
  | cons b l =>
   simp only at h
   by_cases x:b.toNat=0
   .rw[if_pos x]at h
    cases c:pNum l with
    | none=>rw[c]at h;simp at h
    | some r =>
     have⟨m,C⟩:=r;have⟨i,j⟩:=oQ c;rw[c]at h;simp only[jf4,js]at h;obtain⟨rfl,rfl,rfl⟩:=h;refine⟨?_,by simp[Tr.size,sizes],od,?_⟩
     .rw[encTr,if_pos rfl,j,yE x];rfl
     .exact hF 0 m 0 (bs []) [] (vM _ _ _ _ _ ov ov (by rfl) i (by rw[eQ];simp)) (by simp[bG])
   rw[if_neg x]at h
   by_cases y:b.toNat=1
   .rw[if_pos y]at h
    cases c:yf l with
    | none=>rw[c]at h;simp at h
    | some r =>
     have⟨s,C⟩:=r;have⟨i,j⟩:=zS c;rw[c]at h;simp only[jf4,js]at h;obtain⟨rfl,rfl,rfl⟩:=h;refine⟨?_,by simp[Tr.size,sizes],od,?_⟩
     .rw[encTr,if_neg ov,if_pos rfl,j,yE y,eQ,TK];rfl
     .exact hF 1 0 0 (bs s) [] (vM _ _ _ _ _ ov ov (by rfl) od (by rw[eQ];exact i)) (by simp[bG])
   rw[if_neg y]at h
   by_cases z:b.toNat=2
   .rw[if_pos z]at h
    cases l with
    | nil=>simp at h
    | cons p l =>
     simp only at h
     by_cases B:Lf.gD p.toNat=false
     .rw[if_pos B]at h;simp at h
     rw[if_neg B]at h
     cases c:pQ (λn l=>pNode d n l) (n+1) l with
     | error e=>rw[c]at h;simp at h
     | ok r =>
      have⟨D,H,C⟩:=r;have⟨i,j,v,w⟩:=pR o od c;rw[c]at h;simp only[jf4,js]at h;obtain⟨rfl,rfl,rfl⟩:=h;refine⟨?_,by rw[j,Tr.size];omega,v,?_⟩
      .rw[encTr,if_neg ov,if_neg ov,if_pos rfl,i,yE z];simp only[qe0,jg0];rw[<-yE (a:=p) rfl];rfl
      .exact hF 2 0 p.toNat (bs []) D (vM _ _ _ _ _ ov (by simpa using B) (by rfl) od (by rw[eQ];simp)) w
   rw[if_neg z]at h
   by_cases A:b.toNat=3
   .rw[if_pos A]at h
    cases c:pQ (λn l=>pNode d n l) (n+1) l with
    | error e=>rw[c]at h;simp at h
    | ok r =>
     have⟨D,H,C⟩:=r;have⟨i,j,v,w⟩:=pR o od c;rw[c]at h;simp only[jf4,js]at h;obtain⟨rfl,rfl,rfl⟩:=h;refine⟨?_,by rw[j,Tr.size];omega,v,?_⟩
     .rw[encTr,if_neg ov,if_neg ov,if_neg ov,i,yE A];rfl
     .exact hF 3 0 0 (bs []) D (vM _ _ _ _ _ ov ov (by rfl) od (by rw[eQ];simp)) w
   .rw[if_neg A]at h;simp at h
def mE (l:bw):Except Int Tr:=match pNode 24 0 l with
 | .ok (t,_,l')=>if l'=[]then .ok t else .error 1
 | .error e=>.error e
def jw (T:Ty):bw->Option Va
 | []=>none
 | b::r=>if b=5/\r.length<=199 then (match mE r with
  | .error _=>none
  | .ok t=>match jf T t with
   | none=>none
   | some x=>if eB T then some x else none)else none
def TR (T:Ty) (x:Va):Bool:=pY T x&&eB T
def M8{T:Ty}{x:Va}(h:TR T x):au T/\hasV x T/\eB T:=by unfold TR pY at h;simp only[qv]at h;exact⟨h.1.1,h.1.2,h.2⟩
def P9{T:Ty}{x:Va}(h:TR T x):(dR x).size<=301:=by have⟨a,b,c⟩:=M8 h;exact (OD b c (dE a).1).2.2
open Go.RowKit
def Ij (x y:Va):Bool:=decide (qg uL x y=0)
structure En where
 self:Int
 sender:Int
 amount:Int
 balance:Int
structure Fr where
 rest:aE
 op:Int
 row:aE
 aside:ao
structure Ma where
 paid:Int
 aO:Int
 said:Va
 st:ao
 fr:List Fr
inductive Out where
 | stuck
 | no (e:Int) (m:Ma)
 | go (m:Ma)
def mkV (k:Int) (args:ao):Va:=.mk k 0 0 ⟨#[]⟩ args [] []
def aW (k n:Int):Va:=.mk k n 0 ⟨#[]⟩ [] [] []
def aV (v:Va):Va:=mkV 9 [v]
def noneV:Va:=mkV 9 []
def aY (a b:Va):Va:=mkV 11 [a,b]
def di (s:bp):Va:=.mk 6 0 0 s [] [] []
def aZ (b:Bool):Va:=aW 2 (if b then 1 else 0)
def nE (n:Int) (v:Va):Va:=.mk 12 n 0 ⟨#[]⟩ [v] [] []
def aM (a n:Int) (v:Va):Va:=.mk 15 n a ⟨#[]⟩ [v] [] []
def yN (v:Va):Bool:=decide (200<wrap64 (vsum v:Nat))
def bz (m:Ma) (l:ao):Out:=if 20000000<vsizes l then .stuck else if l.any yN then .no 13 m else .go { m with st:=l++m.st }
def uH (aC:Int) (m:Ma) (k:Ma->Out):Out:=if aC<=m.paid then .no 12 m else k { m with paid:=m.paid+1 }
def dK (n:Tr) (i:Nat):Tr:=(n.args0[i]?).getD tr0
def p9 (n:Tr) (m:Ma):Out :=
 if n.p0=40 then (match m.st with
  | _::s=>.go { m with st:=s }
  | []=>.stuck)
 else if n.p0=41 then (if 1<=(dK n 0).n0 then (match m.st[(dK n 0).n0.toNat - 1]? with
  | some v=>bz m [v]
  | none=>.stuck)else .stuck)
 else if n.p0=42 then (match m.st with
  | a::b::s=>bz { m with st:=s } [b,a]
  | _=>.stuck)
 else if n.p0=43 then (if 0<=(dK n 0).n0 then (match m.st[(dK n 0).n0.toNat]? with
  | some v=>.go { m with st:=v::m.st.eraseIdx (dK n 0).n0.toNat }
  | none=>.stuck)else .stuck)
 else (match m.st with
  | v::s=>if 0<=(dK n 0).n0/\(dK n 0).n0<=s.length then .go { m with st:=s.take (dK n 0).n0.toNat++v::s.drop (dK n 0).n0.toNat } else .stuck
  | []=>.stuck)
def l8 (p:Int) (m:Ma):Out :=
 if p=54 then bz m [noneV]else match m.st with
 | []=>.stuck
 | a::s =>
  if p=46 then (match s with
   | b::s=>bz { m with st:=s } [aY a b]
   | []=>.stuck)
  else if p=48 then (match a.args with
   | x::_=>bz { m with st:=s } [x]
   | []=>.stuck)
  else if p=49 then (match a.args with
   | _::y::_=>bz { m with st:=s } [y]
   | _=>.stuck)
  else if p=50 then bz { m with st:=s } [nE 0 a]
  else if p=51 then bz { m with st:=s } [nE 1 a]
  else if p=53 then bz { m with st:=s } [aV a]
  else bz { m with st:=s } a.args
def jP (m:Ma) (k:Int) (l:ao):Out:=if 24<l.length then .no 13 m else bz m [mkV k l]
def bZ (l:ao) (key:Va):Nat:=(l.takeWhile λx=>decide (gT (fU x) key<0)).length
def fJ (l:ao) (key:Va):Bool:=match l[bZ l key]? with
 | some x=>decide (gT (fU x) key=0)
 | none=>false
def uO (l:ao) (key:Va) (item:ao):ao:=l.take (bZ l key)++(item.map (aY key)++l.drop (if fJ l key then bZ l key+1 else bZ l key))
def il (p:Int) (m:Ma):Out :=
 if p=56 then bz m [mkV 10 []]else if p=61 then bz m [mkV 13 []]else match m.st with
 | []=>.stuck
 | a::s =>
  if p=59 then bz { m with st:=s } [aW 4 (a.s.size+a.args.length:Nat)]
  else match s with
  | []=>.stuck
  | b::s =>
   if p=57 then jP { m with st:=s } 10 (a::b.args)
   else if p=62 then (if risesF b.args then (if fJ b.args a then (match b.args[bZ b.args a]? with
    | some x=>(match x.args with
     | _::y::_=>bz { m with st:=s } [aV y]
     | _=>.stuck)
    | none=>.stuck)else bz { m with st:=s } [noneV])else .stuck)
   else (match s with
    | c::s=>if risesF c.args then jP { m with st:=s } 13 (uO c.args a b.args)else .stuck
    | []=>.stuck)
def ru (p:Int) (v:Va):Nat×ao :=
 if p=52 then (v.n.toNat,v.args)else if p=55 then (v.args.length,v.args)else if p=64 then (if v.n=1 then 0 else 1,v.args)
 else match v.args with
  | []=>(1,[])
  | x::l=>(0,[x,mkV 10 l])
def gJ (n:Tr) (m:Ma):Out:=match m.st with
 | []=>.stuck
 | v::s=>match n.args0[(ru n.p0 v).1]? with
  | none=>.stuck
  | some t=>if n.p0=52/\v.n<0 then .stuck else bz { m with st:=s,fr:=⟨t.args0,0,[],[]⟩::m.fr } (ru n.p0 v).2
def mq (n:Tr) (m:Ma):Out :=
 if n.p0=60 then (match m.st with
  | v::s=>.go { m with st:=s,fr:=⟨[],60,(dK n 0).args0,v.args⟩::m.fr }
  | []=>.stuck)
 else if n.p0=65 then .go { m with fr:=⟨[],65,(dK n 0).args0,[]⟩::m.fr }
 else if n.p0=68 then (match m.st with
  | v::s=>.go { m with st:=s,fr:=⟨(dK n 0).args0,68,[],[v]⟩::m.fr }
  | []=>.stuck)
 else if n.p0=67 then (match m.st with
  | a::b::s=>.go { m with st:=[a],fr:=⟨b.code,67,[],s.reverse⟩::m.fr }
  | _=>.stuck)
 else bz m [.mk 14 0 0 ⟨#[]⟩ [] [kreadT (dK n 0),kreadT (dK n 1)] (dK n 2).args0]
def kF (n:Int):Int×Int:=if kE n then (n,0)else (0,11)
def addN (a b:Int):Int×Int:=if kE a/\kE b then kF (a+b)else (0,2)
def Iu (a b:Int):Int×Int:=if kE a/\kE b then kF (a - b)else (0,2)
def mulN (a b:Int):Int×Int:=if kE a/\kE b then kF (a*b)else (0,2)
def EJ (a:Int):Int×Int:=if kE a then ((a.natAbs:Int),0)else (0,2)
def iU (p a b:Int):Int×Int:=if p=69 then addN a b else if p=70 then Iu a b else mulN a b
def mK (p a b:Int):Int:=if a=5\/b=5 then 5 else if p≠70/\a=4/\b=4 then 4 else 3
def oV (m:Ma) (k:Int) (r:Int×Int):Out:=if r.2=0 then bz m [aW k r.1]else .no r.2 m
def rH (a b:Int):Int×Int:=if a=5/\b=5 then (4,5)else if a=5 then (5,5)else if a=4/\b=4 then (4,4)else (3,4)
def Gu (m:Ma) (a b:Va):Out :=
 if kE a.n/\kE b.n then (if b.n=0 then bz m [noneV]
  else bz m [aV (aY (aW (rH a.k b.k).1 (a.n / b.n)) (aW (rH a.k b.k).2 (a.n % b.n)))])else .no 2 m
def gL (p:Int) (m:Ma):Out:=match m.st with
 | []=>.stuck
 | a::s =>
  if p=93 then oV { m with st:=s } 4 (EJ a.n)
  else if p=94 then bz { m with st:=s } [if a.n<0 then noneV else aV (aW 4 a.n)]
  else if p=95 then bz { m with st:=s } [aW 3 a.n]
  else match s with
  | []=>.stuck
  | b::s =>
   if p=72 then Gu { m with st:=s } a b
   else if p=70/\a.k=5 then bz { m with st:=s } [if (iU p a.n b.n).1<0 then noneV else aV (aW 5 (iU p a.n b.n).1)]
   else oV { m with st:=s } (mK p a.k b.k) (iU p a.n b.n)
def kJ (v:Va):Bool:=decide (v.n=1)
def xm (p:Int) (m:Ma):Out:=match m.st with
 | []=>.stuck
 | a::s =>
  if p=74 then bz { m with st:=s } [aZ (decide (a.n=0))]
  else if p=75 then bz { m with st:=s } [aZ (decide (a.n<0))]
  else if p=76 then bz { m with st:=s } [aZ (decide (0<a.n))]
  else if p=77 then bz { m with st:=s } [aZ (!kJ a)]
  else match s with
  | []=>.stuck
  | b::s =>
   if p=73 then bz { m with st:=s } [aW 3 (gT a b)]
   else if p=78 then bz { m with st:=s } [aZ (kJ a&&kJ b)]
   else bz { m with st:=s } [aZ (kJ a||kJ b)]
def oz (v:Va):Option bp:=if dS (dR v)=0/\(encTr (dR v)).length<=199 then some ⟨(5::encTr (dR v)).toArray⟩else none
def jQ (n:Tr) (m:Ma):Out :=
 if n.p0=45 then (match jf (kreadT (dK n 0)) (dK n 1)with
  | some v=>bz m [v]
  | none=>.stuck)
 else match m.st with
 | []=>.stuck
 | a::s =>
  if n.p0=80 then (match s with
   | b::s=>if 200<a.s.size+b.s.size then .no 13 m else bz { m with st:=s } [di (a.s++b.s)]
   | []=>.stuck)
  else if n.p0=81 then (if (dR a).size<=301 then (match oz a with
   | some t=>bz { m with st:=s } [di t]
   | none=>.no 13 m)else .stuck)
  else if n.p0=82 then (match jw (kreadT (dK n 0)) a.s.toList with
   | some v=>bz { m with st:=s } [aV v]
   | none=>bz { m with st:=s } [noneV])
  else .no 10 { m with said:=a }
def iB (en:En) (p:Int) (m:Ma):Out:=match m.st with
 | []=>.stuck
 | a::s =>
  if p=84 then (match s with
   | b::s=>if b.n=0 then bz { m with st:=s } [noneV]else if (addN m.aO b.n).2=0 then bz { m with st:=s,aO:=(addN m.aO b.n).1 } [aV (aM en.self b.n a)]else .no (addN m.aO b.n).2 m
   | []=>.stuck)
  else if p=85 then (match a.args with
   | x::_=>bz { m with st:=s } [aY (aW 7 a.a) (aY x (aW 4 a.n)),a]
   | []=>.stuck)
  else if p=86 then (match s,a.args with
   | b::s,x::_=>(match b.args with
    | y::z::_=>if y.n=0\/z.n=0\/wrap64 (y.n+z.n)≠a.n then bz { m with st:=s } [noneV]else bz { m with st:=s } [aV (aY (aM a.a y.n x) (aM a.a z.n x))]
    | _=>.stuck)
   | _,_=>.stuck)
  else (match a.args with
   | y::z::_=>(match y.args,z.args with
    | u::_,v::_=>if y.a≠z.a\/Ij u v=false then bz { m with st:=s } [noneV]else if (addN y.n z.n).2=0 then bz { m with st:=s } [aV (aM y.a (addN y.n z.n).1 u)]else .no (addN y.n z.n).2 m
    | _,_=>.stuck)
   | _=>.stuck)
def iw (en:En) (n:Tr) (m:Ma):Out :=
 if n.p0=89 then bz m [aW 7 en.self]else if n.p0=90 then bz m [aW 7 en.sender]else if n.p0=91 then bz m [aW 5 en.amount]else if n.p0=92 then bz m [aW 5 en.balance]
 else match m.st with
 | v::a::t::s=>bz { m with st:=s } [.mk 8 a.n t.n ⟨#[]⟩ [v] [kreadT (dK n 0)] []]
 | _=>.stuck
def Qy (en:En) (n:Tr) (m:Ma):Out :=
 if n.p0=40\/n.p0=41\/n.p0=42\/n.p0=43\/n.p0=44 then p9 n m
 else if n.p0=46\/n.p0=47\/n.p0=48\/n.p0=49\/n.p0=50\/n.p0=51\/n.p0=53\/n.p0=54 then l8 n.p0 m
 else if n.p0=56\/n.p0=57\/n.p0=59\/n.p0=61\/n.p0=62\/n.p0=63 then il n.p0 m
 else if n.p0=52\/n.p0=55\/n.p0=58\/n.p0=64 then gJ n m
 else if n.p0=60\/n.p0=65\/n.p0=66\/n.p0=67\/n.p0=68 then mq n m
 else if n.p0=69\/n.p0=70\/n.p0=71\/n.p0=72\/n.p0=93\/n.p0=94\/n.p0=95 then gL n.p0 m
 else if n.p0=73\/n.p0=74\/n.p0=75\/n.p0=76\/n.p0=77\/n.p0=78\/n.p0=79 then xm n.p0 m
 else if n.p0=45\/n.p0=80\/n.p0=81\/n.p0=82\/n.p0=83 then jQ n m
 else if n.p0=84\/n.p0=85\/n.p0=86\/n.p0=87 then iB en n.p0 m
 else iw en n m
def Iq (en:En) (aC:Int) (n:Tr) (m:Ma):Out :=
 if n.k0=3 then .go { m with fr:=⟨n.args0,0,[],[]⟩::m.fr } else uH aC m (Qy en n)
def Bz (aC:Int) (f:Fr) (fs:List Fr) (m:Ma):Out :=
 if f.op=60 then (match f.aside with
  | x::l=>uH aC { m with st:=x::m.st,fr:=⟨f.row,60,f.row,l⟩::fs } .go
  | []=>.go { m with fr:=fs })
 else if f.op=65 then (match m.st with
  | v::s=>if kJ v then uH aC { m with st:=s,fr:=⟨f.row,65,f.row,f.aside⟩::fs } .go else .go { m with st:=s,fr:=fs }
  | []=>.stuck)
 else if f.op=68 then .go { m with st:=f.aside.reverse++m.st,fr:=fs }
 else if f.op=67 then .go { m with st:=m.st++f.aside.reverse,fr:=fs }
 else .go { m with fr:=fs }
def uB (en:En) (aC:Int) (m:Ma):Out:=match m.fr with
 | []=>.stuck
 | f::fs=>match f.rest with
  | []=>Bz aC f fs m
  | n::l=>Iq en aC n { m with fr:=⟨l,f.op,f.row,f.aside⟩::fs }
def fq (en:En) (aC:Int):Nat->Ma->Out
 | 0,_=>.stuck
 | N+1,m=>match m.fr with
  | []=>.go m
  | _::_=>match uB en aC m with
   | .go m'=>fq en aC N m'
   | .no e m'=>.no e m'
   | .stuck=>.stuck
def mr:(prog.info? 29).map (λi=>(i.zero,i.size,i.bytes))=some (some (.agg #[.i 0,.i 0,.i 0,.string ⟨#[]⟩,.n0,.n0,.n0]),7,112):=oA
def dF (B:Nat) (w:cg) (v:cm) (vs:bo):Prop:=w.ownsRow B 29 7 v vs.length (flat vs)
def flatV_get:∀(vs:bo),(∀u∈vs,(nodeCells u).length=7)->∀(i j:Nat) (u:cm),vs[i]?=some u->j<7->(flat vs)[i*7+j]?=(nodeCells u)[j]?
 | [],_,i,j,u,h,_=>by simp at h
 | x::vs,a,0,j,u,h,b=>by simp at h;subst h;have:=a x oe;simp only[flat,qd0];rw[kO od];simp
 | x::vs,a,i+1,j,u,h,b=>by have c:=a x oe;have:=flatV_get vs (λu d=>a u (by simp[d])) i j u (by simpa using h) b;simp only[flat,qd0]at this|-;rw[zE od,c,show (i+1)*7+j - 7=i*7+j from by omega];exact this
structure dB (O:br) (w:cg) (O':br) (w':cg):Prop where
 os:w'.os=w.os
 tape:w'.tape=w.tape
 output:w'.output=w.output
 size:w.heap.size<=w'.heap.size
 block:∀b,b<w.heap.size->¬O b->w'.heap[b]?=w.heap[b]?
 new:∀b,O' b->O b\/w.heap.size<=b
def dB.refl(O:br)(w:cg):dB O w O w:=⟨rfl,rfl,rfl,jn _,λ_ _ _=>rfl,λ_ h=>.inl h⟩
def dB.trans{O d e:br}{w i j:cg}(h:dB O w d i)(k:dB d i e j):dB O w e j :=
 ⟨k.os.trans h.os,k.tape.trans h.tape,k.output.trans h.output,xo h.size k.size,λb c g=>(k.block b (kh c h.size) (λa=>by rcases h.new b a with f|f;exact g f;omega)).trans (h.block b c g),
  λb c=>by
   rcases k.new b c with a|a
   .exact h.new b a
   .exact .inr (xo h.size a)⟩
def dB.grow{O:br}{w w':cg}(h:cq w w' none):dB O w O w':=⟨h.os,h.tape,h.output,h.size,λb a _=>h.block b a oe,λ_ h=>.inl h⟩
def dB.ofRow{O:br}{w w':cg}{r:Option Nat}(h:cq w w' r)(d:∀g,r=some g->O g):dB O w O w' :=
 ⟨h.os,h.tape,h.output,h.size,λb c a=>h.block b c (λe=>a (d b e.symm)),λ_ h=>.inl h⟩
def qx (O:br) (v v':cm):br:=λb=>(O b/\v.ownBlock≠some b)\/v'.ownBlock=some b
def dB.gr{O:br}{w w':cg}{v v':cm}(h:Gr w v w' v')(c:∀g,v.ownBlock=some g->O g):dB O w (qx O v v') w' :=
 ⟨h.1.os,h.1.tape,h.1.output,h.1.size,λb a d=>h.1.block b a (λe=>d (c b e.symm)),λb a=>by
  rcases a with a|a
  .exact .inl a.1
  .rcases h.2 with e|⟨g,e,f⟩
   .rw[e]at a;exact .inl (c b a)
   .rw[e]at a;simp only[qq]at a;exact .inr od⟩
def dB.same{O c:br}{w w':cg}(h:dB O w c w'):Same (λb=>¬O b) w w':=λb o d a=>kd (h.block b a d)
def dB.lies{O c:br}{w w':cg}{x:Va}{u:cm}(h:dB O w c w')(i:aA (λb=>¬O b) w x u):aA (λb=>¬c b) w' x u :=
 ((i.ae (ok':=λb=>¬O b/\¬c b) (λb a f=>⟨f,λg=>by rcases h.new b g with e|e;exact f e;omega⟩)).same (λb o a d=>h.same b o a.1 d)).ae (λb _ a=>a.2)
def dB.Kl{O d:br}{w w':cg}{l:aE}{a:bj}{V:bt}(h:dB O w d w')(j:cK (λb=>¬O b) w l a V):cK (λb=>¬d b) w' l a V :=
 ((j.ae (ok':=λb=>¬O b/\¬d b) (λb c g=>⟨g,λi=>by rcases h.new b i with f|f;exact g f;omega⟩)).same (λb o c e=>h.same b o c.1 e)).ae (λb _ c=>c.2)
def dB.U5{O d:br}{w w':cg}{l:ao}{a:bj}{V:bt}(h:dB O w d w')(j:aT (λb=>¬O b) w l a V):aT (λb=>¬d b) w' l a V :=
 ((j.ae (ok':=λb=>¬O b/\¬d b) (λb c g=>⟨g,λi=>by rcases h.new b i with f|f;exact g f;omega⟩)).same (λb o c e=>h.same b o c.1 e)).ae (λb _ c=>c.2)
def ay (w:cg) (b:Nat):Prop:=∃cs e fz,w.heap[b]?=some (.cells cs e fz)/\2<=cs.size
def qz{w:cg}{b o:Nat}{u v:cm}(h0:w.cell? ⟨b,o,none⟩=some u)(h:w.cell? ⟨b,o+1,none⟩=some v):ay w b:=by
 unfold World.cell? at h
 cases a:w.heap[b]? with
 | none=>simp[a]at h
 | some d =>
  cases d with
  | cells cs e c =>
   refine⟨cs,e,c,a,?_⟩;simp only[a]at h;have:=(kj.1 h).1;omega
  | _=>simp[a]at h
def bI.LM{ok ok':br}{w:cg}{t:Tr}{v:cm}(h:bI ok w t v)(hm:∀b,ay w b->ok b->ok' b):bI ok' w t v:=by
 induction h with
 | mk V m e y u z g _ x =>
  refine .mk (hk:=by assumption) V m e y u z (λi j=>?_) x;have⟨b,o,q,f,k,n,p,s,a,l,c,r,h0,d⟩:=g i j;exact⟨b,o,q,hm b (qz h0 d.1) f,k,n,p,s,a,l,c,r,h0,d⟩
def cK.LM{ok ok':br}{w:cg}{l:aE}{a:bj}{V:bt}(h:cK ok w l a V)(hm:∀b,ay w b->ok b->ok' b):cK ok' w l a V :=
 ⟨h.1,λi d=>by have⟨b,o,j,g,k,n,p,s,a,l,c,m,e,f⟩:=h.2.1 i d;exact⟨b,o,j,hm b (qz e f.1) g,k,n,p,s,a,l,c,m,e,f⟩,λi d=>(h.2.2 i d).LM hm⟩
def aH.LM{ok ok':br}{w:cg}{t:Ty}{v:cm}(h:aH ok w t v)(hm:∀b,ay w b->ok b->ok' b):aH ok' w t v:=by
 induction h with
 | mk V m d r g _ q =>
  refine .mk V m d r (λi j=>?_) q;have⟨b,o,n,f,k,a,l,c,p,h0,e⟩:=g i j;exact⟨b,o,n,hm b (qz h0 e) f,k,a,l,c,p,h0,e⟩
def dw.LM{ok ok':br}{w:cg}{l:aw}{a:bj}{V:bt}(h:dw ok w l a V)(hm:∀b,ay w b->ok b->ok' b):dw ok' w l a V :=
 ⟨h.1,λi d=>by have⟨b,o,j,g,k,a,l,c,m,e,f⟩:=h.2.1 i d;exact⟨b,o,j,hm b (qz e f) g,k,a,l,c,m,e,f⟩,λi d=>(h.2.2 i d).LM hm⟩
def aA.LM{ok ok':br}{w:cg}{t:Va}{v:cm}(h:aA ok w t v)(hm:∀b,ay w b->ok b->ok' b):aA ok' w t v:=by
 induction h with
 | mk V f e r c j B y z l g p _ A =>
  refine .mk (hnk:=by assumption) V f e r c j B y z (l.LM hm) (g.LM hm) (λi q=>?_) A;have⟨b,o,u,m,k,n,a,s,aa,al,ac,ta,tl,tc,na,nl,nc,x,h0,d⟩:=p i q;exact⟨b,o,u,hm b (qz h0 d.1) m,k,n,a,s,aa,al,ac,ta,tl,tc,na,nl,nc,x,h0,d⟩
def aT.LM{ok ok':br}{w:cg}{l:ao}{a:bj}{V:bt}(h:aT ok w l a V)(hm:∀b,ay w b->ok b->ok' b):aT ok' w l a V :=
 ⟨h.1,λi c=>by have⟨b,o,g,f,k,n,a,s,aa,al,ac,ta,tl,tc,na,nl,nc,j,d,e⟩:=h.2.1 i c;exact⟨b,o,g,hm b (qz d e.1) f,k,n,a,s,aa,al,ac,ta,tl,tc,na,nl,nc,j,d,e⟩,λi c=>(h.2.2 i c).LM hm⟩
structure sU (B:Nat) (O:br) (w:cg) (l:ao) (v:cm) (us:bo):Prop where
 own:dF B w v us
 len:us.length=l.length
 lies:∀(i:Nat) (x:Va) (u:cm),l[i]?=some x->us[i]?=some u->aA (λb=>¬O b) w x u
 mine:∀g,v.ownBlock=some g->O g
def yF (ra:bj) (rl rc:Nat) (op:Int) (wa:bj) (wl wc:Nat) (aa:bj) (al ac:Nat):cm:=.agg #[.slice ra rl rc,.i op,.slice wa wl wc,.slice aa al ac]
def asideV:cm->cm
 | .agg cs=>(cs[3]?).getD (.n0)
 | v=>v
def lM (f:Fr) (u:cm):List Nat:=if f.op=67 then (asideV u).ownBlock.toList else []
def wU (B:Nat) (O:br) (w:cg) (f:Fr) (u:cm):Prop :=
 ∃ra rc wa wc aa ac VR VW,u=yF ra f.rest.length rc f.op wa f.row.length wc aa f.aside.length ac/\bD f.op/\(f.rest.length<=rc/\f.row.length<=wc/\f.aside.length<=ac)/\cK (λb=>¬O b) w f.rest ra VR/\cK (λb=>¬O b) w f.row wa VW /\
  (f.op=67->∃us,sU B O w f.aside (.slice aa f.aside.length ac) us)/\(f.op≠67->∃VA,aT (λb=>¬O b) w f.aside aa VA)
def jc (B:Nat) (O:br) (w:cg):List Fr->bo->Prop
 | [],[]=>True
 | f::fs,u::us=>wU B O w f u/\jc B O w fs us
 | [],_::_=>False
 | _::_,[]=>False
def keptBs:List Fr->bo->List Nat
 | f::fs,u::us=>lM f u++keptBs fs us
 | _,_=>[]
def kU (B:Nat) (w:cg) (v:cm) (us:bo):Prop:=w.ownsRow B 200 4 v us.length (flat us)
def yG (en:En) (aC paid aO k n a:Int) (s:bp) (aa:bj) (al ac:Nat) (ta:bj) (tl tc:Nat) (na:bj) (nl nc:Nat) (sv fv:cm):Array cm :=
 #[.i en.self,.i en.sender,.i en.amount,.i en.balance,.i aC,.i paid,.i aO,.i k,.i n,.i a,.string s,.slice aa al ac,.slice ta tl tc,.slice na nl nc,sv,fv]
structure bU (B:Nat) (O:br) (w:cg) (mb:Nat) (en:En) (aC:Int) (m:Ma) (k n a:Int) (s:bp) (aa:bj) (al ac:Nat) (ta:bj) (tl tc:Nat) (na:bj) (nl nc:Nat) (sv fv:cm) (us fs:bo):Prop where
 blk:w.heap[mb]?=some (.cells (yG en aC m.paid m.aO k n a s aa al ac ta tl tc na nl nc sv fv) 197)
 said:aA (λb=>¬O b) w m.said (bg k n a s aa al ac ta tl tc na nl nc)
 jL:sU B O w m.st.reverse sv us
 own:kU B w fv fs
 sZ:jc B O w m.fr.reverse fs
 nodup:(sv.ownBlock.toList++keptBs m.fr.reverse fs).Nodup
 mine:O mb/\∀g,fv.ownBlock=some g->O g
 low:∀b,O b->B<=b
 cells:∀b,O b->∃cs e,w.heap[b]?=some (.cells cs e)
 num:bD m.paid/\bD m.aO/\bD aC
def dm (B:Nat) (O:br) (w:cg) (mb:Nat) (en:En) (aC:Int) (m:Ma):Prop:=∃k n a s aa al ac ta tl tc na nl nc sv fv us fs,bU B O w mb en aC m k n a s aa al ac ta tl tc na nl nc sv fv us fs
def iT{w w':cg}{B:Nat}{e:TypeId}{size n:Nat}{v:cm}{xs:bo}(h:w.ownsRow B e size v n xs)(hb:∀g,v.ownBlock=some g->w'.heap[g]?=w.heap[g]?):w'.ownsRow B e size v n xs:=by
 refine⟨h.1,?_⟩;rcases h.2 with h|⟨g,a,b,rfl,c,d,f⟩
 .exact .inl h
 .exact .inr ⟨g,a,b,rfl,c,(hb g rfl).trans d,f⟩
def sU.kept{B:Nat}{O a:br}{w w':cg}{l:ao}{v:cm}{us:bo}(h:sU B O w l v us)(b:dB O w a w')(hb:∀g,v.ownBlock=some g->a g/\w'.heap[g]?=w.heap[g]?):sU B a w' l v us :=
 ⟨iT h.own λg e=>(hb g e).2,h.len,λi x u f d=>b.lies (h.lies i x u f d),λg c=>(hb g c).1⟩
def wU.kept{B:Nat}{O c:br}{w w':cg}{f:Fr}{u:cm}(h:wU B O w f u)(b:dB O w c w')(hb:∀g∈lM f u,c g/\w'.heap[g]?=w.heap[g]?):wU B c w' f u:=by
 obtain⟨r,s,t,wc,aa,ac,i,j,rfl,k,l,m,n,o,p⟩:=h;refine⟨r,s,t,wc,aa,ac,i,j,rfl,k,l,b.Kl m,b.Kl n,λa=>?_,λa=>?_⟩
 .have⟨us,d⟩:=o a;exact⟨us,d.kept b λg q=>hb g (by simp[lM,asideV,yF,a,q])⟩
 .have⟨e,d⟩:=p a;exact⟨e,b.U5 d⟩
def jc.kept{B:Nat}{O a:br}{w w':cg}(d:dB O w a w'):∀{fs:List Fr}{us:bo},jc B O w fs us->(∀g∈keptBs fs us,a g/\w'.heap[g]?=w.heap[g]?)->jc B a w' fs us
 | [],[],_,_=>trivial
 | f::fs,u::us,h,c=>⟨h.1.kept d λg b=>c g (by simp[keptBs,b]),jc.kept d h.2 λg b=>c g (by simp[keptBs,b])⟩
 | [],_::_,h,_=>h.elim
 | _::_,[],h,_=>h.elim
def wU.mine{B:Nat}{O:br}{w:cg}{f:Fr}{u:cm}(h:wU B O w f u){g:Nat}(a:g∈lM f u):O g/\∃cs,w.heap[g]?=some (.cells cs 29):=by
 obtain⟨t,v,x,wc,aa,ac,l,m,rfl,o,p,q,r,j,s⟩:=h;unfold lM at a;split at a
 .rename_i b;have⟨us,c⟩:=j b;have a:(Value.slice aa f.aside.length ac).ownBlock=some g:=Option.mem_toList.1 a;refine⟨c.mine g a,?_⟩;rcases c.own.2 with⟨e,_⟩|⟨n,d,i,e,_,k,_⟩
  .rw[e]at a;cases a
  .rw[e]at a;cases a;exact⟨_,k⟩
 .simp at a
def jc.mine{B:Nat}{O:br}{w:cg} : ∀{fs:List Fr}{us:bo},jc B O w fs us->∀g∈keptBs fs us,O g/\∃cs,w.heap[g]?=some (.cells cs 29)
 | f::fs,u::us,h,g,a=>by
  simp only[keptBs,ka]at a;rcases a with a|a
  .exact h.1.mine a
  .exact jc.mine h.2 g a
 | [],_,_,g,a=>by simp[keptBs]at a
 | _::_,[],h,_,_=>h.elim
section
variable {B:Nat}{O O':br}{w w':cg}{mb:Nat}{en:En}{aC:Int}{m:Ma}{k n a:Int}{s:bp}{aa:bj}{al ac:Nat}{ta:bj}{tl tc:Nat}{na:bj}{nl nc:Nat}{sv fv:cm}{us fs:bo}
def bU.high(h:bU B O w mb en aC m k n a s aa al ac ta tl tc na nl nc sv fv us fs)(b:Nat)(hb:O b):b<w.heap.size:=by have⟨cs,e,c⟩:=h.cells b hb;exact (kj.1 c).1
def bU.grow(h:bU B O w mb en aC m k n a s aa al ac ta tl tc na nl nc sv fv us fs)(i:cq w w' none):bU B O w' mb en aC m k n a s aa al ac ta tl tc na nl nc sv fv us fs:=by have f:dB O w O w':=dB.grow i;have d:∀g,O g->w'.heap[g]?=w.heap[g]?:=λg e=>i.block g (h.high g e) oe;exact⟨(d mb h.mine.1).trans h.blk,f.lies h.said,h.jL.kept f λg c=>⟨h.jL.mine g c,d g (h.jL.mine g c)⟩,iT h.own λg c=>d g (h.mine.2 g c),h.sZ.kept f λg c=>⟨(h.sZ.mine g c).1,d g (h.sZ.mine g c).1⟩,h.nodup,h.mine,h.low,λb e=>by rw[d b e];exact h.cells b e,h.num⟩
def Cx{W c:cg}{row:Option Nat}(f:cq W c row)(h:∀r,row=some r->¬ay W r){b:Nat}(hb:ay W b):c.heap[b]?=W.heap[b]?:=by have a:=hb;have⟨cs,e,i,g,_⟩:=hb;exact f.block b (kj.1 g).1 (λd=>h b d.symm a)
def DZ{W:cg}{r:Nat}(h:∃o:Obj,W.heap[r]?=some o/\o.isCells=false):¬ay W r:=by rintro⟨cs,e,d,c,_⟩;have⟨o,a,b⟩:=h;rw[c]at a;cases a;cases b
def vK{W a:cg}{row:Option Nat}{O:br}(d:cq W a row)(f:∀r,row=some r->¬ay W r/\¬O r):Same (λb=>¬O b/\ay W b) W a:=λb o c _=>kd (Cx d (λr e=>(f r e).1) c.2)
def Eo{W a:cg}{row:Option Nat}{x:Va}{u:cm}(f:cq W a row)(g:∀r,row=some r->¬ay W r/\¬O r)(h:aA (λb=>¬O b) W x u):aA (λb=>¬O b) a x u :=
 ((h.LM (ok':=λb=>¬O b/\ay W b) λb e c=>⟨c,e⟩).same (vK f g)).ae λb _ d=>d.1
def sU.turn{W a:cg}{row:Option Nat}{l:ao}{v:cm}{us:bo}(b:cq W a row)(c:∀r,row=some r->¬ay W r/\¬O r)(h:sU B O W l v us):sU B O a l v us:=by exact⟨iT h.own λg e=>b.block g (qb5 h.own g e).2 (λd=>(c g d.symm).2 (h.mine g e)),h.len,λi x u j f=>Eo b c (h.lies i x u j f),h.mine⟩
def jc.turn{W k:cg}{row:Option Nat}(g:cq W k row)(i:∀r,row=some r->¬ay W r/\¬O r):∀{fs:List Fr}{us:bo},jc B O W fs us->jc B O k fs us
 | [],[],_=>trivial
 | f::fs,u::us,h=>by
  refine⟨?_,jc.turn g i h.2⟩;obtain⟨v,w,x,wc,aa,ac,l,m,rfl,n,o,p,q,s,t⟩:=h.1;exact⟨v,w,x,wc,aa,ac,l,m,rfl,n,o,((p.LM (ok':=λb=>¬O b/\ay W b) λb e c=>⟨c,e⟩).same (vK g i)).ae λb _ d=>d.1,((q.LM (ok':=λb=>¬O b/\ay W b) λb e c=>⟨c,e⟩).same (vK g i)).ae λb _ d=>d.1,
   λa=>(s a).imp λus j=>j.turn g i,λa=>(t a).imp λy j=>((j.LM (ok':=λb=>¬O b/\ay W b) λb e c=>⟨c,e⟩).same (vK g i)).ae λb _ d=>d.1⟩
 | [],_::_,h=>h.elim
 | _::_,[],h=>h.elim
def bU.turn{row:Option Nat}(h:bU B O w mb en aC m k n a s aa al ac ta tl tc na nl nc sv fv us fs)(d:cq w w' row)(f:∀r,row=some r->¬ay w r/\¬O r):bU B O w' mb en aC m k n a s aa al ac ta tl tc na nl nc sv fv us fs:=by have i:∀b,O b->w'.heap[b]?=w.heap[b]?:=λb c=>d.block b (h.high b c) (λe=>(f b e.symm).2 c);exact⟨(i mb h.mine.1).trans h.blk,Eo d f h.said,h.jL.turn d f,iT h.own λg e=>i g (h.mine.2 g e),h.sZ.turn d f,h.nodup,h.mine,h.low,λb c=>by rw[i b c];exact h.cells b c,h.num⟩
def bU.stack(h:bU B O w mb en aC m k n a s aa al ac ta tl tc na nl nc sv fv us fs)(l:dB O w O' w'){st:ao}{sv':cm}{us':bo}(f:w'.heap[mb]?=some (.cells (yG en aC m.paid m.aO k n a s aa al ac ta tl tc na nl nc sv' fv) 197))
 (hstk:sU B O' w' st.reverse sv' us') (hnd:sv'.ownBlock=sv.ownBlock\/sv'.ownBlock=none\/∃g,sv'.ownBlock=some g/\w.heap.size<=g) (hO:∀g,O g->sv.ownBlock≠some g->O' g) (hk:∀g,O g->g≠mb->sv.ownBlock≠some g->w'.heap[g]?=w.heap[g]?) (hcells:∀b,O' b->∃cs e,w'.heap[b]?=some (.cells cs e)) :
 bU B O' w' mb en aC { m with st:=st } k n a s aa al ac ta tl tc na nl nc sv' fv us' fs:=by
 have j:∀g,fv.ownBlock=some g->g≠mb/\sv.ownBlock≠some g:=λg c=>by
  have v:=h.own;rcases v.2 with⟨e,_⟩|⟨A,q,r,e,_,i,_⟩
  .rw[e]at c;cases c
  .rw[e]at c;cases c;refine⟨dC i h.blk ov,λt=>?_⟩;have:=aD h.jL.own i ov;exact this t.symm
 have hK:∀g∈keptBs m.fr.reverse fs,g≠mb/\sv.ownBlock≠some g:=λg c=>by have⟨_,cs,i⟩:=h.sZ.mine g c;refine⟨dC i h.blk ov,λe=>?_⟩;have:=qd5.1 h.nodup;exact this.2.2 g (by simp[e]) g c rfl
 refine⟨f,l.lies h.said,hstk,iT h.own λg d=>hk g (h.mine.2 g d) (j g d).1 (j g d).2,h.sZ.kept l λg d=>⟨hO g (h.sZ.mine g d).1 (hK g d).2,hk g (h.sZ.mine g d).1 (hK g d).1 (hK g d).2⟩,?_,⟨hO _ h.mine.1 (λe=>aD h.jL.own h.blk ov e.symm),λg c=>hO _ (h.mine.2 g c) (j g c).2⟩,λb u=>?_,hcells,h.num⟩
 .rcases hnd with e|e|⟨g,e,c⟩
  .rw[e];exact h.nodup
  .rw[e];exact (qd5.1 h.nodup).2.1
  .rw[e];refine qd5.2 ⟨oe,(qd5.1 h.nodup).2.1,λx p y z=>?_⟩;simp at p;subst p;have:=h.high y (h.sZ.mine y z).1;omega
 .rcases l.new b u with o|o
  .exact h.low b o
  .have:=h.low _ h.mine.1;have:=h.high _ h.mine.1;omega
def iM{w:cg}{b:Nat}{T:TypeId}{c d:Int}(h:w.heap[b]?=some (.cells (yG en aC c d k n a s aa al ac ta tl tc na nl nc sv fv) T)) :
 w.cell? ⟨b,0,none⟩=some (.i en.self)/\w.cell? ⟨b,1,none⟩=some (.i en.sender)/\w.cell? ⟨b,2,none⟩=some (.i en.amount)/\w.cell? ⟨b,3,none⟩=some (.i en.balance)/\w.cell? ⟨b,4,none⟩=some (.i aC)/\w.cell? ⟨b,5,none⟩=some (.i c)/\w.cell? ⟨b,6,none⟩=some (.i d) /\
 w.cell? ⟨b,14,none⟩=some sv/\w.cell? ⟨b,15,none⟩=some fv/\∀o,w.frozen? ⟨b,o,none⟩=false:=by
 simp[World.cell?,World.frozen?,h,yG]
def nG{w:cg}{b:Nat}{T:TypeId}{c d:Int}(h:w.heap[b]?=some (.cells (yG en aC c d k n a s aa al ac ta tl tc na nl nc sv fv) T))(v:cm) :
 (w.setCell ⟨b,14,none⟩ v).heap[b]?=some (.cells (yG en aC c d k n a s aa al ac ta tl tc na nl nc v fv) T)/\(w.setCell ⟨b,15,none⟩ v).heap[b]?=some (.cells (yG en aC c d k n a s aa al ac ta tl tc na nl nc sv v) T) /\
 (∀q:Int,(w.setCell ⟨b,5,none⟩ (.i q)).heap[b]?=some (.cells (yG en aC q d k n a s aa al ac ta tl tc na nl nc sv fv) T))/\(∀q:Int,(w.setCell ⟨b,6,none⟩ (.i q)).heap[b]?=some (.cells (yG en aC c q k n a s aa al ac ta tl tc na nl nc sv fv) T)):=by
 unfold yG at h|-;simp[World.setCell,ja1,h]
end
def qW (w:cg) (g:Nat) (y0 y1 y2 y3 y4 y5 y6:cm):cg:=((((((w.setCell ⟨g,0,none⟩ y0).setCell ⟨g,1,none⟩ y1).setCell ⟨g,2,none⟩ y2).setCell ⟨g,3,none⟩ y3).setCell ⟨g,4,none⟩ y4).setCell ⟨g,5,none⟩ y5).setCell ⟨g,6,none⟩ y6
def wN{w:cg}{g:Nat}{T:TypeId}{x0 j k l m n o:cm}(h:w.heap[g]?=some (.cells #[x0,j,k,l,m,n,o] T (0,0)))(a b c d e f i:cm) :
 (qW w g a b c d e f i).heap[g]?=some (.cells #[a,b,c,d,e,f,i] T (0,0)):=by
 simp[qW,World.setCell,ja1,h]
def zy(w:cg)(g:Nat)(a b c d e f h:cm):cq w (qW w g a b c d e f h) (some g) :=
 eF (eF (eF (eF (eF (eF (eF (bf _ _) _ _ _) _ _ _) _ _ _) _ _ _) _ _ _) _ _ _) _ _ _
def qD{w:cg}{g:Nat}{T:TypeId}{x0 a b c d e f:cm}(h:w.heap[g]?=some (.cells #[x0,a,b,c,d,e,f] T (0,0))):∀o,w.frozen? ⟨g,o,none⟩=false:=by intro o;simp[World.frozen?,h]
section
variable {B:Nat}{O:br}{w:cg}{mb:Nat}{en:En}{aC:Int}{m:Ma}
def bU.paid{O:br}{m:Ma}{k n a:Int}{s:bp}{v:bj}{al ac:Nat}{ta:bj}{tl tc:Nat}{na:bj}{x nc:Nat}{c p:cm}{us o:bo}(h:bU B O w mb en aC m k n a s v al ac ta tl tc na x nc c p us o)(q:Int)(u:bD q) :
 bU B O (w.setCell ⟨mb,5,none⟩ (.i q)) mb en aC { m with paid:=q } k n a s v al ac ta tl tc na x nc c p us o:=by
 have j:cq w (w.setCell ⟨mb,5,none⟩ (.i q)) (some mb):=eF (bf _ _) _ _ _;have r:dB O w O (w.setCell ⟨mb,5,none⟩ (.i q)):=dB.ofRow j (λg e=>by cases e;exact h.mine.1);have f:∀g,O g->g≠mb->(w.setCell ⟨mb,5,none⟩ (.i q)).heap[g]?=w.heap[g]?:=λg d t=>j.block g (h.high g d) (by simpa using t);have y:∀g,c.ownBlock=some g->g≠mb:=λg e l=>aD h.jL.own h.blk ov (by rw[e,l]);have z:∀g,p.ownBlock=some g->g≠mb:=λg e l=>aD h.own h.blk ov (by rw[e,l]);have hK:∀g∈keptBs m.fr.reverse o,g≠mb:=λg j=>by have⟨_,cs,u⟩:=h.sZ.mine g j;exact dC u h.blk ov
 refine⟨(nG h.blk c).2.2.1 q,r.lies h.said,h.jL.kept r λg e=>⟨h.jL.mine g e,f g (h.jL.mine g e) (y g e)⟩,iT h.own λg e=>f g (h.mine.2 g e) (z g e),h.sZ.kept r λg e=>⟨(h.sZ.mine g e).1,f g (h.sZ.mine g e).1 (hK g e)⟩,h.nodup,h.mine,h.low,λb d=>?_,⟨u,h.num.2⟩⟩
 by_cases e:b=mb
 .subst e;exact⟨_,_,(nG h.blk c).2.2.1 q⟩
 .rw[f b d e];exact h.cells b d
def jK (B:Nat) (O:br) (w:cg) (mb:Nat) (en:En) (aC:Int) (o:Out) (e:Ending) (w':cg):Prop:=∃O',dB O w O' w'/\match o with
 | .go m=>e =.returned (.i 0)/\dm B O' w' mb en aC m
 | .no er m=>er≠0/\e =.returned (.i er)/\∃m',m'.paid=m.paid/\m'.said=m.said/\dm B O' w' mb en aC m'
 | .stuck=>False
def dm.grow{w':cg}(h:dm B O w mb en aC m)(b:cq w w' none):dm B O w' mb en aC m:=by have⟨k,n,a,s,aa,al,ac,ta,tl,tc,na,nl,nc,sv,fv,us,fs,h⟩:=h;exact⟨k,n,a,s,aa,al,ac,ta,tl,tc,na,nl,nc,sv,fv,us,fs,h.grow b⟩
def dm.turn{w':cg}{row:Option Nat}(h:dm B O w mb en aC m)(b:cq w w' row)(c:∀r,row=some r->¬ay w r/\¬O r):dm B O w' mb en aC m:=by have⟨k,n,a,s,aa,al,ac,ta,tl,tc,na,nl,nc,sv,fv,us,fs,h⟩:=h;exact⟨k,n,a,s,aa,al,ac,ta,tl,tc,na,nl,nc,sv,fv,us,fs,h.turn b c⟩
def dm.cells(h:dm B O w mb en aC m):∀b,O b->∃cs e,w.heap[b]?=some (.cells cs e):=by have⟨k,n,a,s,aa,al,ac,ta,tl,tc,na,nl,nc,sv,fv,us,fs,h⟩:=h;exact h.cells
def dm.no{r:Nat}(h:dm B O w mb en aC m)(b:∃o:Obj,w.heap[r]?=some o/\o.isCells=false):¬ay w r/\¬O r:=by refine⟨DZ b,λc=>?_⟩;have⟨cs,e,f⟩:=h.cells r c;have⟨o,a,d⟩:=b;rw[f]at a;cases a;cases d
def dm.high(h:dm B O w mb en aC m):∀b,O b->b<w.heap.size:=by have⟨k,n,a,s,aa,al,ac,ta,tl,tc,na,nl,nc,sv,fv,us,fs,h⟩:=h;exact h.high
def Ff(h:dm B O w mb en aC m):Calls prog 189 #[.po mb] w (jK B O w mb en aC (uH aC m .go)):=by
 have h0:=jh h;have⟨k,n,a,s,aa,al,ac,ta,tl,tc,na,nl,nc,sv,fv,us,fs,h⟩:=h;have j:=h.num;unfold bD at j;have HM:=jh h;have K:=λ(w':cg) (h:cq w w' none)=>iM (mH HM.blk h);have d:cq w w none:=bf _ _;have b:=jh (kY d);clear h
 by_cases f:m.paid ≥ aC
 .have c:Hid (uH aC m .go =.no 12 m):=by show _=_;unfold uH;rw[if_pos f]
  go_enter func189,ntmps189;go_wp2_with fail;go_region_held3 (λw'=>cq w w' none) (first|with_reducible assumption|with_reducible exact kY OK) (fail);go_wp2;go_ret;rw[c.out];exact⟨O,dB.grow b.out,ov,rfl,m,rfl,rfl,h0.out.grow b.out⟩
 .have l:wrap64 (m.paid+1)=m.paid+1:=by unfold wrap64;omega
  have c:Hid (uH aC m .go =.go { m with paid:=m.paid+1 }):=by show _=_;unfold uH;rw[if_neg f]
  go_enter func189,ntmps189;go_wp2_with fail;go_region_held3 (λw'=>cq w w' none) (first|with_reducible assumption|with_reducible exact kY OK) (fail);go_wp2;go_ret;rw[c.out];have i:=(HM.out.grow b.out).paid (m.paid+1) vu;exact⟨O,(dB.grow b.out).trans (dB.ofRow (eF (bf _ _) _ _ _) (λg e=>by cases e;exact HM.out.mine.1)),rfl,_,_,_,_,_,_,_,_,_,_,_,_,_,_,_,_,_,i⟩
def kc{w w':cg}{r:Option Nat}{b o:Nat}{v:cm}(h:w.cell? ⟨b,o,none⟩=some v)(a:cq w w' r)(c:some b≠r):w'.cell? ⟨b,o,none⟩=some v:=(kd (a.block b (qc0 w _ h) c)).trans h
def kb{w w':cg}{r:Option Nat}{b:Nat}{o:Obj}(h:w.heap[b]?=some o)(a:cq w w' r)(c:some b≠r):w'.heap[b]?=some o:=(a.block b (kj.1 h).1 c).trans h
def C7 (w:cg) (g o:Nat) (k n a:Int) (s:bp) (aa:bj) (al ac:Nat) (ta:bj) (tl tc:Nat) (na:bj) (nl nc:Nat):Prop :=
 w.cell? ⟨g,o,none⟩=some (.i k)/\w.cell? ⟨g,o+1,none⟩=some (.i n)/\w.cell? ⟨g,o+2,none⟩=some (.i a)/\w.cell? ⟨g,o+3,none⟩=some (.string s)/\w.cell? ⟨g,o+4,none⟩=some (.slice aa al ac)/\w.cell? ⟨g,o+5,none⟩=some (.slice ta tl tc)/\w.cell? ⟨g,o+6,none⟩=some (.slice na nl nc)
def C7.keep{w w':cg}{r:Option Nat}{g o:Nat}{k n a:Int}{s:bp}{d:bj}{al e:Nat}{ta:bj}{tl tc:Nat}{na:bj}{f nc:Nat}(h:C7 w g o k n a s d al e ta tl tc na f nc)(b:cq w w' r)(c:some g≠r):C7 w' g o k n a s d al e ta tl tc na f nc :=
 ⟨kc h.1 b c,kc h.2.1 b c,kc h.2.2.1 b c,kc h.2.2.2.1 b c,kc h.2.2.2.2.1 b c,kc h.2.2.2.2.2.1 b c,kc h.2.2.2.2.2.2 b c⟩
def Xe{P:Program}{e:Func}{Q:Ending->cg->Prop}{A:Act}{w:cg}{R:Nat}{T:TypeId}{x0 f g h j l m:cm}{k n a:Int}{s:bp}{b:bj}{al c:Nat}{ta:bj}{tl tc:Nat}{na:bj}{d nc:Nat}
 (hres:∀w':cg,w'.cell? ⟨R,0,none⟩=some (.i k)/\w'.cell? ⟨R,1,none⟩=some (.i n)/\w'.cell? ⟨R,2,none⟩=some (.i a)/\w'.cell? ⟨R,3,none⟩=some (.string s)/\w'.cell? ⟨R,4,none⟩=some (.slice b al c)/\w'.cell? ⟨R,5,none⟩=some (.slice ta tl tc)/\w'.cell? ⟨R,6,none⟩=some (.slice na d nc)->(results e A.tmps).run P w' =.ok (bg k n a s b al c ta tl tc na d nc) w')
 (hd:A.defers=[]) (hb:w.heap[R]?=some (.cells #[x0,f,g,h,j,l,m] T (0,0))) (hQ:∀w',cq w w' (some R)->Q (.returned (bg k n a s b al c ta tl tc na d nc)) w') :
 bodyPost P e Q .ret A (qW w R (.i k) (.i n) (.i a) (.string s) (.slice b al c) (.slice ta tl tc) (.slice na d nc)) :=
 jb3 (hres _ (cO (wN hb _ _ _ _ _ _ _))) hd (hQ _ (zy _ _ _ _ _ _ _ _ _))
def DT{α:Type}{l:List α}{n:Nat}(h:l.length=n+1):∃r x,l=r++[x]/\r.length=n:=by refine⟨l.dropLast,l.getLast (by intro e;subst e;simp at h),(List.dropLast_concat_getLast _).symm,by simp[h]⟩
def rY{us:bo}{n:Nat}(h:∀u∈us,(nodeCells u).length=n):(flat us).length=us.length*n:=by
 induction us with
 | nil=>simp[flat]
 | cons u us a=>simp only[flat,qd0,ju,jj]at a|-;rw[a λv b=>h v (by simp[b]),h u oe,qf7];omega
def sU.top{l:ao}{x:Va}{v:cm}{us:bo}(h:sU B O w (l++[x]) v us):∃g cap us' k n a s aa al ac ta tl tc na nl nc,v =.o g (l.length+1) cap/\(l.length+1<=cap/\cap<=maxLen)/\us=us'++[bg k n a s aa al ac ta tl tc na nl nc]/\aA (λb=>¬O b) w x (bg k n a s aa al ac ta tl tc na nl nc) /\
 C7 w g (l.length*7) k n a s aa al ac ta tl tc na nl nc/\sU B O w l (.o g l.length cap) us':=by
 have r:=h.len;simp only[ju,jj,qa0]at r;obtain⟨us',u,rfl,c⟩:=DT r;have z:=h.lies l.length x u oe (by rw[<-c];simp);have f:=h.own;obtain⟨k,n,a,s,aa,al,ac,ta,tl,tc,na,nl,nc,rfl⟩:=z.bg;have C:∀u∈us',(nodeCells u).length=7:=λu E=>by
  obtain⟨i,q,rfl⟩:=qc3 E;have o:i<l.length:=od
  have⟨k,n,a,s,aa,al,ac,ta,tl,tc,na,nl,nc,e⟩:=(h.lies i l[i] us'[i] (by rw[kO o,qt o]) (by rw[kO q,qt q])).bg;rw[e];rfl
 have m:=rY C;unfold dF at f;rw[bV,ju,qe1,c]at f;obtain⟨g,cap,rfl,_⟩:=BO f (by rintro rfl;have:=f.2;simp at this);have D:=oCq f;refine⟨g,cap,us',k,n,a,s,aa,al,ac,ta,tl,tc,na,nl,nc,rfl,D,rfl,z,?_,⟨?_,c,λi y v p t=>?_,λA e=>h.mine A e⟩⟩
 .have d:∀j y,(nodeCells (bg k n a s aa al ac ta tl tc na nl nc))[j]?=some y->w.cell? ⟨g,l.length*7+j,none⟩=some y:=λj y p=>iJ f (by rw[m,c]) j y (by simpa[flat]using p);exact⟨d 0 _ rfl,d 1 _ rfl,d 2 _ rfl,d 3 _ rfl,d 4 _ rfl,d 5 _ rfl,d 6 _ rfl⟩
 .unfold dF;rw[c];exact uF f (by rw[m,c])
 .exact h.lies i y v (by rw[kO (qS.1 p).1];exact p) (by rw[kO (qS.1 t).1];exact t)
def Yi (B:Nat) (O:br) (w:cg) (mb:Nat) (en:En) (aC:Int) (x:Va) (m:Ma) (e:Ending) (w':cg):Prop:=∃v,e =.returned v/\aA (λb=>¬O b) w' x v/\dB O w O w'/\dm B O w' mb en aC m
def Yh (B:Nat) (O:br) (w:cg) (x:Va) (mb:Nat) (en:En) (aC:Int) (m:Ma) (k n a:Int) (s:bp) (aa:bj) (al ac:Nat) (ta:bj) (tl tc:Nat) (na:bj) (nl nc:Nat) (fv:cm) (fs:bo) (e:Ending) (w':cg):Prop:=∃v,e =.returned v/\aA (λb=>¬O b) w' x v/\dB O w O w'/\∃sv us,bU B O w' mb en aC m k n a s aa al ac ta tl tc na nl nc sv fv us fs
def Yj (B:Nat) (O:br) (w:cg) (x:Va) (mb:Nat) (en:En) (aC:Int) (m:Ma) (L:Nat) (st:ao) (k n a:Int) (s:bp) (aa:bj) (al ac:Nat) (ta:bj) (tl tc:Nat) (na:bj) (nl nc:Nat) (fv:cm) (fs:bo) (e:Ending) (w':cg):Prop:=∃v,e =.returned v/\aA (λb=>¬O b) w' x v/\dB O w O w'/\∃g cap us,(L+1<=cap/\cap<=maxLen)/\bU B O w' mb en aC { m with st:=st } k n a s aa al ac ta tl tc na nl nc (.o g L cap) fv us fs
def Cv{x:Va}{st:ao}{k n a:Int}{s:bp}{J:bj}{al ac:Nat}{ta:bj}{tl tc:Nat}{na:bj}{T nc:Nat}{sv N:cm}{us M:bo}(h:bU B O w mb en aC m k n a s J al ac ta tl tc na T nc sv N us M)(R:m.st=x::st):Calls prog 191 #[.po mb] w (Yj B O w x mb en aC m st.length st k n a s J al ac ta tl tc na T nc N M):=by
 have u:=h.jL;rw[R,qc7]at u;obtain⟨g,y,ar,k1,n1,a1,s1,V,X,W,an,fE,aq,ah,ak,aj,rfl,c,rfl,S,d,f⟩:=u.top;rw[qb3]at c d f h;have A:=jh c;generalize st.length=L at *;have ae:wrap64 (L:Int)=L:=by unfold maxLen at c;unfold wrap64;omega
 have⟨c,_⟩:=c;have p:=aK (w:=w) (.cells #[.i 0,.i 0,.i 0,.string ⟨#[]⟩,.n0,.n0,.n0] 29);have⟨HM,t,HX,I⟩:=we (h.grow p) h S f;have ad:=h.high _ h.mine.1;have ab:g<w.heap.size:=h.high g (h.jL.mine g rfl);have⟨U,D,C⟩:=JT (d.keep p oe) (xF w (.cells #[.i 0,.i 0,.i 0,.string ⟨#[]⟩,.n0,.n0,.n0] 29)) p;clear h u S f d R p;go_enter func191,ntmps191
 go_upto_region 1 with (fail)
 generalize w.alloc _=j at *;have K:=λ(w':cg) (h:cq j w' (some w.heap.size))=>And.intro (iM (kb HM.blk h ot)) (U.keep h ot);unfold C7 at K;have Z:cq j j (some w.heap.size):=bf _ _;have hA:=λ(w':cg) (o:Obj) (h:cq j w' (some w.heap.size))=>K6 h (gAq (aK o));have K2:=λ(w':cg) (h:cq j w' (some mb))=>And.intro (cO (kb D h ot)) (qD (kb D h ot));have E:cq j j (some mb):=bf _ _;have hA2:=λ(w':cg) (o:Obj) (h:cq j w' (some mb))=>K6 h (gAq (aK o));have F:=λ(w':cg) (o:Nat) (v:cm) (h:cq j w' (some mb))=>eF h o none v;go_wp2_with fail;refine Xe (λw' h=>by simp[results,results191,go_sem,h,bg]) rfl (x0:=.i 0) (kb D (F _ _ _ (hA2 _ _ E)) ot) λw' Q=>?_;have l:cq w w' (some mb):=aG (K6 (gAq (aJ C (aK _))) (eF (bf _ _) _ _ _)) Q (jn _);have z:=dB.ofRow (O:=O) l (λq e=>by cases e;exact t.mine.1);have r:=kb (nG (HM.grow (aK _)).blk (.o g L y)).1 Q ot;refine⟨_,rfl,z.lies HX,z,g,y,_,A,t.stack z r (I.kept z λq e=>⟨I.mine q e,l.block q (by cases e;omega) (λY=>?_)⟩) (.inl rfl) (λq H _=>H) (λq H G _=>l.block q (t.high q H) (by simpa using G)) (λb P=>?_)⟩
 .cases Y;exact aD t.jL.own t.blk ov e.symm
 .by_cases e:b=mb
  .subst e;exact⟨_,_,r⟩
  .rw[l.block b (t.out.high b P) (by simpa using e)];exact t.cells b P
def yA{x:Va}{st:ao}{k n a:Int}{s:bp}{b:bj}{al ac:Nat}{ta:bj}{tl tc:Nat}{na:bj}{f nc:Nat}{r d:cm}{us c:bo}(h:bU B O w mb en aC m k n a s b al ac ta tl tc na f nc r d us c)(q:m.st=x::st):Calls prog 191 #[.po mb] w (Yh B O w x mb en aC { m with st:=st } k n a s b al ac ta tl tc na f nc d c):=by refine (Cv h q).mono ?_;rintro e w' ⟨v,j,l,o,g,i,us,_,p⟩;exact⟨v,j,l,o,_,_,p⟩
def yB{x:Va}{st:ao}(h:dm B O w mb en aC m)(g:m.st=x::st):Calls prog 191 #[.po mb] w (Yi B O w mb en aC x { m with st:=st }):=by have⟨k,n,a,s,aa,al,ac,ta,tl,tc,na,nl,nc,sv,fv,us,fs,h⟩:=h;refine (yA h g).mono ?_;rintro e w' ⟨v,b,c,d,sv,us,f⟩;exact⟨v,b,c,d,_,_,_,_,_,_,_,_,_,_,_,_,_,_,_,_,_,f⟩
def Src (O:br) (w:cg) (l:ao) (xv:cm):Prop:=∃us:bo,gZ w xv us.length (flat us)/\us.length=l.length/\∀(i:Nat) (x:Va) (u:cm),l[i]?=some x->us[i]?=some u->aA (λb=>¬O b) w x u
def Src.row{l:ao}{a:bj}{V:bt}{c:Nat}(h:aT (λb=>¬O b) w l a V):Src O w l (.slice a l.length c):=by
 refine⟨(List.range l.length).map V,?_,oe,λi x u m d=>?_⟩
 .have p:∀u∈(List.range l.length).map V,(nodeCells u).length=7:=λu d=>by
   simp only[kl,List.mem_range]at d;obtain⟨i,f,rfl⟩:=d;have⟨k,n,a,s,aa,al,ac,ta,tl,tc,na,nl,nc,e⟩:=(h.2.2 i f).bg;rw[e];rfl
  have g:=rY p;simp only[xj,List.length_range]at g|-
  cases a with
  | none =>
   left;have h0:l.length=0:=by
    cases H:l.length with
    | zero=>rfl
    | succ q=>have⟨b,o,e,_⟩:=h.2.1 0 od;cases e
   exact⟨c,by rw[h0],h0,jx (by rw[g,h0])⟩
  | some t =>
   right;refine⟨t,c,rfl,λj u d=>?_⟩;have G:j<l.length*7:=by have:=(qS.1 d).1;omega
   obtain⟨i,r,y,rfl⟩:∃i r,r<7/\j=i*7+r:=⟨j / 7,j % 7,Nat.mod_lt _ od,od⟩;have f:i<l.length:=od
   have⟨b,o,e,_,k,n,a,s,aa,al,ac,ta,tl,tc,na,nl,nc,v,z,A,B,C,D,E,F⟩:=h.2.1 i f;cases e;rw[flatV_get _ p i r (V i) (by simp[f]) y,v]at d;rw[gI,<-qg2];rcases (show r=0\/r=1\/r=2\/r=3\/r=4\/r=5\/r=6 by omega)with rfl|rfl|rfl|rfl|rfl|rfl|rfl<;>(simp only[bg,nodeCells,km,yW,qq]at d;subst d;assumption)
 .have f:=(qS.1 m).1;simp[f]at d;subst d;have:=h.2.2 i f;rw[qt f]at m;simp only[qq]at m;rw[<-m];exact this
def Src.grow{w':cg}{l:ao}{xv:cm}(h:Src O w l xv)(d:cq w w' none):Src O w' l xv:=by
 have⟨us,a,g,k⟩:=h;refine⟨us,?_,g,λi x u m b=>(dB.grow (O:=O) d).lies (k i x u m b)⟩;rcases a with a|⟨f,c,e,a⟩
 .exact .inl a
 .exact .inr ⟨f,c,e,λj u b=>by have:=a j u b;exact (kd (d.block _ (qc0 w _ this) oe)).trans this⟩
def K8 (B:Nat) (O:br) (w:cg) (mb:Nat) (en:En) (aC:Int) (m:Ma) (e:Ending) (w':cg):Prop:=e =.returned (.tuple #[])/\∃O',dB O w O' w'/\dm B O' w' mb en aC m
def lL{us:bo}(h:∀u∈us,∃k n a s aa al ac ta tl tc na nl nc,u=bg k n a s aa al ac ta tl tc na nl nc):(flat us).length=us.length*7/\∀y∈flat us,y.oneCell':=by
 refine⟨rY λu c=>?_,λy b=>?_⟩
 .have⟨k,n,a,s,aa,al,ac,ta,tl,tc,na,nl,nc,e⟩:=h u c;rw[e];rfl
 .simp only[flat,qb1]at b;have⟨u,c,b⟩:=b;have⟨k,n,a,s,aa,al,ac,ta,tl,tc,na,nl,nc,e⟩:=h u c;rw[e]at b;simp[bg,nodeCells]at b;rcases b with rfl|rfl|rfl|rfl|rfl|rfl|rfl<;>rfl
def mO{l:ao}{us:bo}(e:us.length=l.length)(h:∀(i:Nat) (x:Va) (u:cm),l[i]?=some x->us[i]?=some u->aA (λb=>¬O b) w x u):∀u∈us,∃k n a s aa al ac ta tl tc na nl nc,u=bg k n a s aa al ac ta tl tc na nl nc:=λu d=>by obtain⟨i,c,rfl⟩:=qc3 d;exact (h i l[i] us[i] (qt od) (qt c)).bg
def WU{c:Array Oper}{b:List Oper}{o:Oper}{a:Act}{Q:Exit->Act->cg->Prop}(g:o.guard=none)(s x:Operand)(C:o.op =.call { callee:=.builtin .append,args:=#[s,x],argTypes:=#[26,26] })
 {v xv:cm} (hs:a.eval s=v) (hx:a.eval x=xv) {l0 l:ao} {us:bo} (h:sU B O w l0 v us) (hsrc:Src O w l xv) (hB:B<=w.heap.size) (hlen:l0.length+l.length<=100000000)
 (hk:∀v' us' w',sU B (qx O v v') w' (l0++l) v' us'->Gr w v w' v'->dB O w (qx O v v') w'->wpList prog c Q b (a.put o.dst v') w'):wpList prog c Q (o::b) a w:=by
 have⟨k,A,m,n⟩:=hsrc;have p:=lL (mO m n);refine ed g s x 26 C B 29 underlying26 mr rfl ov v us.length (flat us) hs h.own xv k.length (flat k) hx p.1 A p.2 (by have:=h.len;unfold maxLen;omega) (by have:=h.len;omega) hB λv' w' j r _=>?_;have z:=dB.gr r h.mine;refine hk v' (us++k) w' ⟨by unfold dF;rw[ju,bV];exact j,by simp[h.len,m],λi y u f d=>z.lies ?_,λq e=>.inr e⟩ r z
 by_cases t:i<l0.length
 .rw[kO t]at f;rw[kO (by rw[h.len];exact t)]at d;exact h.lies i y u f d
 .rw[zE od]at f;rw[zE (by rw[h.len];omega),h.len]at d;exact n _ y u f d
def nX{e:TypeId}{size n:Nat}{v:cm}{xs:bo}(h:w.ownsRow B e size v n xs):∃a c,v =.slice a n c:=by
 rcases h.2 with⟨rfl,rfl⟩|⟨g,b,d,rfl,_⟩
 .exact⟨_,_,rfl⟩
 .exact⟨_,_,rfl⟩
def Yf (B:Nat) (O:br) (w:cg) (mb:Nat) (sv:cm) (l:ao) (e:Ending) (w':cg):Prop:=e =.returned (.tuple #[])/\∃v' us' w1,sU B (qx O sv v') w1 l v' us'/\Gr w sv w1 v'/\dB O w (qx O sv v') w1/\w'=w1.setCell ⟨mb,14,none⟩ v'
def G9{l p:ao}{xv:cm}{g x:Int}{k n a:Int}{s:bp}{y:bj}{al z:Nat}{ta:bj}{tl tc:Nat}{na:bj}{D nc:Nat}{i A:cm}{us:bo}(hb:w.heap[mb]?=some (.cells (yG en aC g x k n a s y al z ta tl tc na D nc i A) 197))(t:sU B O w p i us)(c:Src O w l xv)(r:B<=w.heap.size)(b:p.length+l.length<=100000000):Calls prog 188 #[.po mb,xv] w (Yf B O w mb i (p++l)):=by have HM:=jh hb;have q:=jh t;have K:=λ(w':cg) (h:cq w w' none)=>iM (mH HM h);have C:cq w w none:=bf _ _;have⟨u,HL,HB⟩:=JT c b r;clear hb t c b r;go_enter func188,ntmps188;go_wp2_with (at_builtin;refine WU (v:=i) (xv:=xv) rfl _ _ rfl rfl rfl q u HB HL ?_;intro H E w' e d f;obtain⟨F,G,rfl⟩:=nX e.own;have o:=jh e;have m:=jh d;have j:=jh f;have I:=iM (kb HM d.1 (aD q.own HM ov));clear e d f);refine jb3 (v:=.tuple #[]) (by simp[results,results188,go_sem]) rfl ?_;exact⟨rfl,_,_,_,o,m,j,rfl⟩
def Yg (B:Nat) (O:br) (w:cg) (mb:Nat) (en:En) (aC:Int) (m:Ma) (k n a:Int) (s:bp) (aa:bj) (al ac:Nat) (ta:bj) (tl tc:Nat) (na:bj) (nl nc:Nat) (fv:cm) (fs:bo) (e:Ending) (w':cg):Prop:=e =.returned (.tuple #[])/\∃O',dB O w O' w'/\∃sv us,bU B O' w' mb en aC m k n a s aa al ac ta tl tc na nl nc sv fv us fs
def bU.Fv{st:ao}{k n a:Int}{s:bp}{z:bj}{al ac:Nat}{ta:bj}{tl tc:Nat}{na:bj}{F nc:Nat}{j C v':cm}{us A us':bo}{w':cg}(c:bU B O w mb en aC m k n a s z al ac ta tl tc na F nc j C us A)(x:sU B (qx O j v') w' st.reverse v' us')(p:Gr w j w' v')(hF:dB O w (qx O j v') w') :
 dB O w (qx O j v') (w'.setCell ⟨mb,14,none⟩ v')/\bU B (qx O j v') (w'.setCell ⟨mb,14,none⟩ v') mb en aC { m with st:=st } k n a s z al ac ta tl tc na F nc v' C us' A:=by
 have d:cq w' (w'.setCell ⟨mb,14,none⟩ v') (some mb):=eF (bf _ _) _ _ _;have u:dB (qx O j v') w' (qx O j v') (w'.setCell ⟨mb,14,none⟩ v'):=dB.ofRow d (λq e=>by cases e;exact .inl ⟨c.mine.1,λe=>aD c.jL.own c.blk ov e.symm⟩);have D:=hF.trans u;have h:=(nG (kb c.blk p.1 (aD c.jL.own c.blk ov)) v').1;have y:∀q,v'.ownBlock=some q->q≠mb:=λq e r=>by
  subst r;rcases p.2 with o|⟨g,o,E⟩
  .exact aD c.jL.own c.blk ov (by rw[<-o,e])
  .rw[e]at o;cases o;have:=c.high _ c.mine.1;omega
 refine⟨D,c.stack D h (us':=us') ?_ ?_ (λq i l=>.inl ⟨i,l⟩) (λq i l v=>(d.block q (kh (c.high q i) p.1.size) (by simpa using l)).trans (p.1.block q (c.high q i) (λe=>v e.symm))) (λb f=>?_)⟩
 .exact x.kept u λq e=>⟨.inr e,d.block q (qb5 x.own q e).2 (by simpa using y q e)⟩
 .rcases p.2 with e|⟨g,e,E⟩
  .exact .inl e
  .exact .inr (.inr ⟨g,e,E⟩)
 .by_cases e:b=mb
  .subst e;exact⟨_,_,h⟩
  .have t:∃cs e,w'.heap[b]?=some (.cells cs e):=by
    rcases f with f|f
    .rw[p.1.block b (c.high b f.1) (λo=>f.2 o.symm)];exact c.cells b f.1
    .rcases x.own.2 with⟨r,_⟩|⟨g,G,H,r,_,i,_⟩
     .rw[r]at f;cases f
     .rw[r]at f;cases f;exact⟨_,_,i⟩
   rw[d.block b (by have⟨cs,q,i⟩:=t;exact (kj.1 i).1) (by simpa using e)];exact t
def BG{l:ao}{xv:cm}{k n a:Int}{s:bp}{i:bj}{al ac:Nat}{ta:bj}{tl tc:Nat}{na:bj}{p nc:Nat}{q o:cm}{us j:bo}(h:bU B O w mb en aC m k n a s i al ac ta tl tc na p nc q o us j)(c:Src O w l xv)(b:m.st.length+l.length<=100000000):Calls prog 188 #[.po mb,xv] w (Yg B O w mb en aC { m with st:=l.reverse++m.st } k n a s i al ac ta tl tc na p nc o j):=by refine (G9 h.blk h.jL c (by have:=h.low _ h.mine.1;have:=h.high _ h.mine.1;omega) (by rw[qb3];exact b)).mono ?_;rintro e u ⟨rfl,t,r,w',g,f,d,rfl⟩;have:=h.Fv (st:=l.reverse++m.st) (by rw[qg5,jf5];exact g) f d;exact⟨rfl,_,this.1,_,_,this.2⟩
def Ha{l:ao}{xv:cm}(h:dm B O w mb en aC m)(c:Src O w l xv)(b:m.st.length+l.length<=100000000):Calls prog 188 #[.po mb,xv] w (K8 B O w mb en aC { m with st:=l.reverse++m.st }):=by have⟨k,n,a,s,aa,al,ac,ta,tl,tc,na,nl,nc,sv,fv,us,fs,h⟩:=h;refine (BG h c b).mono ?_;rintro e w' ⟨d,O',f,sv,us,g⟩;exact⟨d,O',f,_,_,_,_,_,_,_,_,_,_,_,_,_,_,_,_,_,g⟩
end
