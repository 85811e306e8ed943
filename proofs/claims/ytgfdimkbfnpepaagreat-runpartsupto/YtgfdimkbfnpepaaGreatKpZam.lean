import Derived.Test.YtgfdimkbfnpepaaGreatKpZal
namespace Go.Proofs.YtgfdimkbfnpepaaGreat
set_option linter.all false
open Go.Proofs.Tryz
set_option maxRecDepth 100000
set_option maxHeartbeats 4000000
variable {ops:Array Oper}{s:ByteArray}{Q:Exit->Act->World->Prop}{k n:Int}{xs ys:List Tr}{l l':List UInt8}{us:List Value}{H c ca cb d:Nat}{ok:Nat->Prop}{V V2:Nat->Value}{o:Oper}{a b:Option Addr}{T:Ty}{x y:Va}{u v:Value}{w:World}
def Nt (f:Nat->List UInt8->Except Int (Tr×Nat×List UInt8)):Nat->Nat->List UInt8->Except Int (List Tr×Nat×List UInt8)
 | 0,n,l=>.ok ([],n,l)
 | k+1,n,l=>match f n l with
  | .error e=>.error e
  | .ok (t,n',l')=>match Nt f k n' l' with
   | .error e=>.error e
   | .ok (ts,n'',l'')=>.ok (t::ts,n'',l'')
def pQ (f:Nat->List UInt8->Except Int (Tr×Nat×List UInt8)) (n:Nat) (l:List UInt8):Except Int (List Tr×Nat×List UInt8) :=
 match kR l with
 | none=>.error 1
 | some (c,l')=>Nt f c n l'
def pNode:Nat->Nat->List UInt8->Except Int (Tr×Nat×List UInt8)
 | 0,_,_=>.error 4
 | d+1,n,l=>if n=300 then .error 4 else match l with
  | []=>.error 1
  | b::l =>
   if b.toNat=0 then match pNum l with
    | none=>.error 1
    | some (m,l')=>.ok (.nd 0 m 0 (bs []) [],n+1,l')
   else if b.toNat=1 then match yf l with
    | none=>.error 1
    | some (s,l')=>.ok (.nd 1 0 0 (bs s) [],n+1,l')
   else if b.toNat=2 then match l with
    | []=>.error 1
    | p::l=>if Lf.gD p.toNat=false then .error 1 else match pQ (λn l=>pNode d n l) (n+1) l with
     | .error e=>.error e
     | .ok (ts,n',l')=>.ok (.nd 2 0 p.toNat (bs []) ts,n',l')
   else if b.toNat=3 then match pQ (λn l=>pNode d n l) (n+1) l with
    | .error e=>.error e
    | .ok (ts,n',l')=>.ok (.nd 3 0 0 (bs []) ts,n',l')
   else .error 1
def TK(l:List UInt8):(bs l).data.toList=l:=by simp[bs]
def sF(h:kR l=some (c,l')):c<=1152921504606846976/\l=pE c++l':=by
 unfold kR at h
 cases a:pNum l with
 | none=>rw[a]at h;simp at h
 | some r =>
  obtain⟨x,f⟩:=r;obtain⟨e,d⟩:=oQ a;rw[a]at h;simp only at h
  by_cases b:x<0
  .rw[if_pos b]at h;simp at h
  .rw[if_neg b]at h;simp only[qk,zd]at h;obtain⟨rfl,rfl⟩:=h;rw[Int.toNat_of_nonneg od];exact⟨od,d⟩
def zS{s:List UInt8}(h:yf l=some (s,l')):s.length<=200/\l=pE s.length++s++l':=by
 unfold yf at h
 cases a:kR l with
 | none=>rw[a]at h;simp at h
 | some r =>
  obtain⟨m,c⟩:=r;obtain⟨f,d⟩:=sF a;rw[a]at h;simp only at h
  by_cases b:200<m\/c.length<m
  .rw[if_pos b]at h;simp at h
  rw[if_neg b]at h;simp only[qk,zd]at h;obtain⟨rfl,rfl⟩:=h;have e:(c.take m).length=m:=vi
  rw[e];exact⟨od,by rw[ub,qc4];exact d⟩
def Sound (d:Nat) (n:Nat) (l:List UInt8) (t:Tr) (n':Nat) (l':List UInt8):Prop:=l=encTr t++l'/\n'=n+t.size/\n'<=300/\bC (25 - d) t=0
def J7{f:Nat->List UInt8->Except Int (Tr×Nat×List UInt8)}(y:∀n l t a l',n<=300->f n l =.ok (t,a,l')->Sound d n l t a l') :
 ∀(k n:Nat) (l:List UInt8) (ts:List Tr) (a:Nat) (l':List UInt8),n<=300->Nt f k n l =.ok (ts,a,l')->l=encTrs ts++l'/\a=n+sizes ts/\a<=300/\bG (25 - d) ts=0/\ts.length=k:=by
 intro k
 induction k with
 | zero =>
  intro n l ts a l' g h;simp only[Nt,jg2,zd]at h;obtain⟨rfl,rfl,rfl⟩:=h;exact⟨by simp[encTrs],by simp[sizes],g,by simp[bG],rfl⟩
 | succ k z =>
  intro n l ts a l' g h;rw[Nt]at h
  cases b:f n l with
  | error e=>rw[b]at h;simp at h
  | ok r =>
   obtain⟨t,n1,i⟩:=r;rw[b]at h;simp only at h
   cases c:Nt f k n1 i with
   | error e=>rw[c]at h;simp at h
   | ok r =>
    obtain⟨j,B,A⟩:=r;rw[c]at h;simp only[jg2,zd]at h;obtain⟨rfl,rfl,rfl⟩:=h;obtain⟨m,o,p,q⟩:=y n l t n1 i g b;obtain⟨s,u,v,w,x⟩:=z n1 i j B A p c;refine⟨by rw[m,s,encTrs];simp,by rw[u,o,sizes];omega,v,?_,by simp[x]⟩;rw[bG,q];simpa using w
def vM(k n p:Int)(s:ByteArray)(l:Nat)(a:Lf.rP k=true)(b:¬(k=2/\Lf.gD p=false))(c:Lf.qM k n p s l=false)(d:-1152921504606846976<=n/\n<=1152921504606846976)(e:s.size<=200):Lf.fD k n p s l=0:=by unfold Lf.fD;rw[if_neg (by simp[a]),if_neg b,if_neg (by simp[c]),oa,oa]
def pR{f:Nat->List UInt8->Except Int (Tr×Nat×List UInt8)}(o:∀n l t a l',n<=300->f n l =.ok (t,a,l')->Sound d n l t a l'){n:Nat}{ts:List Tr}{a:Nat}(p:n<=300)
 (h:pQ f n l =.ok (ts,a,l')):l=pE ts.length++encTrs ts++l'/\a=n+sizes ts/\a<=300/\bG (25 - d) ts=0:=by
 unfold pQ at h
 cases b:kR l with
 | none=>rw[b]at h;simp at h
 | some r =>
  obtain⟨c,q⟩:=r;obtain⟨s,m⟩:=sF b;rw[b]at h;obtain⟨e,g,i,j,k⟩:=J7 o c n q ts a l' p h;subst k;exact⟨by rw[m,e];simp,g,i,j⟩
def pU(d:Nat):d<=24->∀(n:Nat) (l:List UInt8) (t:Tr) (q:Nat) (l':List UInt8),n<=300->pNode d n l =.ok (t,q,l')->Sound d n l t q l':=by
 induction d with
 | zero=>intro _ n l t q l' D h;simp[pNode]at h
 | succ d o =>
  intro H n l t q l' D h;have o:=o od;rw[pNode.eq_def]at h;simp only at h
  by_cases g:n=300
  .rw[if_pos g]at h;simp at h
  rw[if_neg g]at h;have hF:∀(k m p:Int) (s:ByteArray) (f:List Tr),Lf.fD k m p s f.length=0->bG (25 - d) f=0->bC (25 - (d+1)) (.nd k m p s f)=0:=by intro k m p s f F E;rw[bC,oa,if_neg (by simpa using F),show 25 - (d+1)+1=25 - d from by omega];exact E
  cases l with
  | nil=>simp at h
  | cons b l =>
   simp only at h
   by_cases w:b.toNat=0
   .rw[if_pos w]at h
    cases c:pNum l with
    | none=>rw[c]at h;simp at h
    | some r =>
     obtain⟨m,B⟩:=r;obtain⟨i,j⟩:=oQ c;rw[c]at h;simp only[jg2,zd]at h;obtain⟨rfl,rfl,rfl⟩:=h;refine⟨?_,by simp[Tr.size,sizes],od,?_⟩
     .rw[encTr,if_pos rfl,j,yE w];rfl
     .exact hF 0 m 0 (bs []) [] (vM _ _ _ _ _ ov ov (by rfl) i Kf) (by simp[bG])
   rw[if_neg w]at h
   by_cases x:b.toNat=1
   .rw[if_pos x]at h
    cases c:yf l with
    | none=>rw[c]at h;simp at h
    | some r =>
     obtain⟨s,B⟩:=r;obtain⟨i,j⟩:=zS c;rw[c]at h;simp only[jg2,zd]at h;obtain⟨rfl,rfl,rfl⟩:=h;refine⟨?_,by simp[Tr.size,sizes],od,?_⟩
     .rw[encTr,if_neg ov,if_pos rfl,j,yE x,eQ,TK];rfl
     .exact hF 1 0 0 (bs s) [] (vM _ _ _ _ _ ov ov (by rfl) od (by rw[eQ];exact i)) (by simp[bG])
   rw[if_neg x]at h
   by_cases y:b.toNat=2
   .rw[if_pos y]at h
    cases l with
    | nil=>simp at h
    | cons p l =>
     simp only at h
     by_cases A:Lf.gD p.toNat=false
     .rw[if_pos A]at h;simp at h
     rw[if_neg A]at h
     cases c:pQ (λn l=>pNode d n l) (n+1) l with
     | error e=>rw[c]at h;simp at h
     | ok r =>
      obtain⟨C,G,B⟩:=r;obtain⟨i,j,u,v⟩:=pR o od c;rw[c]at h;simp only[jg2,zd]at h;obtain⟨rfl,rfl,rfl⟩:=h;refine⟨?_,by rw[j,Tr.size];omega,u,?_⟩
      .rw[encTr,if_neg ov,if_neg ov,if_pos rfl,i,yE y];simp only[qd2,Int.toNat_natCast];rw[<-yE (a:=p) rfl];rfl
      .exact hF 2 0 p.toNat (bs []) C (vM _ _ _ _ _ ov (by simpa using A) (by rfl) od Kf) v
   rw[if_neg y]at h
   by_cases z:b.toNat=3
   .rw[if_pos z]at h
    cases c:pQ (λn l=>pNode d n l) (n+1) l with
    | error e=>rw[c]at h;simp at h
    | ok r =>
     obtain⟨C,G,B⟩:=r;obtain⟨i,j,u,v⟩:=pR o od c;rw[c]at h;simp only[jg2,zd]at h;obtain⟨rfl,rfl,rfl⟩:=h;refine⟨?_,by rw[j,Tr.size];omega,u,?_⟩
     .rw[encTr,if_neg ov,if_neg ov,if_neg ov,i,yE z];rfl
     .exact hF 3 0 0 (bs []) C (vM _ _ _ _ _ ov ov (by rfl) od Kf) v
   .rw[if_neg z]at h;simp at h
def mE (l:List UInt8):Except Int Tr:=match pNode 24 0 l with
 | .ok (t,_,l')=>if l'=[]then .ok t else .error 1
 | .error e=>.error e
def jw (T:Ty):List UInt8->Option Va
 | []=>none
 | b::r=>if b=5/\r.length<=199 then (match mE r with
  | .error _=>none
  | .ok t=>match jf T t with
   | none=>none
   | some x=>if eB T=true then some x else none)else none
def TR (T:Ty) (x:Va):Bool:=pY T x&&eB T
def M8(h:TR T x=true):zt T=true/\hasV x T=true/\eB T=true:=by unfold TR pY at h;simp only[qu]at h;exact⟨h.1.1,h.1.2,h.2⟩
def P9(h:TR T x=true):(dR x).size<=301:=by obtain⟨a,b,c⟩:=M8 h;exact (OD b c (dE a).1).2.2
open Go.ChangeShapes Go.WideShapes Go.ChangeAt Go.RowKit
mutual
def vsum:Va->Nat
 | .mk _ _ _ s args _ _=>s.size / 8+1+vsums args
def vsums:List Va->Nat
 | []=>0
 | x::xs=>vsum x+vsums xs
end
def VD(x:Va):vsum x=x.s.size / 8+1+vsums x.args:=by cases x;rw[vsum];rfl
def pushS:List Va->List (List Va)
 | []=>[]
 | x::xs=>(if x.args.length=0 then []else [x.args])++pushS xs
def BV(l:List Va)(x:Va):pushS (l++[x])=pushS l++(if x.args.length=0 then []else [x.args]):=by
 induction l with
 | nil=>simp[pushS]
 | cons y l a=>simp[pushS,a]
def CY (M:List (List Va)):Nat:=(M.map vsums).sum
def nD (M:List (List Va)):Nat:=(M.map λl=>vsizes l+1).sum
def zY(a b:List (List Va)):CY (a++b)=CY a+CY b:=by simp[CY]
def Cr(l:List Va):CY [l]=vsums l:=by simp[CY]
def gQ(a b:List (List Va)):nD (a++b)=nD a+nD b:=by simp[nD]
def qH(l:List Va):nD [l]=vsizes l+1:=by simp[nD]
def ve(M:List (List Va)):M.length<=nD M:=by
 induction M with
 | nil=>simp
 | cons r l a=>simp only[nD,qb7,jh4,jn]at a|-;omega
def wM(l:List Va):nD (pushS l)<=vsizes l:=by
 induction l with
 | nil=>simp[pushS,nD,vsizes]
 | cons x l a =>
  have h:=eP x;rw[pushS,gQ,vsizes];split
  .simp[nD]at a|-;omega
  .rw[qH];omega
def gM.last: ∀{M:List (List Va)},gM w M (us++[u])->∃b l,M=b++[l]/\gM w b us/\∃a c V,u =.slice a l.length c/\aT (λ_=>True) w l a V/\vsizes l<=20000000:=by
 induction us with
 | nil =>
  intro M h
  match M,h with
  | [r],h=>exact⟨[],r,rfl,trivial,h.1⟩
  | r::i::g,h=>exact h.2.elim
  | [],h=>exact h.elim
 | cons x us f =>
  intro M h
  match M,h with
  | r::g,h =>
   obtain⟨b,l,rfl,d,e⟩:=f h.2;exact⟨r::b,l,rfl,⟨h.1,d⟩,e⟩
  | [],h=>exact h.elim
def Mj(a b:Int):wrap64 (wrap64 a+b)=wrap64 (a+b):=Ys
def Ey(a:Int):wrap64 (wrap64 a)=wrap64 a:=Ys
def PO (W:World) (R:Int) (N n:Nat) (sv tv:Value) (wr:World):Prop :=
 ∃(us:List Value) (M:List (List Va)) (a:Int),kD W.heap.size wr tv us/\gM W M us/\nD M=n/\n<=N/\sv =.i a/\wrap64 a=a/\wrap64 (a+(CY M:Nat))=R/\W.grownBy wr none
def Y1 (W:World) (R:Int) (M':List (List Va)) (l:List Va) (j:Nat) (sv tv:Value) (wr:World):Prop :=
 ∃(us:List Value) (a:Int),kD W.heap.size wr tv us/\gM W (M'++pushS (l.take j)) us/\sv =.i a/\wrap64 a=a/\wrap64 (a+((CY (M'++pushS (l.take j))+vsums (l.drop j):Nat):Int))=R/\W.grownBy wr none
def KQ(l:List Va)(j:Nat)(h:j<l.length):vsums (l.drop j)=vsum l[j]+vsums (l.drop (j+1)):=by rw[qa5 h,vsums]
def take_left(l:List Va)(j:Nat):nD (pushS (l.take j))<=vsizes l:=by refine kh (wM _) ?_;have h:=kK (l.take j) (l.drop j);rw[qc4]at h;omega
def Ri{a:Int}{c:Option Addr}{al ac:Nat}{ta:Option Addr}{tl tc:Nat}{na:Option Addr}{m nc:Nat}(h:aA ok w x (bg k n a s c al ac ta tl tc na m nc)) :
 s=x.s/\s.size<=maxLen/\al=x.args.length/\∃V,aT ok w x.args c V:=by
 obtain⟨d,e,o,p,j,l,V,r,q,b,⟨_,_,_,i,g⟩,f,_,_⟩:=h.inv;unfold bg at b;simp only[qb3,qc1,xj,qg5,jf6,ke,true_and,and_true]at b;obtain⟨_,_,_,rfl,⟨rfl,rfl,rfl⟩,_⟩:=b;exact⟨rfl,i,rfl,V,f⟩
def RL(hV:aA (λ_=>True) w x v)(hz:x.size<=20000000)(W:World)(hW:w.grownBy W none) :
 Calls prog 192 #[v] W λe w'=>e =.returned (.i (wrap64 (vsum x:Nat)))/\W.grownBy w' none:=by
 obtain⟨k1,n1,a1,s1,C,E,D,J,fE,K,G,I,H,rfl⟩:=hV.bg;have HV:=jh (aA.up hV hW);have HZ:=jh hz;clear hV hz hW;generalize t:wrap64 (vsum x:Nat)=R;have HR:=jh t;clear t;unfold bg at *;go_enter func192,ntmps192;go_wp2_with fail;have bj:=iR W (.cells #[.i k1,.i n1,.i a1,.string s1,.slice C E D,.slice J fE K,.slice G I H] 36) (.cells #[.i k1,.i n1,.i a1,.string s1,.slice C E D,.slice J fE K,.slice G I H] 36);have br:((W.alloc (.cells #[.i k1,.i n1,.i a1,.string s1,.slice C E D,.slice J fE K,.slice G I H] 36)).alloc (.cells #[.i k1,.i n1,.i a1,.string s1,.slice C E D,.slice J fE K,.slice G I H] 36)).heap.size=W.heap.size+1+1:=ot
 have ah:W.grownBy ((W.alloc (.cells #[.i k1,.i n1,.i a1,.string s1,.slice C E D,.slice J fE K,.slice G I H] 36)).alloc (.cells #[.i k1,.i n1,.i a1,.string s1,.slice C E D,.slice J fE K,.slice G I H] 36)) none:=aJ (aK _) (aK _);generalize (W.alloc _).alloc _=X at *;obtain⟨ca,aE,A⟩:=we ah br (vF bj (aA.up HV.out ah));obtain⟨μ,hμ⟩:=mM (λn (p:Value×Value×World)=>PO X R (x.size+1) n p.1 p.2.1 p.2.2);have HM:=jh hμ;clear ah br bj hμ;go_loopw [3,4] (λsv tv wr=>∃n,PO X R (x.size+1) n sv tv wr) (λsv tv wr=>μ (sv,tv,wr))
 case atStart =>
  refine⟨_,[.slice (some ⟨W.heap.size+1,0,none⟩) 1 1],[[x]],0,?_,⟨⟨_,_,_,rfl,A.out,by have:=HZ.out;simp[vsizes];omega⟩,trivial⟩,rfl,by rw[qH];simp[vsizes],rfl,by simp[wrap64],by rw[<-HR.out,Cr];simp[vsums],aK _⟩;refine⟨rfl,.inr ⟨W.heap.size+1+1,1,#[.slice (some ⟨W.heap.size+1,0,none⟩) 1 1],rfl,by have:=aE.out;omega,?_,qv _,ov,rfl,rfl⟩⟩;rw[<-aE.out];exact qT _ _
 case round =>
  obtain⟨n0,bn⟩:=hrel;obtain⟨us,M,a,b,d,hn,aj,bq,k,t,F⟩:=(HM.out (u3,u4,wr) n0 bn).1;simp only at b bq F;subst bq;have hz:=HZ.out;clear bn
  by_cases hv:us.length=0
  .obtain⟨a0,cC,rfl⟩:=mg b hv;have cq:=d.len;have bp:M=[]:=qd7.1 od;have Y:R=a:=by rw[<-t,bp];simpa[CY]using k
   have cj:=jh Y;have HG:=jh (aJ ca.out F);clear b d hn aj t F Y bp cq hv HM k HV A HR;go_wp2_with fail;go_ret;exact Lf.lX cj.out.symm HG.out
  .have ao:us≠[]:=λe=>hv (by rw[e];rfl);have e1:=(qb4 ao).symm;generalize us.dropLast=q at e1;generalize us.getLast ao=u at e1;subst e1;obtain⟨U,l,rfl,f,ai,ci,Vi,rfl,ae,cv⟩:=d.last;have an:(q++[Value.slice ai l.length ci]).length=q.length+1:=by simp
   have N:=jb3 b ot;rw[an]at N;obtain⟨g,aO,rfl,cE,cz⟩:=N;unfold kD at b;rw[an]at b;have bk:=QX b;have cn:q.length<=aO:=od
   have d0:=yy b (g:=g) rfl q.length (.slice ai l.length ci) ot;rw[gI,qa4]at d0;have az:=jh (Av b);have cp:=ae.1;unfold maxLen at cp;rw[gQ,qH]at hn;rw[zY,Cr]at t;obtain⟨aC,ab,HN,T,ck,HG,cm⟩:=wi ae f hn aj t F k;have bc:q.length=U.length:=f.len;have cG:q.length<=20000001:=by have h1:=ve U;omega
   have cA:=jh bc;obtain⟨cw,P⟩:∃m0,m0=μ (.i a,.slice (some ⟨g,0,none⟩) (q.length+1) aO,wr):=⟨_,rfl⟩;have cc:=jh P;rw[<-P]at HN T;clear P;clear b d f ae hn aj t F ao hv bk an k cv bc;go_wp2_with fail;go_loopw [3,4,27] (λsv tv iv wz=>∃j:Nat,j<=l.length/\iv =.i j/\Y1 X R U l j sv tv wz) (λ_ _ iv _=>l.length - (intOf iv).toNat)
   case atStart =>
    refine⟨0,kB _,rfl,q,a,az.out,by simpa[pushS]using ab.out,rfl,cm.out,?_,HG.out⟩;simpa[pushS]using ck.out
   case round =>
    obtain⟨j,hj,rfl,L,a2,b,d,rfl,k,t,F⟩:=hrel
    by_cases O:j<l.length
    .obtain⟨b1,o1,rfl,_,k3,n3,a3,s3,r,o,s,ax,IC,ay,aq,au,ar,bt,e0,e1,e2,e3,e4,e5,e6⟩:=(aC.out.2.1 j O).same (ni F);have ad:=aC.out.2.2 j O;rw[bt]at ad;obtain⟨es,cr,el,VA,bf⟩:=Ri ad;have ct:=eP l[j];have cu:(l[j]).size<=vsizes l:=fO (zj O);have Q:=VD l[j];rw[<-es]at Q;rw[KQ l j O,Q]at t;have z:=BV (l.take j) l[j];rw[<-ur O]at z;have ak:=take_left l j;have y:L.length<=50000000:=by
      have h1:=d.len;have h2:=ve (U++pushS (l.take j));rw[gQ]at h2;have h3:=HN.out;have h4:=T.out;omega
     have bw:vsizes (l[j]).args<=20000000:=by have h3:=HN.out;have h4:=T.out;omega
     have ba:X.heap.size<=wr.heap.size:=F.size;have cx:=jh F;unfold maxLen at cr;have bh:wr.grownBy (wr.alloc (.cells #[.i k3,.i n3,.i a3,.string s3,.slice r o s,.slice ax IC ay,.slice aq au ar] 36)) none:=aK _;obtain⟨aa,Z,HR,B,ch,cl,cy,S,HP⟩:=wv (xo b (.cells #[.i k3,.i n3,.i a3,.string s3,.slice r o s,.slice ax IC ay,.slice aq au ar] 36)) (aJ F bh) t d bf bw k el z;have w2:(j:Int)<(l.length:Int):=od
     clear t d bf bw k bt ad ct cu Q z ak F b bh es el
     by_cases ha:o=0
     .have HA:=jh ha;subst ha;clear y ba;go_wp2_with fail;go_roundw
      case rel =>
       have hp:pushS (l.take (j+1))=pushS (l.take j):=by rw[HP.out,if_pos S.out.symm,qe3]
       refine⟨j+1,od,OF,L,_,aa.out,by rw[hp];exact B.out,rfl,?_,?_,Z.out⟩
       .exact Ey _
       .have hA:(l[j]).args=[]:=ju S.out.symm;have h:=HR.out;rw[hA]at h;simp only[vsums]at h;rw[hp,Mj,<-h]
        congr 1
        omega
      case measure=>simp[intOf];omega
     .have cD:(0:Int)<(o:Int):=by omega
      have bx:=jh Z.out.size;have cb:=jh y;have cd:Hid (¬(l[j]).args.length=0):=by have:=S.out;show ¬_;omega
      have A:Hid (∃a c V,(Value.slice r o s) =.slice a (l[j]).args.length c/\aT (λ_=>True) X (l[j]).args a V/\vsizes (l[j]).args<=20000000):=⟨r,s,VA,by rw[S.out],ch.out,cl.out⟩;clear ha y ba;go_wp2_with (at_builtin;refine TC X.heap.size L r o s (wr.alloc (.cells #[.i k3,.i n3,.i a3,.string s3,.slice r o s,.slice ax IC ay,.slice aq au ar] 36)) u4 rfl _ _ rfl rfl rfl ot aa.out bx.out cb.out ?_;intro v' w9 bo bl;have cg:=jh bo;have bz:=jh (dX Z.out aa.out (qv _) bl.1);clear bo bl);go_roundw
      case rel =>
       have hp:pushS (l.take (j+1))=pushS (l.take j)++[(l[j]).args]:=by rw[HP.out,if_neg cd.out]
       refine⟨j+1,od,OF,L++[.slice r o s],_,cg.out,by rw[hp,<-ub];exact gM.snoc A.out B.out,rfl,?_,?_,bz.out⟩
       .exact Ey _
       .have h:=HR.out;rw[hp,<-ub,zY (_++_),Cr,Mj,<-h]
        congr 1
        omega
      case measure=>simp[intOf];omega
    .have bm:j=l.length:=by omega
     have cF:¬(j:Int)<(l.length:Int):=od
     have bb:gM X (U++pushS l) L:=by rw[bm,qe2]at d;exact d
     have bd:wrap64 (a2+(CY (U++pushS l):Nat))=R:=by rw[bm,qe2,List.drop_length]at t;simpa[vsums]using t
     have cf:Hid (∃m,m<cw/\PO X R (x.size+1) m (.i a2) u4 wr):=by have h1:=wM l;have h2:=HN.out;have h3:=T.out;refine⟨nD (U++pushS l),by rw[gQ];omega,L,U++pushS l,a2,b,bb,rfl,by rw[gQ];omega,rfl,k,bd,F⟩
     clear t d b k F bb bd;go_wp2_with fail;obtain⟨m,h1,h2⟩:=cf.out;rw[cc.out]at h1;go_roundw
     case rel=>exact⟨m,h2⟩
     case measure=>exact qf3 (HM.out _ m h2).2 h1
def argsN:Tr->List Tr
 | .nd _ _ _ _ l=>l
def kN:Tr->Int
 | .nd k _ _ _ _=>k
def nN:Tr->Int
 | .nd _ n _ _ _=>n
def pN:Tr->Int
 | .nd _ _ p _ _=>p
def sN:Tr->ByteArray
 | .nd _ _ _ s _=>s
def QW(t:Tr):t.size=sizes (argsN t)+1:=by cases t;simp[Tr.size,argsN]
mutual
def Ot (c:Tr->Tr->Int):Tr->Tr->Int
 | .nd k n p s args,y=>if c (.nd k n p s args) y≠0 then c (.nd k n p s args) y else jk c args (argsN y)
def jk (c:Tr->Tr->Int):List Tr->List Tr->Int
 | [],[]=>0
 | [],_::_=>-1
 | _::_,[]=>1
 | x::xs,y::ys=>if Ot c x y≠0 then Ot c x y else jk c xs ys
end
def L8(c:Tr->Tr->Int)(x y:Tr):Ot c x y=if c x y≠0 then c x y else jk c (argsN x) (argsN y):=by
 cases x;rw[Ot];rfl
def RS (c:Tr->Tr->Int):List (List Tr×List Tr)->Int
 | []=>0
 | r::R=>if jk c r.1 r.2≠0 then jk c r.1 r.2 else RS c R
def Cq (c:Tr->Tr->Int) (rows:List (List Tr×List Tr)):Int:=RS c rows.reverse
def mo(c:Tr->Tr->Int)(rows:List (List Tr×List Tr))(r:List Tr×List Tr):Cq c (rows++[r])=if jk c r.1 r.2≠0 then jk c r.1 r.2 else Cq c rows:=by simp[Cq,RS]
def RV(c:Tr->Tr->Int)(r:List Tr×List Tr):Cq c [r]=jk c r.1 r.2:=by
 have:=mo c [] r;rw[qf0]at this;rw[this]
 by_cases h:jk c r.1 r.2=0
 .rw[if_neg (by simpa using h),h];rfl
 .rw[if_pos h]
def RX(c:Tr->Tr->Int)(rows:List (List Tr×List Tr)):Cq c (rows++[([],[])])=Cq c rows:=by rw[mo];simp[jk]
def RU(c:Tr->Tr->Int)(rows:List (List Tr×List Tr))(x y:List Tr)(h:x=[]\/y=[])(f:¬(x=[]/\y=[])):Cq c (rows++[(x,y)])=gP x.length y.length:=by
 rw[mo]
 cases x with
 | nil=>cases y with
  | nil=>simp at f
  | cons b y =>
   have d:jk c [] (b::y) = -1:=by rw[jk]
   have e:gP (([]:List Tr).length:Nat) ((b::y).length:Nat) = -1:=by rw[gP,if_pos ot]
   rw[e];simp[d]
 | cons a x=>cases y with
  | nil =>
   have d:jk c (a::x) []=1:=by rw[jk]
   have e:gP ((a::x).length:Nat) (([]:List Tr).length:Nat)=1:=by rw[gP,if_neg oB,if_pos ot]
   rw[e];simp[d]
  | cons b y=>simp at h
def RY(c:Tr->Tr->Int)(rows:List (List Tr×List Tr))(x y:Tr)(xs ys:List Tr)(h:c x y≠0):Cq c (rows++[(x::xs,y::ys)])=c x y:=by
 have a:Ot c x y=c x y:=by rw[L8,if_pos h]
 have b:jk c (x::xs) (y::ys)=c x y:=by rw[jk,a,if_pos h]
 rw[mo];simp only[b];rw[if_pos h]
def Oy(c:Tr->Tr->Int)(rows:List (List Tr×List Tr))(x y:Tr)(xs ys:List Tr)(h:c x y=0):Cq c (rows++[(x::xs,y::ys)])=Cq c (rows++[(xs,ys)]++[(argsN x,argsN y)]):=by
 have b:Ot c x y=jk c (argsN x) (argsN y):=by rw[L8,if_neg (by simpa using h)]
 rw[mo,mo,mo];simp only;rw[jk,b]
 by_cases a:jk c (argsN x) (argsN y)=0
 .simp[a]
 .rw[if_pos a,if_pos a];simp[a]
def uy (rows:List (List Tr×List Tr)):Nat:=(rows.map λr=>2*sizes r.1+1).sum
def iP(a b:List (List Tr×List Tr)):uy (a++b)=uy a+uy b:=by simp[uy]
def jV(r:List Tr×List Tr):uy [r]=2*sizes r.1+1:=by simp[uy]
def NG(rows:List (List Tr×List Tr)):rows.length<=uy rows:=by
 induction rows with
 | nil=>simp
 | cons r l a=>simp only[uy,qb7,jh4,jn]at a|-;omega
def vG{x:Tr}{b o:Nat}(h:cK (λ_=>True) w (x::xs) (some ⟨b,o,none⟩) V):cK (λ_=>True) w xs (some ⟨b,o+5,none⟩) (λi=>V (i+1)):=by
 refine⟨by have:=h.1;simp at this;omega,λi a=>?_,λi a=>?_⟩
 .obtain⟨t,v,l,u,k,n,p,s,m,al,q,r,c,d,f,g,j⟩:=h.2.1 (i+1) (by simpa using a);simp only[qk,qb2,and_true]at l;obtain⟨rfl,rfl⟩:=l;have e:o+(i+1)*5=o+5+i*5:=by omega
  rw[e]at c d f g j;exact⟨b,o+5,rfl,trivial,k,n,p,s,m,al,q,r,c,d,f,g,j⟩
 .have:=h.2.2 (i+1) (by simpa using a);simpa using this
def Lh{x:Tr}{p:Int}{l:Nat}(h:bI ok w x (af k n p s a l c)) :
 l=(argsN x).length/\(argsN x).length<=c/\∃V,cK ok w (argsN x) a V:=by
 generalize b:af k n p s a l c=u at h
 cases h with
 | mk V e g j i m d f =>
  unfold af at b;simp only[qb3,qc1,xj,ke,qg5,jf6,true_and,and_true]at b;obtain⟨rfl,rfl,rfl,rfl,rfl,rfl,rfl⟩:=b;exact⟨rfl,oS,V,e,d,f⟩
def Hg(k n p:Int)(s:ByteArray)(a:Option Addr)(l c:Nat)(w:World) :
 Calls prog 60 #[af k n p s a l c] w λe w'=>e =.returned (.slice a l c)/\w.grownBy w' none:=by
 unfold af;go_enter func60,ntmps60;go_wp2_with fail;go_ret;exact⟨rfl,aK _⟩
def GI:(prog.info? 121).map (λi=>(i.zero,i.size,i.bytes))=some (some (.agg #[.n0,.n0]),2,48):=oA
def mV (B:Nat) (w:World) (v:Value) (vs:List Value):Prop:=w.ownsRow B 121 2 v vs.length (bX vs)
def PK (w:World) (r:List Tr×List Tr) (u:Value):Prop:=∃a1 c1 V1 a2 c2 V2,u=wC a1 r.1.length c1 a2 r.2.length c2/\(r.1.length<=c1/\r.2.length<=c2)/\cK (λ_=>True) w r.1 a1 V1/\cK (λ_=>True) w r.2 a2 V2
def lC (w:World):List (List Tr×List Tr)->List Value->Prop
 | [],[]=>True
 | r::rows,u::us=>PK w r u/\lC w rows us
 | [],_::_=>False
 | _::_,[]=>False
def lC.len: ∀{rows:List (List Tr×List Tr)}{us:List Value},lC w rows us->us.length=rows.length
 | [],[],_=>rfl
 | _::_,_::_,h=>by simp[lC.len h.2]
 | [],_::_,h=>h.elim
 | _::_,[],h=>h.elim
def lC.snoc{r:List Tr×List Tr}(a:PK w r u):∀{rows:List (List Tr×List Tr)}{us:List Value},lC w rows us->lC w (rows++[r]) (us++[u])
 | [],[],_=>⟨a,trivial⟩
 | _::_,_::_,h=>⟨h.1,lC.snoc a h.2⟩
 | [],_::_,h=>h.elim
 | _::_,[],h=>h.elim
def lC.last: ∀{rows:List (List Tr×List Tr)},lC w rows (us++[u])->∃a r,rows=a++[r]/\lC w a us/\PK w r u:=by
 induction us with
 | nil =>
  intro rows h
  match rows,h with
  | [r],h=>exact⟨[],r,rfl,trivial,h.1⟩
  | r::g::f,h=>exact h.2.elim
  | [],h=>exact h.elim
 | cons x us d =>
  intro rows h
  match rows,h with
  | r::f,h =>
   obtain⟨a,e,rfl,b,c⟩:=d h.2;exact⟨r::a,e,rfl,⟨h.1,b⟩,c⟩
  | [],h=>exact h.elim
def Zq{rest:List Oper}{a:Act}(B:Nat)(vs:List Value)(b:Option Addr)(g d:Nat)(c:Option Addr)(l2 e:Nat)(w0:World)(v:Value)(f:o.guard=none)(s x:Operand)
 (ho:o.op =.call { callee:=.builtin .append,args:=#[s,x],argTypes:=#[122,122] }) (hs:a.eval s=v) (hx:a.eval x =.slice (some ⟨H,0,none⟩) 1 1) (hH:w0.heap.size=H)
 (hown:mV B w0 v vs) (hB:B<=w0.heap.size) (hlen:vs.length<=100000000)
 (h:∀v' w',mV B w' v' (vs++[wC b g d c l2 e])->Gr w0 v w' v'->wpList prog ops Q rest (a.put o.dst v') w') :
 wpList prog ops Q (o::rest) a (w0.alloc (.cells #[.slice b g d,.slice c l2 e] 121)):=by
 subst hH;refine ed f s x 122 ho B 121 underlying122 GI rfl ov v vs.length (bX vs) hs (xo hown _) _ 1 [.slice b g d,.slice c l2 e] hx rfl (gZ.new _ _ _ _ _) ?_ ?_ ?_ ?_ ?_
 .intro u i;simp at i;rcases i with rfl|rfl<;>rfl
 .unfold maxLen;omega
 .omega
 .simp;omega
 .intro v' w' j k _;exact h v' w' (by unfold mV;rw[dx,qS];exact j) (Gr.trans (Gr.alloc (Gr.refl w0 v) _) k)
def XK{a:Act}{K:Act->World->Prop}{E:Prop}(B:Nat)(vs:List Value)(b:Option Addr)(g d:Nat)(c:Option Addr)(l2 e:Nat)(w0:World)(v:Value)(f:o.guard=none)(s x:Operand)
 (ho:o.op =.call { callee:=.builtin .append,args:=#[s,x],argTypes:=#[122,122] }) (hs:a.eval s=v) (hx:a.eval x =.slice (some ⟨H,0,none⟩) 1 1) (hH:w0.heap.size=H)
 (hown:mV B w0 v vs) (hB:B<=w0.heap.size) (hlen:vs.length<=100000000)
 (h:∀v' w',mV B w' v' (vs++[wC b g d c l2 e])->Gr w0 v w' v'->K (a.put o.dst v') w') :
 if Region.wanted o (yielded ops a.tmps)=true then Oper.wp prog o a (w0.alloc (.cells #[.slice b g d,.slice c l2 e] 121)) K Q else E:=by
 subst hH;refine yx f s x 122 ho B 121 underlying122 GI rfl ov v vs.length (bX vs) hs (xo hown _) _ 1 [.slice b g d,.slice c l2 e] hx rfl (gZ.new _ _ _ _ _) ?_ ?_ ?_ ?_ ?_
 .intro u i;simp at i;rcases i with rfl|rfl<;>rfl
 .unfold maxLen;omega
 .omega
 .simp;omega
 .intro v' w' j k _;exact h v' w' (by unfold mV;rw[dx,qS];exact j) (Gr.trans (Gr.alloc (Gr.refl w0 v) _) k)
def EI (w0:World) (c:Tr->Tr->Int) (res:Int) (N n:Nat) (tv:Value) (wr:World):Prop :=
 ∃(us:List Value) (rows:List (List Tr×List Tr)),mV w0.heap.size wr tv us/\lC w0 rows us/\uy rows=n/\n<=N/\Cq c rows=res/\w0.grownBy wr none
def Ov(c:Tr->Tr->Int)(k:Nat)(eg:∀args w,(callFunc k args).run prog w =.ok (.enter k args) w){w0:World}(cE:xs.length<=ca)(cG:ys.length<=cb)(hx:cK (λ_=>True) w0 xs a V)(hy:cK (λ_=>True) w0 ys b V2)
 (hcmp:∀(x y:Tr) (u v:Value) (W:World),w0.grownBy W none->bI (λ_=>True) w0 x u->bI (λ_=>True) w0 y v->x.size<=sizes xs->Calls prog k #[u,v] W λe w'=>e =.returned (.i (c x y))/\W.grownBy w' none) (hz:sizes xs<=20000000) :
 Calls prog 61 #[.slice a xs.length ca,.slice b ys.length cb,.func (.func 60) #[] #[],.func (.func k) #[] #[]] w0 λe w'=>e =.returned (.i (jk c xs ys))/\w0.grownBy w' none:=by
 generalize j:jk c xs ys=res;obtain⟨μ,hμ⟩:=mM (λn (p:Value×World)=>EI w0 c res (2*sizes xs+1) n p.1 p.2);have cI:=hx.1;have cJ:=hy.1;obtain⟨HX,HY,HC,HM,ao,cX,cY,HZ⟩:=wj hx hy hcmp hμ j cE cG hz;unfold maxLen at cI cJ;clear hx hy hcmp hμ j cE cG hz;go_enter func61,ntmps61;go_wp2_with fail;go_loopw [9] (λtv wr=>∃n,EI w0 c res (2*sizes xs+1) n tv wr) (λtv wr=>μ (tv,wr))
 case atStart =>
  refine⟨_,[wC a xs.length ca b ys.length cb],[(xs,ys)],?_,⟨⟨a,ca,V,b,cb,V2,rfl,⟨cX.out,cY.out⟩,HX.out,HY.out⟩,trivial⟩,rfl,by rw[jV];exact qv _,by rw[RV];exact ao.out,aK _⟩;exact⟨rfl,.inr ⟨_,1,_,rfl,qv _,qT _ _,qv _,ov,rfl,rfl⟩⟩
 case round =>
  obtain⟨n0,cL⟩:=hrel;obtain⟨us,rows,z,E,hn,cc,R,hg⟩:=(HM.out (u9,wr) n0 cL).1;simp only at z;have hz:=HZ.out;clear cL cI cJ
  by_cases hv:us.length=0
  .obtain⟨a0,ez,rfl⟩:=mg z hv;have ei:=E.len;have cN:rows=[]:=qd7.1 od;have j:res=0:=by rw[<-R,cN];rfl
   have HR:=jh j;have HG:=jh hg;clear z E hn cc R hg j cN ei hv ao HM HC HX HY;go_wp2_with fail;go_ret;exact Lf.lX HR.out.symm HG.out
  .have cd:us≠[]:=λe=>hv (by rw[e];rfl);have e1:=(qb4 cd).symm;generalize us.dropLast=f at e1;generalize us.getLast cd=u at e1;subst e1;obtain⟨B,r,rfl,Q,eh⟩:=E.last;obtain⟨x,y⟩:=r;obtain⟨a3,c3,V3,a4,c4,V4,rfl,⟨bd,bf⟩,ba,bb⟩:=eh;simp only at bd bf ba bb;have bh:(f++[wC a3 x.length c3 a4 y.length c4]).length=f.length+1:=by simp
   have au:=jb3 z ot;rw[bh]at au;obtain⟨g,L,rfl,I,ax⟩:=au;unfold mV at z;rw[bh]at z;have cF:=QX z;have ee:f.length<=L:=od
   obtain⟨d0,d1⟩:=zk z;have eI:f.length<=50000000:=by have h1:=E.len;have h2:=NG (B++[(x,y)]);rw[qS,yW]at h2;rw[bh,qS,yW]at h1;omega
   have cg:=ba.1;have ch:=bb.1;unfold maxLen at cg ch;obtain⟨F,H,T,U,HN,an,G,HG⟩:=wj z Q ba bb hn cc R hg;clear z E Q ba bb hn cc R hg cd hv cF bh HX HY ao
   by_cases A:x=[]\/y=[]
   .by_cases hb:x=[]/\y=[]
    .obtain⟨rfl,rfl⟩:=hb;have S:Hid (∀w,Calls prog 58 #[.i 0,.i 0] w λe w'=>e =.returned (.i 0)/\w'=w):=λw=>tT 0 0 w;have eb:Hid (∀q,∃m,m<μ (.slice (some ⟨g,0,none⟩) (f.length+1) L,wr)/\EI w0 c res (2*sizes xs+1) m (.slice (some ⟨g,0,none⟩) f.length L) (wr.drewN q)):=by
      intro q;refine⟨uy B,?_,f,B,BN (w:=wr.drewN q) F.out rfl,H.out,rfl,?_,?_,iW HG.out⟩
      .have h:=HN.out;rw[iP,jV]at h;omega
      .have h:=HN.out;have h2:=an.out;rw[iP,jV]at h;omega
      .rw[<-G.out,RX]
     clear A cg ch bd bf HC HZ hz F H T U HN an G;go_wp2_with fail
     go_quiet ((go_at_call 58;exact qd3 (S.out _)))
     go_wp2_with fail;obtain⟨m,h1,h2⟩:=eb.out _;go_roundw
     case rel=>exact⟨m,h2⟩
     case measure=>exact qf3 (HM.out _ m h2).2 h1
    .have cP:=RU c B x y A hb;have j:gP (x.length:Nat) (y.length:Nat)=res:=by rw[<-cP];exact G.out
     have cM:¬res=0:=by
      rw[<-j];rcases A with rfl|rfl
      .have : 0<y.length:=je7.2 (λe=>hb ⟨rfl,e⟩);rw[gP,if_pos oB];decide
      .have : 0<x.length:=je7.2 (λe=>hb ⟨e,rfl⟩);rw[gP,if_neg ot,if_pos oB];decide
     have z1:(res==0)=false:=by simpa using cM
     have z2:(res != 0)=true:=by simpa using cM
     have S:Hid (∀w,Calls prog 58 #[.i (x.length:Nat),.i (y.length:Nat)] w λe w'=>e =.returned (.i res)/\w'=w):=λw=>by rw[<-j];exact tT _ _ w
     clear cP j bd bf HC HZ hz F H T U HN an G
     by_cases cf:x.length=0
     .have cT:(x.length:Int)=0:=by omega
      have ey:=jh cT;rw[cT]at S;clear cf A hb;go_wp2_with fail
      go_quiet ((go_at_call 58;exact qd3 (S.out _)))
      go_wp2_with fail;go_ret;exact Lf.lX rfl (iW HG.out)
     .have ek:y.length=0:=by
       rcases A with rfl|rfl
       .simp at cf
       .rfl
      have ej:¬(x.length:Int)=0:=od
      have eJ:((x.length:Int)==0)=false:=by rw[ud];exact ej
      have en:(y.length:Int)=0:=od
      rw[en]at S;clear A hb cf ek;go_wp2_with fail
      go_quiet ((go_at_call 58;exact qd3 (S.out _)))
      go_wp2_with fail;go_ret;exact Lf.lX rfl (iW HG.out)
   .obtain⟨x1,s,rfl⟩:∃p l,x=p::l:=by
     cases x with
     | nil=>simp at A
     | cons p l=>exact⟨p,l,rfl⟩
    obtain⟨y1,t,rfl⟩:∃p l,y=p::l:=by
     cases y with
     | nil=>simp at A
     | cons p l=>exact⟨p,l,rfl⟩
    clear A;have aE:=T.out.2.2 0 ot;have aO:=U.out.2.2 0 ot;simp only[qh2]at aE aO;obtain⟨b3,o3,rfl,_,k1,n1,a1,s1,X,br,Z,cR,e0,e1,e2,e3,e4⟩:=(T.out.2.1 0 ot).same (ni HG.out);obtain⟨N,o4,rfl,_,k2,n2,a2,s2,Y,bt,aa,cS,f0,f1,f2,f3,f4⟩:=(U.out.2.1 0 ot).same (ni HG.out);rw[cR]at aE;rw[cS]at aO;rw[qh0,qc0]at e0 e1 e2 e3 e4 f0 f1 f2 f3 f4;have ck:=jh aE;have cl:=jh aO;have cH:∀o,wr.frozen? ⟨g,o,none⟩=false:=by
     rcases F.out.2 with⟨hq,_⟩|⟨g',eu,eA,hq,q1,q2,_⟩
     .simp at hq
     .simp only[ke,qk,qb2,and_true]at hq;obtain⟨rfl,_,_⟩:=hq;intro o;simp[World.frozen?,q2]
    clear aE aO cR cS;simp only[jn]at cg ch bd bf d0 d1|-;have z1:¬((s.length:Int)+1=0):=od
    have z2:(((s.length:Int)+1)==0)=false:=by rw[ud];exact z1
    have z3:¬((t.length:Int)+1=0):=od
    have z4:(((t.length:Int)+1)==0)=false:=by rw[ud];exact z3
    have q3:b3<wr.heap.size:=kd wr _ e0;have q4:N<wr.heap.size:=kd wr _ f0;have q5:¬b3=wr.heap.size:=od
    have q6:¬N=wr.heap.size:=od
    have q7:¬N=wr.heap.size+1:=od
    have q8:¬g=wr.heap.size:=od
    have q9:¬g=wr.heap.size+1:=od
    have dn:∀d:World,wr.grownBy d none->d.cell? ⟨b3,o3,none⟩=some (.i k1):=λd h=>(qn (h.block b3 q3 ot)).trans e0;have dp:∀d:World,wr.grownBy d none->d.cell? ⟨b3,o3+1,none⟩=some (.i n1):=λd h=>(qn (h.block b3 q3 ot)).trans e1;have dq:∀d:World,wr.grownBy d none->d.cell? ⟨b3,o3+2,none⟩=some (.i a1):=λd h=>(qn (h.block b3 q3 ot)).trans e2;have dr:∀d:World,wr.grownBy d none->d.cell? ⟨b3,o3+3,none⟩=some (.string s1):=λd h=>(qn (h.block b3 q3 ot)).trans e3;have ds:∀d:World,wr.grownBy d none->d.cell? ⟨b3,o3+4,none⟩=some (.slice X br Z):=λd h=>(qn (h.block b3 q3 ot)).trans e4;have du:∀d:World,wr.grownBy d none->d.cell? ⟨N,o4,none⟩=some (.i k2):=λd h=>(qn (h.block N q4 ot)).trans f0;have dv:∀d:World,wr.grownBy d none->d.cell? ⟨N,o4+1,none⟩=some (.i n2):=λd h=>(qn (h.block N q4 ot)).trans f1;have dy:∀d:World,wr.grownBy d none->d.cell? ⟨N,o4+2,none⟩=some (.i a2):=λd h=>(qn (h.block N q4 ot)).trans f2;have dz:∀d:World,wr.grownBy d none->d.cell? ⟨N,o4+3,none⟩=some (.string s2):=λd h=>(qn (h.block N q4 ot)).trans f3;have dT:∀d:World,wr.grownBy d none->d.cell? ⟨N,o4+4,none⟩=some (.slice Y bt aa):=λd h=>(qn (h.block N q4 ot)).trans f4;have cv:∀d:World,wr.grownBy d none->d.cell? ⟨g,f.length*2,none⟩=some (.slice (some ⟨b3,o3,none⟩) (s.length+1) c3):=λd h=>(qn (h.block g ax ot)).trans d0;have cw:∀d:World,wr.grownBy d none->d.cell? ⟨g,f.length*2+1,none⟩=some (.slice (some ⟨N,o4,none⟩) (t.length+1) c4):=λd h=>(qn (h.block g ax ot)).trans d1
    go_upto_region 9 with (fail)
    go_cut [12,13] (λp q wx=>∃O P:Nat,p =.pointer (some ⟨O,0,none⟩)/\q =.pointer (some ⟨P,0,none⟩)/\wr.heap.size<=O/\wr.heap.size<=P/\wx.heap[O]?=some (.cells #[.i k1,.i n1,.i a1,.string s1,.slice X br Z] 26 (0,0))/\wx.heap[P]?=some (.cells #[.i k2,.i n2,.i a2,.string s2,.slice Y bt aa] 26 (0,0))/\wr.grownBy wx none)
    case first =>
     go_region_held3 (λw'=>wr.grownBy w' none) (first|assumption|exact fK (bM _ _)|exact fK (aK _)|exact fK (aJ (aK _) (aK _))|exact aK _|exact aJ (aK _) (aK _)) (fail)
     all_goals
      go_wp2_with fail;go_meet
      first
      | exact⟨_,_,rfl,rfl,od,od,CJ _ _ _,rX _ _ _,fK (aJ (aK _) (aK _))⟩
      | exact⟨_,_,rfl,rfl,od,od,rX _ _ _,CJ _ _ _,fK (aJ (aK _) (aK _))⟩
    case rest =>
     obtain⟨O,P,rfl,rfl,eC,eE,ab,ad,ah⟩:=hcut;have g0:=cv wc ah;have g1:=cw wc ah;have ef:∀o,wc.frozen? ⟨g,o,none⟩=false:=by intro o;have h1:=ah.block g ax ot;have h2:=cH o;simp only[World.frozen?]at h2|-;rw[h1];exact h2
     obtain⟨K,ak,aq,ar⟩:=JT (zp F.out ah (.inr oX)) (aJ HG.out ah) ab ad;have C:g≠O:=od
     have D:g≠P:=od
     clear dn dp dq dr ds du dv dy dz dT cv cw e0 e1 e2 e3 e4 f0 f1 f2 f3 f4 d0 d1 ab ad ah cH
     go_upto_region 10 with (fail)
     go_cut [] (λwx=>∃(p3 p4:Option Addr) (U3 U4:Nat->Value),cK (λ_=>True) w0 s p3 U3/\cK (λ_=>True) w0 t p4 U4/\wx.ownsRow w0.heap.size 121 2 (.slice (some ⟨g,0,none⟩) (f.length+1) L) (f.length+1) (bX (f++[wC p3 s.length (c3 - 1) p4 t.length (c4 - 1)]))/\w0.grownBy wx none/\wx.heap[O]?=some (.cells #[.i k1,.i n1,.i a1,.string s1,.slice X br Z] 26 (0,0))/\wx.heap[P]?=some (.cells #[.i k2,.i n2,.i a2,.string s2,.slice Y bt aa] 26 (0,0)))
     case first =>
      by_cases cA:c3=1
      .by_cases bx:c4=1
       .obtain rfl:s=[]:=ju od;subst cA;obtain rfl:t=[]:=ju od;subst bx
        go_region_with (fail)
        all_goals
         go_wp2_with fail;go_meet;exact⟨_,_,_,_,cK.nil _ _ _ V3,cK.nil _ _ _ V4,ji (w:=wc) K.out,fK (aX (aX ak.out I _ _ _) I _ _ _),bH (bH aq.out C.symm _) C.symm _,bH (bH ar.out D.symm _) D.symm _⟩
       .obtain rfl:s=[]:=ju od;subst cA;have cD:¬c4 - 1=0:=by omega
        go_region_with (fail)
        all_goals
         go_wp2_with fail;go_meet;exact⟨_,_,_,_,cK.nil _ _ _ V3,vG U.out,ji (w:=wc) K.out,fK (aX (aX ak.out I _ _ _) I _ _ _),bH (bH aq.out C.symm _) C.symm _,bH (bH ar.out D.symm _) D.symm _⟩
      .by_cases bx:c4=1
       .have cC:¬c3 - 1=0:=by omega
        obtain rfl:t=[]:=ju od;subst bx
        go_region_with (fail)
        all_goals
         go_wp2_with fail;go_meet;exact⟨_,_,_,_,vG T.out,cK.nil _ _ _ V4,ji (w:=wc) K.out,fK (aX (aX ak.out I _ _ _) I _ _ _),bH (bH aq.out C.symm _) C.symm _,bH (bH ar.out D.symm _) D.symm _⟩
       .have cC:¬c3 - 1=0:=by omega
        have cD:¬c4 - 1=0:=od
        go_region_with (fail)
        all_goals
         go_wp2_with fail;go_meet;exact⟨_,_,_,_,vG T.out,vG U.out,ji (w:=wc) K.out,fK (aX (aX ak.out I _ _ _) I _ _ _),bH (bH aq.out C.symm _) C.symm _,bH (bH ar.out D.symm _) D.symm _⟩
     case rest =>
      obtain⟨p3,p4,U3,U4,cx,cy,az,bz,ab,ad⟩:=hcut;obtain⟨x0,er,x2,x3,x4⟩:=bE ab;obtain⟨y0,et,y2,y3,y4⟩:=bE ad;have cQ:x1.size<=sizes xs:=by have h1:=HN.out;have h2:=an.out;rw[iP,jV]at h1;simp only[sizes]at h1;omega
      have bw:=HC.out x1 y1 _ _ wc bz ck.out cl.out cQ;unfold af at bw;obtain⟨bo,cj,de,dg,dd,cr,cu⟩:=wi bw bz cx cy az ab ad;clear bw bz cx cy az ab ad cQ K ak aq ar F;go_wp2_with fail;refine bo.out.mono ?_;rintro e J ⟨rfl,M⟩
      by_cases ae:c x1 y1=0
      .have cW:=jh ae;have cq:=jh ((M.block _ (qq.1 cr.out).1 ot).trans cr.out);have ct:=jh ((M.block _ (qq.1 cu.out).1 ot).trans cu.out);have aC:=jh (aJ cj.out M);have cm:=jh (zp dd.out M (.inr oX));clear M bo x0 er x2 x3 x4 y0 et y2 y3 y4 g0 g1 ef;rw[ae];clear ae;obtain⟨rfl,bm,W1,bk⟩:=Lh ck.out;obtain⟨rfl,bn,W2,bl⟩:=Lh cl.out;have cn:=jh bk;have cp:=jh bl;have cU:=jh bm;have cV:=jh bn;have ew:mV w0.heap.size J.drew (.slice (some ⟨g,0,none⟩) (f.length+1) L) (f++[wC p3 s.length (c3 - 1) p4 t.length (c4 - 1)]):=by
        unfold mV;rw[qS];exact cm.out
       have db:Hid (∀v' w',mV w0.heap.size w' v' ((f++[wC p3 s.length (c3 - 1) p4 t.length (c4 - 1)])++[wC X (argsN x1).length Z Y (argsN y1).length aa])->w0.grownBy w' none->∃m,m<μ (.slice (some ⟨g,0,none⟩) (f.length+1) L,wr)/\EI w0 c res (2*sizes xs+1) m v' w'):=by
        intro v' w' bj bc;have h1:=HN.out;rw[iP,jV]at h1;simp only[sizes]at h1;have h2:=QW x1;refine⟨uy (B++[(s,t)]++[((argsN x1),(argsN y1))]),?_,_,_,bj,lC.snoc ⟨X,Z,W1,Y,aa,W2,rfl,⟨cU.out,cV.out⟩,cn.out,cp.out⟩ (lC.snoc ⟨p3,c3 - 1,U3,p4,c4 - 1,U4,rfl,⟨by show s.length<=_;omega,by show t.length<=_;omega⟩,de.out,dg.out⟩ H.out),rfl,?_,?_,bc⟩
        .rw[iP,iP,jV,jV];simp only;omega
        .have h3:=an.out;rw[iP,iP,jV,jV];simp only;omega
        .rw[<-G.out,Oy c B x1 y1 s t cW.out]
       have ea:w0.heap.size<=J.heap.size:=aC.out.size;have ev:g<J.heap.size:=by have:=cm.out;exact (kp this g rfl).2
       have eo:O≠g:=od
       have ep:P≠g:=od
       have ai:∀d:World,J.grownBy d (some g)->d.heap[O]?=_:=λd h=>(h.block O (qq.1 cq.out).1 (by simpa using eo)).trans cq.out;have eK:∀d:World,J.grownBy d (some g)->d.cell? ⟨O,0,none⟩=some (.i k1):=λd h=>(bE (ai d h)).1;have eL:∀d:World,J.grownBy d (some g)->d.cell? ⟨O,1,none⟩=some (.i n1):=λd h=>(bE (ai d h)).2.1;have eM:∀d:World,J.grownBy d (some g)->d.cell? ⟨O,2,none⟩=some (.i a1):=λd h=>(bE (ai d h)).2.2.1;have eN:∀d:World,J.grownBy d (some g)->d.cell? ⟨O,3,none⟩=some (.string s1):=λd h=>(bE (ai d h)).2.2.2.1;have eR:∀d:World,J.grownBy d (some g)->d.cell? ⟨O,4,none⟩=some (.slice X (argsN x1).length Z):=λd h=>(bE (ai d h)).2.2.2.2;clear ai;have aj:∀d:World,J.grownBy d (some g)->d.heap[P]?=_:=λd h=>(h.block P (qq.1 ct.out).1 (by simpa using ep)).trans ct.out;have eS:∀d:World,J.grownBy d (some g)->d.cell? ⟨P,0,none⟩=some (.i k2):=λd h=>(bE (aj d h)).1;have eV:∀d:World,J.grownBy d (some g)->d.cell? ⟨P,1,none⟩=some (.i n2):=λd h=>(bE (aj d h)).2.1;have eW:∀d:World,J.grownBy d (some g)->d.cell? ⟨P,2,none⟩=some (.i a2):=λd h=>(bE (aj d h)).2.2.1;have fa:∀d:World,J.grownBy d (some g)->d.cell? ⟨P,3,none⟩=some (.string s2):=λd h=>(bE (aj d h)).2.2.2.1;have fc:∀d:World,J.grownBy d (some g)->d.cell? ⟨P,4,none⟩=some (.slice Y (argsN y1).length aa):=λd h=>(bE (aj d h)).2.2.2.2;clear aj;have ay:(f++[wC p3 s.length (c3 - 1) p4 t.length (c4 - 1)]).length<=100000000:=oB
       have da:=jh ay;clear bk bl bm bn ay;go_wp2_with fail;go_region_held3 (λw'=>J.grownBy w' (some g)) (first|assumption|exact fK (bM _ _)|exact fF oS (kL (aK _))) (first
        | (go_at_call 60;refine (Hg _ _ _ _ _ _ _ _).mono ?_;rintro e w' ⟨rfl,hg⟩;have hS:=fF (r:=some g) oS (kL hg);have hO:mV w0.heap.size w' (.slice (some ⟨g,0,none⟩) (f.length+1) L) (f++[wC p3 s.length (c3 - 1) p4 t.length (c4 - 1)]):=zp oS hg (.inr oX))
        | (refine XK w0.heap.size (f++[wC p3 s.length (c3 - 1) p4 t.length (c4 - 1)]) _ _ _ _ _ _ _ (.slice (some ⟨g,0,none⟩) (f.length+1) L) rfl (.tmp 95) (.tmp 103) rfl rfl rfl rfl oS (kh ea (show J.grownBy _ (some g) from by assumption).size) da.out ?_;intro v' w9 bj bc;have cz:J.grownBy w9 (some g):=fF oS bc.1;have dc:=jh bj;clear bj bc))
       all_goals
        have dk:=jh (aG aC.out cz I);clear cz;go_wp2_with fail;obtain⟨m,h1,h2⟩:=db.out _ _ dc.out dk.out;go_roundw
        case rel=>exact⟨m,h2⟩
        case measure=>exact qf3 (HM.out _ m h2).2 h1
      .have z5:(c x1 y1==0)=false:=by simpa using ae
       have z6:(c x1 y1 != 0)=true:=by simpa using ae
       have j:c x1 y1=res:=by rw[<-G.out,RY c _ x1 y1 s t ae]
       have dj:=jh j;have aC:=jh (aJ cj.out M);clear M bo j;go_wp2_with fail;go_ret;exact Lf.lX dj.out aC.out
def Mg{a b:ByteArray}(h:a.toList=b.toList):a=b:=by
 have c:a.data=b.data:=by apply Array.ext';rw[ja7,ja7]at h;exact h
 cases a;cases b;simp_all
def uK (x y:Tr):Int:=if kN x=kN y/\nN x=nN y/\pN x=pN y/\(sN x).toList=(sN y).toList then 0 else 1
def uL (x y:Va):Int:=if (x.k=y.k/\x.n=y.n/\x.a=y.a/\x.s.toList=y.s.toList)/\sameTs x.types y.types=true/\jk uK x.code y.code=0 then 0 else 1
def ent_sc2:∀args w,(callFunc 62 args).run prog w =.ok (.enter 62 args) w:=λargs w=>OK
def ent_same1g:∀args w,(callFunc 37 args).run prog w =.ok (.enter 37 args) w:=λargs w=>OK
def QP{x y:Tr}(N:bI (λ_=>True) w x u)(O:bI (λ_=>True) w y v)(W:World) :
 Calls prog 62 #[u,v] W λe w'=>e =.returned (.i (uK x y))/\W.grownBy w' none:=by
 cases N with
 | @mk l m n xs args a c J V K M Q P R I L =>
 cases O with
 | @mk o p r ys f S T t V2 z B D C E s A =>
 generalize G:uK _ _=q;have b:Hid (q=if l=o/\m=p/\n=r/\xs.toList=ys.toList then 0 else 1):=G.symm;clear G I L s A Q P R D C E K z J t M B;generalize args.length=U at *;generalize f.length=X at *;unfold af at *
 by_cases h:l=o
 case neg =>
  have F:(l==o)=false:=by simpa using h
  have H:(l != o)=true:=by simpa using h
  have d:Hid (q=1):=by show q=1;rw[b.out,if_neg (λe=>h e.1)]
  clear b;go_enter func62,ntmps62;go_wp2_with fail;go_ret;exact Lf.lX d.symm (aJ (aK _) (aK _))
 subst h
 by_cases j:m=p
 case neg =>
  have F:(m==p)=false:=by simpa using j
  have H:(m != p)=true:=by simpa using j
  have d:Hid (q=1):=by show q=1;rw[b.out,if_neg (λe=>j e.2.1)]
  clear b;go_enter func62,ntmps62;go_wp2_with fail;go_ret;exact Lf.lX d.symm (aJ (aK _) (aK _))
 subst j
 by_cases k:n=r
 case neg =>
  have F:(n==r)=false:=by simpa using k
  have H:(n != r)=true:=by simpa using k
  have d:Hid (q=1):=by show q=1;rw[b.out,if_neg (λe=>k e.2.2.1)]
  clear b;go_enter func62,ntmps62;go_wp2_with fail;go_ret;exact Lf.lX d.symm (aJ (aK _) (aK _))
 subst k
 by_cases g:xs.toList=ys.toList
 case neg =>
  have Y:¬xs.toList=ys.toList:=g;have F:(xs.toList==ys.toList)=false:=by simpa using g
  have d:Hid (q=1):=by show q=1;rw[b.out,if_neg (λe=>g e.2.2.2)]
  clear b;go_enter func62,ntmps62;go_wp2_with fail;go_ret;exact Lf.lX d.symm (aJ (aK _) (aK _))
 obtain rfl:=Mg g;have d:Hid (q=0):=by show q=0;rw[b.out,if_pos ⟨rfl,rfl,rfl,rfl⟩]
 clear b g;go_enter func62,ntmps62;go_wp2_with fail;go_ret;exact Lf.lX d.symm (aJ (aK _) (aK _))
def Fz(c:xs.length<=ca)(d:ys.length<=cb)(f:cK (λ_=>True) w xs a V)(g:cK (λ_=>True) w ys b V2)(l:sizes xs<=20000000)(W:World)(i:w.grownBy W none) :
 Calls prog 40 #[.slice a xs.length ca,.slice b ys.length cb] W λe w'=>e =.returned (.bool (decide (jk uK xs ys=0)))/\W.grownBy w' none:=by
 have H:=jh (λj (h:W.grownBy j none)=>Ov uK 62 ent_sc2 (w0:=j) c d (f.same (ni (aJ i h))) (g.same (ni (aJ i h))) (λx y u v n o f g _=>QP f g n) l);clear f g l i c d;generalize jk uK xs ys=r at *;generalize xs.length=q at *;generalize ys.length=s at *;go_enter func40,ntmps40;go_wp2_with fail;refine (H _ (bM _ _)).mono ?_;rintro e p ⟨rfl,k⟩;have m:=jh k;clear k;go_wp2_with fail;go_ret;exact Lf.kZ (by rw[qd0];simp) m
def aA.UO(h:aA ok w x v):∃b ac ta tc na nc VT VN,v=Go.Proofs.YtgfdimkbfnpepaaGreat.bg x.k x.n x.a x.s b x.args.length ac ta x.types.length tc na x.code.length nc/\(x.code.length<=nc/\x.types.length<=tc)/\dw ok w x.types ta VT/\cK ok w x.code na VN:=by
 cases h with
 | mk V VT VN g e j o l m d c f i=>exact⟨_,_,_,_,_,_,VT,VN,rfl,oS,d,c⟩
def Kn(hx:aA (λ_=>True) w x u)(hy:aA (λ_=>True) w y v)(hz:x.size<=20000000)(W:World)(Z:w.grownBy W none) :
 Calls prog 37 #[u,v] W λe w'=>e =.returned (.i (uL x y))/\W.grownBy w' none:=by
 obtain⟨N,O,U,M,T,L,VT,VN,rfl,⟨hk,_⟩,hT,hN⟩:=hx.UO;obtain⟨C,D,F,z,E,t,ae,ad,rfl,⟨K,_⟩,J,I⟩:=hy.UO;have ab:=eP x;have A:=jh (λG (h:W.grownBy G none)=>tY (ca:=M) (cb:=z) hT J od G (aJ Z h));have p:=jh (λG (h:W.grownBy G none)=>Fz (ca:=L) (cb:=t) hk K hN I od G (aJ Z h));have hR:uL x y=if (x.k=y.k/\x.n=y.n/\x.a=y.a/\x.s.toList=y.s.toList)/\sameTs x.types y.types=true/\jk uK x.code y.code=0 then 0 else 1:=rfl
 clear hx hy hT J hN I hk K hz Z ab;generalize uL x y=q at *;have d:=jh hR;clear hR;generalize sameTs x.types y.types=st at *;generalize jk uK x.code y.code=sn at *;generalize x.k=m at *;generalize y.k=yk at *;generalize x.n=o at *;generalize y.n=yn at *;generalize x.a=l at *;generalize y.a=ya at *;generalize x.s=xs at *;generalize y.s=ys at *;generalize x.args.length=X at *;generalize y.args.length=yl at *;generalize x.types.length=Y at *;generalize y.types.length=yt at *;generalize x.code.length=V at *;generalize y.code.length=yc at *;unfold bg at *
 by_cases P:m=yk
 case neg =>
  have z1:(m==yk)=false:=by simpa using P
  have z2:(m != yk)=true:=by simpa using P
  have g:Hid (q=1):=by show q=1;rw[d.out,if_neg (λe=>P e.1.1)]
  clear d A p;go_enter func37,ntmps37;go_wp2_with fail;go_ret;exact Lf.lX g.symm (aJ (aK _) (aK _))
 subst P
 by_cases Q:o=yn
 case neg =>
  have z1:(o==yn)=false:=by simpa using Q
  have z2:(o != yn)=true:=by simpa using Q
  have g:Hid (q=1):=by show q=1;rw[d.out,if_neg (λe=>Q e.1.2.1)]
  clear d A p;go_enter func37,ntmps37;go_wp2_with fail;go_ret;exact Lf.lX g.symm (aJ (aK _) (aK _))
 subst Q
 by_cases R:l=ya
 case neg =>
  have z1:(l==ya)=false:=by simpa using R
  have z2:(l != ya)=true:=by simpa using R
  have g:Hid (q=1):=by show q=1;rw[d.out,if_neg (λe=>R e.1.2.2.1)]
  clear d A p;go_enter func37,ntmps37;go_wp2_with fail;go_ret;exact Lf.lX g.symm (aJ (aK _) (aK _))
 subst R
 by_cases H:xs.toList=ys.toList
 case neg =>
  have z3:¬xs.toList=ys.toList:=H;have z1:(xs.toList==ys.toList)=false:=by simpa using H
  have g:Hid (q=1):=by show q=1;rw[d.out,if_neg (λe=>H e.1.2.2.2)]
  clear d A p;go_enter func37,ntmps37;go_wp2_with fail;go_ret;exact Lf.lX g.symm (aJ (aK _) (aK _))
 obtain rfl:=Mg H;clear H;obtain⟨f,r,j⟩:=we (aJ (aK (w:=W) (.cells #[.i m,.i o,.i l,.string xs,.slice N X O,.slice U Y M,.slice T V L] 36)) (aK (.cells #[.i m,.i o,.i l,.string xs,.slice C yl D,.slice F yt z,.slice E yc t] 36))) (CJ W (.cells #[.i m,.i o,.i l,.string xs,.slice N X O,.slice U Y M,.slice T V L] 36) (.cells #[.i m,.i o,.i l,.string xs,.slice C yl D,.slice F yt z,.slice E yc t] 36)) (qT (W.alloc (.cells #[.i m,.i o,.i l,.string xs,.slice N X O,.slice U Y M,.slice T V L] 36)) (.cells #[.i m,.i o,.i l,.string xs,.slice C yl D,.slice F yt z,.slice E yc t] 36));rw[show (W.alloc (.cells #[.i m,.i o,.i l,.string xs,.slice N X O,.slice U Y M,.slice T V L] 36)).heap.size=W.heap.size+1 from by simp]at j
 cases st with
 | false =>
  have g:Hid (q=1):=by show q=1;rw[d.out,if_neg (λe=>by have:=e.2.1;cases this)]
  clear d p;go_enter func37,ntmps37;go_wp2_with fail;refine (A _ f).mono ?_;rintro e w1 ⟨rfl,b⟩;have c:=jh (aJ f b);clear b;go_wp2_with fail;go_ret;exact Lf.lX g.symm c
 | true =>
  by_cases S:sn=0
  .subst S;have g:Hid (q=0):=by show q=0;rw[d.out,if_pos ⟨⟨rfl,rfl,rfl,rfl⟩,rfl,rfl⟩]
   rw[jf0 rfl]at p;clear d;go_enter func37,ntmps37;go_wp2_with fail;refine (A _ f).mono ?_;rintro e w1 ⟨rfl,b⟩;obtain⟨_,_,_,_,_,_,m6⟩:=cO ((b.block _ (qq.1 r).1 ot).trans r);obtain⟨_,_,_,_,_,_,r6⟩:=cO ((b.block _ (qq.1 j).1 ot).trans j);have c:=jh (aJ f b);clear b;go_wp2_with fail;refine (p _ c).mono ?_;rintro e w2 ⟨rfl,b⟩;have B:=jh (aJ c b);clear b;go_wp2_with fail;go_ret;exact Lf.lX g.symm B
  .have g:Hid (q=1):=by show q=1;rw[d.out,if_neg (λe=>S e.2.2)]
   rw[jc2 S]at p;clear d S;go_enter func37,ntmps37;go_wp2_with fail;refine (A _ f).mono ?_;rintro e w1 ⟨rfl,b⟩;obtain⟨_,_,_,_,_,_,m6⟩:=cO ((b.block _ (qq.1 r).1 ot).trans r);obtain⟨_,_,_,_,_,_,r6⟩:=cO ((b.block _ (qq.1 j).1 ot).trans j);have c:=jh (aJ f b);clear b;go_wp2_with fail;refine (p _ c).mono ?_;rintro e w2 ⟨rfl,b⟩;have B:=jh (aJ c b);clear b;go_wp2_with fail;go_ret;exact Lf.lX g.symm B
def Oo(f:aA (λ_=>True) w x u)(g:aA (λ_=>True) w y v)(J:x.size<=20000000)(W:World)(p:w.grownBy W none) :
 Calls prog 16 #[u,v] W λe w'=>e =.returned (.bool (decide (qg uL x y=0)))/\W.grownBy w' none:=by
 obtain⟨X,Z,P,s1,j,n,l,D,fE,F,s,B,z,rfl⟩:=f.bg;obtain⟨Y,n2,Q,s2,k,o,m,E,sM,G,t,C,A,rfl⟩:=g.bg;obtain⟨M,N,H⟩:=we (aA.up f p) (aA.up g p) J;have I:∀(a:World) (b c:Nat) (ca cb:Nat),W.grownBy a none->1<=ca->1<=cb->a.heap[b]?=some (.cells #[.i X,.i Z,.i P,.string s1,.slice j n l,.slice D fE F,.slice s B z] 36 (0,0))->a.heap[c]?=some (.cells #[.i Y,.i n2,.i Q,.string s2,.slice k o m,.slice E sM G,.slice t C A] 36 (0,0)) ->
  Calls prog 35 #[.slice (some ⟨b,0,none⟩) 1 ca,.slice (some ⟨c,0,none⟩) 1 cb,.func (.func 36) #[] #[],.func (.func 37) #[] #[]] a λe w'=>e =.returned (.i (qg uL x y))/\a.grownBy w' none:=by
  intro a b c ca cb d R S U V;have h:=Im uL 37 ent_same1g (w0:=a) (xs:=[x]) (ys:=[y]) (ca:=ca) (cb:=cb) R S (vF U (aA.up M d)) (vF V (aA.up N d)) (λx' y' u v O T f g q=>Kn f g (by have:=H.out;simp[vsizes]at q;omega) O T) (by have:=H.out;simp[vsizes];omega);rw[Eg]at h;exact h
 have L:=jh I;clear I f g J p;generalize qg uL x y=r at *;unfold bg at *;go_enter func16,ntmps16;go_wp2_with fail;refine (L _ _ _ 1 1 (aJ (aJ (aJ (aK _) (aK _)) (aK _)) (aK _)) (qv _) (qv _) (kH _ _ _ _ _) (xV _ _ _ _ _)).mono ?_;rintro e w1 ⟨rfl,d⟩;have K:=jh (aJ (aJ (aJ (aJ (aK _) (aK _)) (aK _)) (aK _)) d);clear d;go_wp2_with fail;go_ret;exact Lf.kZ (by rw[qd0];simp) K
open Go.RowKit
def Ij (x y:Va):Bool:=decide (qg uL x y=0)
structure En where
 self:Int
 sender:Int
 amount:Int
 balance:Int
structure Fr where
 rest:List Tr
 op:Int
 row:List Tr
 aside:List Va
structure Ma where
 paid:Int
 aO:Int
 said:Va
 st:List Va
 fr:List Fr
inductive Out where
 | stuck
 | no (e:Int) (m:Ma)
 | go (m:Ma)
def mkV (k:Int) (args:List Va):Va:=.mk k 0 0 ⟨#[]⟩ args [] []
def aW (k n:Int):Va:=.mk k n 0 ⟨#[]⟩ [] [] []
def aV (v:Va):Va:=mkV 9 [v]
def noneV:Va:=mkV 9 []
def aY (a b:Va):Va:=mkV 11 [a,b]
def di (s:ByteArray):Va:=.mk 6 0 0 s [] [] []
def aZ (b:Bool):Va:=aW 2 (if b=true then 1 else 0)
def nE (n:Int) (v:Va):Va:=.mk 12 n 0 ⟨#[]⟩ [v] [] []
def aM (a n:Int) (v:Va):Va:=.mk 15 n a ⟨#[]⟩ [v] [] []
def yN (v:Va):Bool:=decide (200<wrap64 (vsum v:Nat))
def oH (m:Ma) (l:List Va):Out:=if 20000000<vsizes l then .stuck else if l.any yN=true then .no 13 m else .go { m with st:=l++m.st }
def uH (aC:Int) (m:Ma) (k:Ma->Out):Out:=if aC<=m.paid then .no 12 m else k { m with paid:=m.paid+1 }
def dK (n:Tr) (i:Nat):Tr:=(n.args0[i]?).getD tr0
def p9 (n:Tr) (m:Ma):Out :=
 if n.p0=40 then (match m.st with
  | _::s=>.go { m with st:=s }
  | []=>.stuck)
 else if n.p0=41 then (if 1<=(dK n 0).n0 then (match m.st[(dK n 0).n0.toNat - 1]? with
  | some v=>oH m [v]
  | none=>.stuck)else .stuck)
 else if n.p0=42 then (match m.st with
  | a::b::s=>oH { m with st:=s } [b,a]
  | _=>.stuck)
 else if n.p0=43 then (if 0<=(dK n 0).n0 then (match m.st[(dK n 0).n0.toNat]? with
  | some v=>.go { m with st:=v::m.st.eraseIdx (dK n 0).n0.toNat }
  | none=>.stuck)else .stuck)
 else (match m.st with
  | v::s=>if 0<=(dK n 0).n0/\(dK n 0).n0<=s.length then .go { m with st:=s.take (dK n 0).n0.toNat++v::s.drop (dK n 0).n0.toNat } else .stuck
  | []=>.stuck)
def l8 (p:Int) (m:Ma):Out :=
 if p=54 then oH m [noneV]else match m.st with
 | []=>.stuck
 | a::s =>
  if p=46 then (match s with
   | b::s=>oH { m with st:=s } [aY a b]
   | []=>.stuck)
  else if p=48 then (match a.args with
   | x::_=>oH { m with st:=s } [x]
   | []=>.stuck)
  else if p=49 then (match a.args with
   | _::y::_=>oH { m with st:=s } [y]
   | _=>.stuck)
  else if p=50 then oH { m with st:=s } [nE 0 a]
  else if p=51 then oH { m with st:=s } [nE 1 a]
  else if p=53 then oH { m with st:=s } [aV a]
  else oH { m with st:=s } a.args
def jP (m:Ma) (k:Int) (l:List Va):Out:=if 24<l.length then .no 13 m else oH m [mkV k l]
def kz (l:List Va) (key:Va):Nat:=(l.takeWhile λx=>decide (gT (fU x) key<0)).length
def fJ (l:List Va) (key:Va):Bool:=match l[kz l key]? with
 | some x=>decide (gT (fU x) key=0)
 | none=>false
def uO (l:List Va) (key:Va) (item:List Va):List Va:=l.take (kz l key)++(item.map (aY key)++l.drop (if fJ l key=true then kz l key+1 else kz l key))
def il (p:Int) (m:Ma):Out :=
 if p=56 then oH m [mkV 10 []]else if p=61 then oH m [mkV 13 []]else match m.st with
 | []=>.stuck
 | a::s =>
  if p=59 then oH { m with st:=s } [aW 4 (a.s.size+a.args.length:Nat)]
  else match s with
  | []=>.stuck
  | b::s =>
   if p=57 then jP { m with st:=s } 10 (a::b.args)
   else if p=62 then (if risesF b.args=true then (if fJ b.args a=true then (match b.args[kz b.args a]? with
    | some x=>(match x.args with
     | _::y::_=>oH { m with st:=s } [aV y]
     | _=>.stuck)
    | none=>.stuck)else oH { m with st:=s } [noneV])else .stuck)
   else (match s with
    | c::s=>if risesF c.args=true then jP { m with st:=s } 13 (uO c.args a b.args)else .stuck
    | []=>.stuck)
def ru (p:Int) (v:Va):Nat×List Va :=
 if p=52 then (v.n.toNat,v.args)else if p=55 then (v.args.length,v.args)else if p=64 then (if v.n=1 then 0 else 1,v.args)
 else match v.args with
  | []=>(1,[])
  | x::l=>(0,[x,mkV 10 l])
def gJ (n:Tr) (m:Ma):Out:=match m.st with
 | []=>.stuck
 | v::s=>match n.args0[(ru n.p0 v).1]? with
  | none=>.stuck
  | some t=>if n.p0=52/\v.n<0 then .stuck else oH { m with st:=s,fr:=⟨t.args0,0,[],[]⟩::m.fr } (ru n.p0 v).2
def mq (n:Tr) (m:Ma):Out :=
 if n.p0=60 then (match m.st with
  | v::s=>.go { m with st:=s,fr:=⟨[],60,(dK n 0).args0,v.args⟩::m.fr }
  | []=>.stuck)
 else if n.p0=65 then .go { m with fr:=⟨[],65,(dK n 0).args0,[]⟩::m.fr }
 else if n.p0=68 then (match m.st with
  | v::s=>.go { m with st:=s,fr:=⟨(dK n 0).args0,68,[],[v]⟩::m.fr }
  | []=>.stuck)
 else if n.p0=67 then (match m.st with
  | a::b::s=>.go { m with st:=[a],fr:=⟨b.code,67,[],s.reverse⟩::m.fr }
  | _=>.stuck)
 else oH m [.mk 14 0 0 ⟨#[]⟩ [] [kreadT (dK n 0),kreadT (dK n 1)] (dK n 2).args0]
def kF (n:Int):Int×Int:=if kE n=true then (n,0)else (0,11)
def addN (a b:Int):Int×Int:=if kE a=true/\kE b=true then kF (a+b)else (0,2)
def Iu (a b:Int):Int×Int:=if kE a=true/\kE b=true then kF (a - b)else (0,2)
def mulN (a b:Int):Int×Int:=if kE a=true/\kE b=true then kF (a*b)else (0,2)
def EJ (a:Int):Int×Int:=if kE a=true then ((a.natAbs:Int),0)else (0,2)
def iU (p a b:Int):Int×Int:=if p=69 then addN a b else if p=70 then Iu a b else mulN a b
def mK (p a b:Int):Int:=if a=5\/b=5 then 5 else if p≠70/\a=4/\b=4 then 4 else 3
def oV (m:Ma) (k:Int) (r:Int×Int):Out:=if r.2=0 then oH m [aW k r.1]else .no r.2 m
def rH (a b:Int):Int×Int:=if a=5/\b=5 then (4,5)else if a=5 then (5,5)else if a=4/\b=4 then (4,4)else (3,4)
def Gu (m:Ma) (a b:Va):Out :=
 if kE a.n=true/\kE b.n=true then (if b.n=0 then oH m [noneV]
  else oH m [aV (aY (aW (rH a.k b.k).1 (a.n / b.n)) (aW (rH a.k b.k).2 (a.n % b.n)))])else .no 2 m
def gL (p:Int) (m:Ma):Out:=match m.st with
 | []=>.stuck
 | a::s =>
  if p=93 then oV { m with st:=s } 4 (EJ a.n)
  else if p=94 then oH { m with st:=s } [if a.n<0 then noneV else aV (aW 4 a.n)]
  else if p=95 then oH { m with st:=s } [aW 3 a.n]
  else match s with
  | []=>.stuck
  | b::s =>
   if p=72 then Gu { m with st:=s } a b
   else if p=70/\a.k=5 then oH { m with st:=s } [if (iU p a.n b.n).1<0 then noneV else aV (aW 5 (iU p a.n b.n).1)]
   else oV { m with st:=s } (mK p a.k b.k) (iU p a.n b.n)
def kJ (v:Va):Bool:=decide (v.n=1)
def xm (p:Int) (m:Ma):Out:=match m.st with
 | []=>.stuck
 | a::s =>
  if p=74 then oH { m with st:=s } [aZ (decide (a.n=0))]
  else if p=75 then oH { m with st:=s } [aZ (decide (a.n<0))]
  else if p=76 then oH { m with st:=s } [aZ (decide (0<a.n))]
  else if p=77 then oH { m with st:=s } [aZ (!kJ a)]
  else match s with
  | []=>.stuck
  | b::s =>
   if p=73 then oH { m with st:=s } [aW 3 (gT a b)]
   else if p=78 then oH { m with st:=s } [aZ (kJ a&&kJ b)]
   else oH { m with st:=s } [aZ (kJ a||kJ b)]
def oz (v:Va):Option ByteArray:=if dS (dR v)=0/\(encTr (dR v)).length<=199 then some ⟨(5::encTr (dR v)).toArray⟩else none
def jQ (n:Tr) (m:Ma):Out :=
 if n.p0=45 then (match jf (kreadT (dK n 0)) (dK n 1)with
  | some v=>oH m [v]
  | none=>.stuck)
 else match m.st with
 | []=>.stuck
 | a::s =>
  if n.p0=80 then (match s with
   | b::s=>if 200<a.s.size+b.s.size then .no 13 m else oH { m with st:=s } [di (a.s++b.s)]
   | []=>.stuck)
  else if n.p0=81 then (if (dR a).size<=301 then (match oz a with
   | some t=>oH { m with st:=s } [di t]
   | none=>.no 13 m)else .stuck)
  else if n.p0=82 then (match jw (kreadT (dK n 0)) a.s.toList with
   | some v=>oH { m with st:=s } [aV v]
   | none=>oH { m with st:=s } [noneV])
  else .no 10 { m with said:=a }
def iB (en:En) (p:Int) (m:Ma):Out:=match m.st with
 | []=>.stuck
 | a::s =>
  if p=84 then (match s with
   | b::s=>if b.n=0 then oH { m with st:=s } [noneV]else if (addN m.aO b.n).2=0 then oH { m with st:=s,aO:=(addN m.aO b.n).1 } [aV (aM en.self b.n a)]else .no (addN m.aO b.n).2 m
   | []=>.stuck)
  else if p=85 then (match a.args with
   | x::_=>oH { m with st:=s } [aY (aW 7 a.a) (aY x (aW 4 a.n)),a]
   | []=>.stuck)
  else if p=86 then (match s,a.args with
   | b::s,x::_=>(match b.args with
    | y::z::_=>if y.n=0\/z.n=0\/wrap64 (y.n+z.n)≠a.n then oH { m with st:=s } [noneV]else oH { m with st:=s } [aV (aY (aM a.a y.n x) (aM a.a z.n x))]
    | _=>.stuck)
   | _,_=>.stuck)
  else (match a.args with
   | y::z::_=>(match y.args,z.args with
    | u::_,v::_=>if y.a≠z.a\/Ij u v=false then oH { m with st:=s } [noneV]else if (addN y.n z.n).2=0 then oH { m with st:=s } [aV (aM y.a (addN y.n z.n).1 u)]else .no (addN y.n z.n).2 m
    | _,_=>.stuck)
   | _=>.stuck)
def iw (en:En) (n:Tr) (m:Ma):Out :=
 if n.p0=89 then oH m [aW 7 en.self]else if n.p0=90 then oH m [aW 7 en.sender]else if n.p0=91 then oH m [aW 5 en.amount]else if n.p0=92 then oH m [aW 5 en.balance]
 else match m.st with
 | v::a::t::s=>oH { m with st:=s } [.mk 8 a.n t.n ⟨#[]⟩ [v] [kreadT (dK n 0)] []]
 | _=>.stuck
def Qy (en:En) (n:Tr) (m:Ma):Out :=
 if n.p0=40\/n.p0=41\/n.p0=42\/n.p0=43\/n.p0=44 then p9 n m
 else if n.p0=46\/n.p0=47\/n.p0=48\/n.p0=49\/n.p0=50\/n.p0=51\/n.p0=53\/n.p0=54 then l8 n.p0 m
 else if n.p0=56\/n.p0=57\/n.p0=59\/n.p0=61\/n.p0=62\/n.p0=63 then il n.p0 m
 else if n.p0=52\/n.p0=55\/n.p0=58\/n.p0=64 then gJ n m
 else if n.p0=60\/n.p0=65\/n.p0=66\/n.p0=67\/n.p0=68 then mq n m
 else if n.p0=69\/n.p0=70\/n.p0=71\/n.p0=72\/n.p0=93\/n.p0=94\/n.p0=95 then gL n.p0 m
 else if n.p0=73\/n.p0=74\/n.p0=75\/n.p0=76\/n.p0=77\/n.p0=78\/n.p0=79 then xm n.p0 m
 else if n.p0=45\/n.p0=80\/n.p0=81\/n.p0=82\/n.p0=83 then jQ n m
 else if n.p0=84\/n.p0=85\/n.p0=86\/n.p0=87 then iB en n.p0 m
 else iw en n m
def Iq (en:En) (aC:Int) (n:Tr) (m:Ma):Out :=
 if n.k0=3 then .go { m with fr:=⟨n.args0,0,[],[]⟩::m.fr } else uH aC m (Qy en n)
def Bz (aC:Int) (f:Fr) (fs:List Fr) (m:Ma):Out :=
 if f.op=60 then (match f.aside with
  | x::l=>uH aC { m with st:=x::m.st,fr:=⟨f.row,60,f.row,l⟩::fs } .go
  | []=>.go { m with fr:=fs })
 else if f.op=65 then (match m.st with
  | v::s=>if kJ v=true then uH aC { m with st:=s,fr:=⟨f.row,65,f.row,f.aside⟩::fs } .go else .go { m with st:=s,fr:=fs }
  | []=>.stuck)
 else if f.op=68 then .go { m with st:=f.aside.reverse++m.st,fr:=fs }
 else if f.op=67 then .go { m with st:=m.st++f.aside.reverse,fr:=fs }
 else .go { m with fr:=fs }
def uB (en:En) (aC:Int) (m:Ma):Out:=match m.fr with
 | []=>.stuck
 | f::fs=>match f.rest with
  | []=>Bz aC f fs m
  | n::l=>Iq en aC n { m with fr:=⟨l,f.op,f.row,f.aside⟩::fs }
def fq (en:En) (aC:Int):Nat->Ma->Out
 | 0,_=>.stuck
 | N+1,m=>match m.fr with
  | []=>.go m
  | _::_=>match uB en aC m with
   | .go m'=>fq en aC N m'
   | .no e m'=>.no e m'
   | .stuck=>.stuck
