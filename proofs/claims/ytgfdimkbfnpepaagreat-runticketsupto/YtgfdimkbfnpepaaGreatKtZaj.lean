import Derived.Test.YtgfdimkbfnpepaaGreatKtZai
namespace Go.Proofs.YtgfdimkbfnpepaaGreat
set_option linter.all false
open Go.Proofs.Tryz
set_option maxRecDepth 100000
set_option maxHeartbeats 4000000
open Go.ChangeShapes Go.WideShapes Go.ChangeAt Go.RowKit
variable {ops:Array Oper}{Q:Exit->Act->bx->Prop}{xs ys:aE}{args s:ao}{H ca cb:Nat}{ok:br}{V V2:bt}{o:Oper}{a b:bj}{x:Tr}{T:Ty}{y:Va}{u v:cg}{w:bx}
def argsN:Tr->aE
 | .nd _ _ _ _ l=>l
def kN:Tr->Int
 | .nd k _ _ _ _=>k
def nN:Tr->Int
 | .nd _ n _ _ _=>n
def pN:Tr->Int
 | .nd _ _ p _ _=>p
def sN:Tr->bo
 | .nd _ _ _ s _=>s
def QW(t:Tr):t.size=sizes (argsN t)+1:=by cases t;simp[Tr.size,argsN]
mutual
def Ot (c:Tr->Tr->Int):Tr->Tr->Int
 | .nd k n p s args,y=>if c (.nd k n p s args) y≠0 then c (.nd k n p s args) y else jk c args (argsN y)
def jk (c:Tr->Tr->Int):aE->aE->Int
 | [],[]=>0
 | [],_::_=>-1
 | _::_,[]=>1
 | x::xs,y::ys=>if Ot c x y≠0 then Ot c x y else jk c xs ys
end
def L8(c:Tr->Tr->Int)(x y:Tr):Ot c x y=if c x y≠0 then c x y else jk c (argsN x) (argsN y):=by
 cases x;rw[Ot];rfl
def RS (c:Tr->Tr->Int):List (aE×aE)->Int
 | []=>0
 | r::R=>if jk c r.1 r.2≠0 then jk c r.1 r.2 else RS c R
def Cq (c:Tr->Tr->Int) (rows:List (aE×aE)):Int:=RS c rows.reverse
def mo(c:Tr->Tr->Int)(rows:List (aE×aE))(r:aE×aE):Cq c (rows++[r])=if jk c r.1 r.2≠0 then jk c r.1 r.2 else Cq c rows:=by simp[Cq,RS]
def RV(c:Tr->Tr->Int)(r:aE×aE):Cq c [r]=jk c r.1 r.2:=by
 have:=mo c [] r;rw[qe5]at this;rw[this]
 by_cases h:jk c r.1 r.2=0
 .rw[if_neg (by simpa using h),h];rfl
 .rw[if_pos h]
def RX(c:Tr->Tr->Int)(rows:List (aE×aE)):Cq c (rows++[([],[])])=Cq c rows:=by rw[mo];simp[jk]
def RU(c:Tr->Tr->Int)(rows:List (aE×aE))(x y:aE)(h:x=[]\/y=[])(f:¬(x=[]/\y=[])):Cq c (rows++[(x,y)])=gP x.length y.length:=by
 rw[mo]
 cases x with
 | nil=>cases y with
  | nil=>simp at f
  | cons b y =>
   have d:jk c [] (b::y) = -1:=by rw[jk]
   have e:gP (([]:aE).length:Nat) ((b::y).length:Nat) = -1:=by rw[gP,if_pos ot]
   rw[e];simp[d]
 | cons a x=>cases y with
  | nil =>
   have d:jk c (a::x) []=1:=by rw[jk]
   have e:gP ((a::x).length:Nat) (([]:aE).length:Nat)=1:=by rw[gP,if_neg oB,if_pos ot]
   rw[e];simp[d]
  | cons b y=>simp at h
def RY(c:Tr->Tr->Int)(rows:List (aE×aE))(x y:Tr)(xs ys:aE)(h:c x y≠0):Cq c (rows++[(x::xs,y::ys)])=c x y:=by
 have a:Ot c x y=c x y:=by rw[L8,if_pos h]
 have b:jk c (x::xs) (y::ys)=c x y:=by rw[jk,a,if_pos h]
 rw[mo];simp only[b];rw[if_pos h]
def Oy(c:Tr->Tr->Int)(rows:List (aE×aE))(x y:Tr)(xs ys:aE)(h:c x y=0):Cq c (rows++[(x::xs,y::ys)])=Cq c (rows++[(xs,ys)]++[(argsN x,argsN y)]):=by
 have b:Ot c x y=jk c (argsN x) (argsN y):=by rw[L8,if_neg (by simpa using h)]
 rw[mo,mo,mo];simp only;rw[jk,b]
 by_cases a:jk c (argsN x) (argsN y)=0
 .simp[a]
 .rw[if_pos a,if_pos a];simp[a]
def uy (rows:List (aE×aE)):Nat:=(rows.map λr=>2*sizes r.1+1).sum
def iP(a b:List (aE×aE)):uy (a++b)=uy a+uy b:=by simp[uy]
def jV(r:aE×aE):uy [r]=2*sizes r.1+1:=by simp[uy]
def NG(rows:List (aE×aE)):rows.length<=uy rows:=by
 induction rows with
 | nil=>simp
 | cons r l a=>simp only[uy,qc3,ka7,jt]at a|-;omega
def vG{b o:Nat}(h:cK (λ_=>True) w (x::xs) (some ⟨b,o,none⟩) V):cK (λ_=>True) w xs (some ⟨b,o+5,none⟩) (λi=>V (i+1)):=by
 refine⟨by have:=h.1;simp at this;omega,λi a=>?_,λi a=>?_⟩
 .have⟨t,v,l,u,k,n,p,s,m,al,q,r,c,d,f,g,j⟩:=h.2.1 (i+1) (by simpa using a);simp only[qk,qc7,and_true]at l;obtain⟨rfl,rfl⟩:=l;have e:o+(i+1)*5=o+5+i*5:=by omega
  rw[e]at c d f g j;exact⟨b,o+5,rfl,trivial,k,n,p,s,m,al,q,r,c,d,f,g,j⟩
 .have:=h.2.2 (i+1) (by simpa using a);simpa using this
def Lh{k n p:Int}{s:bo}{l c:Nat}(h:bI ok w x (af k n p s a l c)) :
 l=(argsN x).length/\(argsN x).length<=c/\∃V,cK ok w (argsN x) a V:=by
 generalize b:af k n p s a l c=u at h
 cases h with
 | mk V e g j i m d f =>
  unfold af at b;simp only[qd7,qf0,xo,kl,jd0,Value.string.injEq,true_and,and_true]at b;obtain⟨rfl,rfl,rfl,rfl,rfl,rfl,rfl⟩:=b;exact⟨rfl,oS,V,e,d,f⟩
def Hg(k n p:Int)(s:bo)(a:bj)(l c:Nat)(w:bx) :
 Calls prog 60 #[af k n p s a l c] w λe w'=>e =.returned (.slice a l c)/\cm w w' none:=by
 unfold af;go_enter func60,ntmps60;go_wp2;go_ret;exact⟨rfl,aK _⟩
def GI:(prog.info? 121).map (λi=>(i.zero,i.size,i.bytes))=some (some (.agg #[.n0,.n0]),2,48):=oA
def mV (B:Nat) (w:bx) (v:cg) (vs:bk):Prop:=w.ownsRow B 121 2 v vs.length (bX vs)
def PK (w:bx) (r:aE×aE) (u:cg):Prop:=∃a1 c1 V1 a2 c2 V2,u=wC a1 r.1.length c1 a2 r.2.length c2/\(r.1.length<=c1/\r.2.length<=c2)/\cK (λ_=>True) w r.1 a1 V1/\cK (λ_=>True) w r.2 a2 V2
def lC (w:bx):List (aE×aE)->bk->Prop
 | [],[]=>True
 | r::rows,u::us=>PK w r u/\lC w rows us
 | [],_::_=>False
 | _::_,[]=>False
def lC.len: ∀{rows:List (aE×aE)}{us:bk},lC w rows us->us.length=rows.length
 | [],[],_=>rfl
 | _::_,_::_,h=>by simp[lC.len h.2]
 | [],_::_,h=>h.elim
 | _::_,[],h=>h.elim
def lC.snoc{r:aE×aE}(a:PK w r u):∀{rows:List (aE×aE)}{us:bk},lC w rows us->lC w (rows++[r]) (us++[u])
 | [],[],_=>⟨a,trivial⟩
 | _::_,_::_,h=>⟨h.1,lC.snoc a h.2⟩
 | [],_::_,h=>h.elim
 | _::_,[],h=>h.elim
def lC.last{us:bk} : ∀{rows:List (aE×aE)},lC w rows (us++[u])->∃a r,rows=a++[r]/\lC w a us/\PK w r u:=by
 induction us with
 | nil =>
  intro rows h
  match rows,h with
  | [r],h=>exact⟨[],r,rfl,trivial,h.1⟩
  | r::g::f,h=>exact h.2.elim
  | [],h=>exact h.elim
 | cons x us d =>
  intro rows h
  match rows,h with
  | r::f,h =>
   obtain⟨a,e,rfl,b,c⟩:=d h.2;exact⟨r::a,e,rfl,⟨h.1,b⟩,c⟩
  | [],h=>exact h.elim
def Zq{rest:List Oper}{a:Act}(B:Nat)(vs:bk)(b:bj)(g d:Nat)(c:bj)(l2 e:Nat)(w0:bx)(v:cg)(f:o.guard=none)(s x:Operand)
 (ho:o.op =.call { callee:=.builtin .append,args:=#[s,x],argTypes:=#[122,122] }) (hs:a.eval s=v) (hx:a.eval x =.o H 1 1) (hH:w0.heap.size=H)
 (hown:mV B w0 v vs) (hB:B<=w0.heap.size) (hlen:vs.length<=100000000)
 (h:∀v' w',mV B w' v' (vs++[wC b g d c l2 e])->Gr w0 v w' v'->wpList prog ops Q rest (a.put o.dst v') w') :
 wpList prog ops Q (o::rest) a (w0.alloc (.cells #[.slice b g d,.slice c l2 e] 121)):=by
 subst hH;refine ed f s x 122 ho B 121 underlying122 GI rfl ov v vs.length (bX vs) hs (ue hown _) _ 1 [.slice b g d,.slice c l2 e] hx rfl (gZ.new _ _ _ _ _) ?_ ?_ ?_ ?_ ?_
 .intro u i;simp at i;rcases i with rfl|rfl<;>rfl
 .unfold maxLen;omega
 .omega
 .simp;omega
 .intro v' w' j k _;exact h v' w' (by unfold mV;rw[dx,qT];exact j) (Gr.trans (Gr.alloc (Gr.refl w0 v) _) k)
def XK{a:Act}{K:Act->bx->Prop}{E:Prop}(B:Nat)(vs:bk)(b:bj)(g d:Nat)(c:bj)(l2 e:Nat)(w0:bx)(v:cg)(f:o.guard=none)(s x:Operand)
 (ho:o.op =.call { callee:=.builtin .append,args:=#[s,x],argTypes:=#[122,122] }) (hs:a.eval s=v) (hx:a.eval x =.o H 1 1) (hH:w0.heap.size=H)
 (hown:mV B w0 v vs) (hB:B<=w0.heap.size) (hlen:vs.length<=100000000)
 (h:∀v' w',mV B w' v' (vs++[wC b g d c l2 e])->Gr w0 v w' v'->K (a.put o.dst v') w') :
 if Region.wanted o (yielded ops a.tmps)then Oper.wp prog o a (w0.alloc (.cells #[.slice b g d,.slice c l2 e] 121)) K Q else E:=by
 subst hH;refine yx f s x 122 ho B 121 underlying122 GI rfl ov v vs.length (bX vs) hs (ue hown _) _ 1 [.slice b g d,.slice c l2 e] hx rfl (gZ.new _ _ _ _ _) ?_ ?_ ?_ ?_ ?_
 .intro u i;simp at i;rcases i with rfl|rfl<;>rfl
 .unfold maxLen;omega
 .omega
 .simp;omega
 .intro v' w' j k _;exact h v' w' (by unfold mV;rw[dx,qT];exact j) (Gr.trans (Gr.alloc (Gr.refl w0 v) _) k)
def EI (w0:bx) (c:Tr->Tr->Int) (res:Int) (N n:Nat) (tv:cg) (wr:bx):Prop :=
 ∃(us:bk) (rows:List (aE×aE)),mV w0.heap.size wr tv us/\lC w0 rows us/\uy rows=n/\n<=N/\Cq c rows=res/\cm w0 wr none
def Ov(c:Tr->Tr->Int)(k:Nat)(eg:∀args w,(callFunc k args).run prog w =.ok (.enter k args) w){w0:World}(cV:xs.length<=ca)(cX:ys.length<=cb)(hx:cK (λ_=>True) w0 xs a V)(hy:cK (λ_=>True) w0 ys b V2)
 (hcmp:∀(x y:Tr) (u v:Value) (W:World),w0.grownBy W none->bI (λ_=>True) w0 x u->bI (λ_=>True) w0 y v->x.size<=sizes xs->Calls prog k #[u,v] W λe w'=>e =.returned (.i (c x y))/\W.grownBy w' none) (hz:sizes xs<=20000000) :
 Calls prog 61 #[.slice a xs.length ca,.slice b ys.length cb,.func (.func 60) #[] #[],.func (.func k) #[] #[]] w0 λe w'=>e =.returned (.i (jk c xs ys))/\w0.grownBy w' none:=by
 generalize j:jk c xs ys=res;obtain⟨μ,hμ⟩:=mM (λn (p:Value×World)=>EI w0 c res (2*sizes xs+1) n p.1 p.2);have da:=hx.1;have db:=hy.1;obtain⟨HX,HY,HC,HM,au,du,dv,HZ⟩:=wj hx hy hcmp hμ j cV cX hz;unfold maxLen at da db;clear hx hy hcmp hμ j cV cX hz;go_enter func61,ntmps61;go_wp2_with fail;go_loopw [9] (λtv wr=>∃n,EI w0 c res (2*sizes xs+1) n tv wr) (λtv wr=>μ (tv,wr))
 case atStart =>
  refine⟨_,[wC a xs.length ca b ys.length cb],[(xs,ys)],?_,⟨⟨a,ca,V,b,cb,V2,rfl,⟨du.out,dv.out⟩,HX.out,HY.out⟩,trivial⟩,rfl,by rw[jV];exact qS _,by rw[RV];exact au.out,aK _⟩;exact⟨rfl,.inr ⟨_,1,_,rfl,qS _,jj _ _,qS _,ov,rfl,rfl⟩⟩
 case round =>
  obtain⟨n0,dc⟩:=hrel;obtain⟨us,rows,z,E,hn,cv,R,hg⟩:=(HM.out (u9,wr) n0 dc).1;simp only at z;have hz:=HZ.out;clear dc da db
  by_cases hv:us.length=0
  .obtain⟨a0,fc,rfl⟩:=mg z hv;have eE:=E.len;have de:rows=[]:=jb7.1 od;have j:res=0:=by rw[<-R,de];rfl
   have HR:=jh j;have HG:=jh hg;clear z E hn cv R hg j de eE hv au HM HC HX HY;go_wp2_with fail;go_ret;exact Lf.lX HR.out.symm HG.out
  .have cw:us≠[]:=λe=>hv (by rw[e];rfl);have e1:=(qf7 cw).symm;generalize us.dropLast=f at e1;generalize us.getLast cw=u at e1;subst e1;obtain⟨B,r,rfl,Q,eC⟩:=E.last;obtain⟨x,y⟩:=r;obtain⟨a3,c3,V3,a4,c4,V4,rfl,⟨cc,cd⟩,bh,bl⟩:=eC;simp only at cc cd bh bl;have cf:(f++[wC a3 x.length c3 a4 y.length c4]).length=f.length+1:=by simp
   have az:=World.ownsRow.form z ot;rw[cf]at az;obtain⟨g,L,rfl,I,aC⟩:=az;unfold mV at z;rw[cf]at z;have cW:=QX z;have ez:f.length<=L:=od
   obtain⟨d0,d1⟩:=zk z;have fi:f.length<=50000000:=by have h1:=E.len;have h2:=NG (B++[(x,y)]);rw[qT,qa1]at h2;rw[cf,qT,qa1]at h1;omega
   have cy:=bh.1;have cz:=bl.1;unfold maxLen at cy cz;obtain⟨F,H,T,U,HN,ar,G,HG⟩:=wj z Q bh bl hn cv R hg;clear z E Q bh bl hn cv R hg cw hv cW cf HX HY au
   by_cases A:x=[]\/y=[]
   .by_cases hb:x=[]/\y=[]
    .obtain⟨rfl,rfl⟩:=hb;have S:Hid (∀w,Calls prog 58 #[.i 0,.i 0] w λe w'=>e =.returned (.i 0)/\w'=w):=λw=>tT 0 0 w;have ey:Hid (∀q,∃m,m<μ (.slice (some ⟨g,0,none⟩) (f.length+1) L,wr)/\EI w0 c res (2*sizes xs+1) m (.slice (some ⟨g,0,none⟩) f.length L) (wr.drewN q)):=by
      intro q;refine⟨uy B,?_,f,B,BN (w:=wr.drewN q) F.out rfl,H.out,rfl,?_,?_,iW HG.out⟩
      .have h:=HN.out;rw[iP,jV]at h;omega
      .have h:=HN.out;have h2:=ar.out;rw[iP,jV]at h;omega
      .rw[<-G.out,RX]
     clear A cy cz cc cd HC HZ hz F H T U HN ar G;go_wp2_with fail
     go_quiet ((go_at_call 58;exact qe7 (S.out _)))
     go_wp2_with fail;obtain⟨m,h1,h2⟩:=ey.out _;go_roundw
     case rel=>exact⟨m,h2⟩
     case measure=>exact je6 (HM.out _ m h2).2 h1
    .have dg:=RU c B x y A hb;have j:gP (x.length:Nat) (y.length:Nat)=res:=by rw[<-dg];exact G.out
     have dd:¬res=0:=by
      rw[<-j];rcases A with rfl|rfl
      .have : 0<y.length:=jd3.2 (λe=>hb ⟨rfl,e⟩);rw[gP,if_pos oB];decide
      .have : 0<x.length:=jd3.2 (λe=>hb ⟨e,rfl⟩);rw[gP,if_neg ot,if_pos oB];decide
     have z1:(res==0)=false:=by simpa using dd
     have z2:(res != 0)=true:=by simpa using dd
     have S:Hid (∀w,Calls prog 58 #[.i (x.length:Nat),.i (y.length:Nat)] w λe w'=>e =.returned (.i res)/\w'=w):=λw=>by rw[<-j];exact tT _ _ w
     clear dg j cc cd HC HZ hz F H T U HN ar G
     by_cases cx:x.length=0
     .have dp:(x.length:Int)=0:=by omega
      have fa:=jh dp;rw[dp]at S;clear cx A hb;go_wp2_with fail
      go_quiet ((go_at_call 58;exact qe7 (S.out _)))
      go_wp2_with fail;go_ret;exact Lf.lX rfl (iW HG.out)
     .have eJ:y.length=0:=by
       rcases A with rfl|rfl
       .simp at cx
       .rfl
      have eI:¬(x.length:Int)=0:=od
      have fj:((x.length:Int)==0)=false:=by rw[qa5];exact eI
      have eK:(y.length:Int)=0:=od
      rw[eK]at S;clear A hb cx eJ;go_wp2_with fail
      go_quiet ((go_at_call 58;exact qe7 (S.out _)))
      go_wp2_with fail;go_ret;exact Lf.lX rfl (iW HG.out)
   .obtain⟨x1,s,rfl⟩:∃p l,x=p::l:=by
     cases x with
     | nil=>simp at A
     | cons p l=>exact⟨p,l,rfl⟩
    obtain⟨y1,t,rfl⟩:∃p l,y=p::l:=by
     cases y with
     | nil=>simp at A
     | cons p l=>exact⟨p,l,rfl⟩
    clear A;have bc:=T.out.2.2 0 ot;have bf:=U.out.2.2 0 ot;simp only[jc2]at bc bf;obtain⟨b3,o3,rfl,_,k1,n1,a1,s1,X,cq,Z,dk,e0,e1,e2,e3,e4⟩:=(T.out.2.1 0 ot).same (ni HG.out);obtain⟨N,o4,rfl,_,k2,n2,a2,s2,Y,oH,aa,dn,f0,f1,f2,f3,f4⟩:=(U.out.2.1 0 ot).same (ni HG.out);rw[dk]at bc;rw[dn]at bf;rw[jc0,qd3]at e0 e1 e2 e3 e4 f0 f1 f2 f3 f4;have cC:=jh bc;have cD:=jh bf;have cY:∀o,wr.frozen? ⟨g,o,none⟩=false:=by
     rcases F.out.2 with⟨hq,_⟩|⟨g',eS,ff,hq,q1,q2,_⟩
     .simp at hq
     .simp only[kl,qk,qc7,and_true]at hq;obtain⟨rfl,_,_⟩:=hq;intro o;simp[World.frozen?,q2]
    clear bc bf dk dn;simp only[jt]at cy cz cc cd d0 d1|-;have z1:¬((s.length:Int)+1=0):=od
    have z2:(((s.length:Int)+1)==0)=false:=by rw[qa5];exact z1
    have z3:¬((t.length:Int)+1=0):=od
    have z4:(((t.length:Int)+1)==0)=false:=by rw[qa5];exact z3
    have q3:b3<wr.heap.size:=zv wr _ e0;have q4:N<wr.heap.size:=zv wr _ f0;have q5:¬b3=wr.heap.size:=od
    have q6:¬N=wr.heap.size:=od
    have q7:¬N=wr.heap.size+1:=od
    have q8:¬g=wr.heap.size:=od
    have q9:¬g=wr.heap.size+1:=od
    have ei:∀d:World,wr.grownBy d none->d.cell? ⟨b3,o3,none⟩=some (.i k1):=λd h=>(qt (h.block b3 q3 ot)).trans e0;have ej:∀d:World,wr.grownBy d none->d.cell? ⟨b3,o3+1,none⟩=some (.i n1):=λd h=>(qt (h.block b3 q3 ot)).trans e1;have ek:∀d:World,wr.grownBy d none->d.cell? ⟨b3,o3+2,none⟩=some (.i a1):=λd h=>(qt (h.block b3 q3 ot)).trans e2;have en:∀d:World,wr.grownBy d none->d.cell? ⟨b3,o3+3,none⟩=some (.string s1):=λd h=>(qt (h.block b3 q3 ot)).trans e3;have eo:∀d:World,wr.grownBy d none->d.cell? ⟨b3,o3+4,none⟩=some (.slice X cq Z):=λd h=>(qt (h.block b3 q3 ot)).trans e4;have ep:∀d:World,wr.grownBy d none->d.cell? ⟨N,o4,none⟩=some (.i k2):=λd h=>(qt (h.block N q4 ot)).trans f0;have er:∀d:World,wr.grownBy d none->d.cell? ⟨N,o4+1,none⟩=some (.i n2):=λd h=>(qt (h.block N q4 ot)).trans f1;have et:∀d:World,wr.grownBy d none->d.cell? ⟨N,o4+2,none⟩=some (.i a2):=λd h=>(qt (h.block N q4 ot)).trans f2;have eu:∀d:World,wr.grownBy d none->d.cell? ⟨N,o4+3,none⟩=some (.string s2):=λd h=>(qt (h.block N q4 ot)).trans f3;have ev:∀d:World,wr.grownBy d none->d.cell? ⟨N,o4+4,none⟩=some (.slice Y oH aa):=λd h=>(qt (h.block N q4 ot)).trans f4;have cM:∀d:World,wr.grownBy d none->d.cell? ⟨g,f.length*2,none⟩=some (.slice (some ⟨b3,o3,none⟩) (s.length+1) c3):=λd h=>(qt (h.block g aC ot)).trans d0;have cN:∀d:World,wr.grownBy d none->d.cell? ⟨g,f.length*2+1,none⟩=some (.slice (some ⟨N,o4,none⟩) (t.length+1) c4):=λd h=>(qt (h.block g aC ot)).trans d1
    go_upto_region 9 with (fail)
    go_cut [12,13] (λp q wx=>∃O P:Nat,p =.pointer (some ⟨O,0,none⟩)/\q =.pointer (some ⟨P,0,none⟩)/\wr.heap.size<=O/\wr.heap.size<=P/\wx.heap[O]?=some (.cells #[.i k1,.i n1,.i a1,.string s1,.slice X cq Z] 26 (0,0))/\wx.heap[P]?=some (.cells #[.i k2,.i n2,.i a2,.string s2,.slice Y oH aa] 26 (0,0))/\wr.grownBy wx none)
    case first =>
     go_region_held3 (λw'=>wr.grownBy w' none) (first|assumption|exact fK (bM _ _)|exact fK (aK _)|exact fK (aJ (aK _) (aK _))|exact aK _|exact aJ (aK _) (aK _)) (fail)
     all_goals
      go_wp2_with fail;go_meet
      first
      | exact⟨_,_,rfl,rfl,od,od,CJ _ _ _,rX _ _ _,fK (aJ (aK _) (aK _))⟩
      | exact⟨_,_,rfl,rfl,od,od,rX _ _ _,CJ _ _ _,fK (aJ (aK _) (aK _))⟩
    case rest =>
     obtain⟨O,P,rfl,rfl,fg,fh,ab,ad,ah⟩:=hcut;have g0:=cM wc ah;have g1:=cN wc ah;have eA:∀o,wc.frozen? ⟨g,o,none⟩=false:=by intro o;have h1:=ah.block g aC ot;have h2:=cY o;simp only[World.frozen?]at h2|-;rw[h1];exact h2
     obtain⟨K,aq,ax,ay⟩:=JT (yq F.out ah (.inr oT)) (aJ HG.out ah) ab ad;have C:g≠O:=od
     have D:g≠P:=od
     clear ei ej ek en eo ep er et eu ev cM cN e0 e1 e2 e3 e4 f0 f1 f2 f3 f4 d0 d1 ab ad ah cY
     go_upto_region 10 with (fail)
     go_cut [] (λwx=>∃(p3 p4:Option Addr) (U3 U4:Nat->Value),cK (λ_=>True) w0 s p3 U3/\cK (λ_=>True) w0 t p4 U4/\wx.ownsRow w0.heap.size 121 2 (.slice (some ⟨g,0,none⟩) (f.length+1) L) (f.length+1) (bX (f++[wC p3 s.length (c3 - 1) p4 t.length (c4 - 1)]))/\w0.grownBy wx none/\wx.heap[O]?=some (.cells #[.i k1,.i n1,.i a1,.string s1,.slice X cq Z] 26 (0,0))/\wx.heap[P]?=some (.cells #[.i k2,.i n2,.i a2,.string s2,.slice Y oH aa] 26 (0,0)))
     case first =>
      by_cases cS:c3=1
      .by_cases ct:c4=1
       .obtain rfl:s=[]:=jx od;subst cS;obtain rfl:t=[]:=jx od;subst ct
        go_region_with (fail)
        all_goals
         go_wp2_with fail;go_meet;exact⟨_,_,_,_,cK.nil _ _ _ V3,cK.nil _ _ _ V4,ji (w:=wc) K.out,fK (aX (aX aq.out I _ _ _) I _ _ _),bH (bH ax.out C.symm _) C.symm _,bH (bH ay.out D.symm _) D.symm _⟩
       .obtain rfl:s=[]:=jx od;subst cS;have cU:¬c4 - 1=0:=by omega
        go_region_with (fail)
        all_goals
         go_wp2_with fail;go_meet;exact⟨_,_,_,_,cK.nil _ _ _ V3,vG U.out,ji (w:=wc) K.out,fK (aX (aX aq.out I _ _ _) I _ _ _),bH (bH ax.out C.symm _) C.symm _,bH (bH ay.out D.symm _) D.symm _⟩
      .by_cases ct:c4=1
       .have cT:¬c3 - 1=0:=by omega
        obtain rfl:t=[]:=jx od;subst ct
        go_region_with (fail)
        all_goals
         go_wp2_with fail;go_meet;exact⟨_,_,_,_,vG T.out,cK.nil _ _ _ V4,ji (w:=wc) K.out,fK (aX (aX aq.out I _ _ _) I _ _ _),bH (bH ax.out C.symm _) C.symm _,bH (bH ay.out D.symm _) D.symm _⟩
       .have cT:¬c3 - 1=0:=by omega
        have cU:¬c4 - 1=0:=od
        go_region_with (fail)
        all_goals
         go_wp2_with fail;go_meet;exact⟨_,_,_,_,vG T.out,vG U.out,ji (w:=wc) K.out,fK (aX (aX aq.out I _ _ _) I _ _ _),bH (bH ax.out C.symm _) C.symm _,bH (bH ay.out D.symm _) D.symm _⟩
     case rest =>
      obtain⟨p3,p4,U3,U4,cP,cQ,ba,cu,ab,ad⟩:=hcut;obtain⟨x0,eN,x2,x3,x4⟩:=bE ab;obtain⟨y0,eR,y2,y3,y4⟩:=bE ad;have dj:x1.size<=sizes xs:=by have h1:=HN.out;have h2:=ar.out;rw[iP,jV]at h1;simp only[sizes]at h1;omega
      have cr:=HC.out x1 y1 _ _ wc cu cC.out cD.out dj;unfold af at cr;obtain⟨cp,cA,eb,ee,ea,cI,cL⟩:=wi cr cu cP cQ ba ab ad;clear cr cu cP cQ ba ab ad dj K aq ax ay F;go_wp2_with fail;refine cp.out.mono ?_;rintro e J ⟨rfl,M⟩
      by_cases ae:c x1 y1=0
      .have ds:=jh ae;have cH:=jh ((M.block _ (qq.1 cI.out).1 ot).trans cI.out);have cJ:=jh ((M.block _ (qq.1 cL.out).1 ot).trans cL.out);have bb:=jh (aJ cA.out M);have cE:=jh (yq ea.out M (.inr oT));clear M cp x0 eN x2 x3 x4 y0 eR y2 y3 y4 g0 g1 eA;rw[ae];clear ae;obtain⟨rfl,cl,W1,cj⟩:=Lh cC.out;obtain⟨rfl,cn,W2,ck⟩:=Lh cD.out;have cF:=jh cj;have cG:=jh ck;have dq:=jh cl;have dr:=jh cn;have eW:mV w0.heap.size J.drew (.slice (some ⟨g,0,none⟩) (f.length+1) L) (f++[wC p3 s.length (c3 - 1) p4 t.length (c4 - 1)]):=by
        unfold mV;rw[qT];exact cE.out
       have dz:Hid (∀v' w',mV w0.heap.size w' v' ((f++[wC p3 s.length (c3 - 1) p4 t.length (c4 - 1)])++[wC X (argsN x1).length Z Y (argsN y1).length aa])->w0.grownBy w' none->∃m,m<μ (.slice (some ⟨g,0,none⟩) (f.length+1) L,wr)/\EI w0 c res (2*sizes xs+1) m v' w'):=by
        intro v' w' ch bm;have h1:=HN.out;rw[iP,jV]at h1;simp only[sizes]at h1;have h2:=QW x1;refine⟨uy (B++[(s,t)]++[((argsN x1),(argsN y1))]),?_,_,_,ch,lC.snoc ⟨X,Z,W1,Y,aa,W2,rfl,⟨dq.out,dr.out⟩,cF.out,cG.out⟩ (lC.snoc ⟨p3,c3 - 1,U3,p4,c4 - 1,U4,rfl,⟨by show s.length<=_;omega,by show t.length<=_;omega⟩,eb.out,ee.out⟩ H.out),rfl,?_,?_,bm⟩
        .rw[iP,iP,jV,jV];simp only;omega
        .have h3:=ar.out;rw[iP,iP,jV,jV];simp only;omega
        .rw[<-G.out,Oy c B x1 y1 s t ds.out]
       have ew:w0.heap.size<=J.heap.size:=bb.out.size;have eV:g<J.heap.size:=by have:=cE.out;exact (zp this g rfl).2
       have eL:O≠g:=od
       have eM:P≠g:=od
       have ai:∀d:World,J.grownBy d (some g)->d.heap[O]?=_:=λd h=>(h.block O (qq.1 cH.out).1 (by simpa using eL)).trans cH.out;have fk:∀d:World,J.grownBy d (some g)->d.cell? ⟨O,0,none⟩=some (.i k1):=λd h=>(bE (ai d h)).1;have fl:∀d:World,J.grownBy d (some g)->d.cell? ⟨O,1,none⟩=some (.i n1):=λd h=>(bE (ai d h)).2.1;have fp:∀d:World,J.grownBy d (some g)->d.cell? ⟨O,2,none⟩=some (.i a1):=λd h=>(bE (ai d h)).2.2.1;have fr:∀d:World,J.grownBy d (some g)->d.cell? ⟨O,3,none⟩=some (.string s1):=λd h=>(bE (ai d h)).2.2.2.1;have fs:∀d:World,J.grownBy d (some g)->d.cell? ⟨O,4,none⟩=some (.slice X (argsN x1).length Z):=λd h=>(bE (ai d h)).2.2.2.2;clear ai;have aj:∀d:World,J.grownBy d (some g)->d.heap[P]?=_:=λd h=>(h.block P (qq.1 cJ.out).1 (by simpa using eM)).trans cJ.out;have ft:∀d:World,J.grownBy d (some g)->d.cell? ⟨P,0,none⟩=some (.i k2):=λd h=>(bE (aj d h)).1;have fv:∀d:World,J.grownBy d (some g)->d.cell? ⟨P,1,none⟩=some (.i n2):=λd h=>(bE (aj d h)).2.1;have fx:∀d:World,J.grownBy d (some g)->d.cell? ⟨P,2,none⟩=some (.i a2):=λd h=>(bE (aj d h)).2.2.1;have fy:∀d:World,J.grownBy d (some g)->d.cell? ⟨P,3,none⟩=some (.string s2):=λd h=>(bE (aj d h)).2.2.2.1;have fz:∀d:World,J.grownBy d (some g)->d.cell? ⟨P,4,none⟩=some (.slice Y (argsN y1).length aa):=λd h=>(bE (aj d h)).2.2.2.2;clear aj;have aO:(f++[wC p3 s.length (c3 - 1) p4 t.length (c4 - 1)]).length<=100000000:=oB
       have dy:=jh aO;clear cj ck cl cn aO;go_wp2_with fail;go_region_held3 (λw'=>J.grownBy w' (some g)) (first|assumption|exact fK (bM _ _)|exact fF oS (kL (aK _))) (first
        | (go_at_call 60;refine (Hg _ _ _ _ _ _ _ _).mono ?_;rintro e w' ⟨rfl,hg⟩;have hS:=fF (r:=some g) oS (kL hg);have hO:mV w0.heap.size w' (.slice (some ⟨g,0,none⟩) (f.length+1) L) (f++[wC p3 s.length (c3 - 1) p4 t.length (c4 - 1)]):=yq oS hg (.inr oT))
        | (refine XK w0.heap.size (f++[wC p3 s.length (c3 - 1) p4 t.length (c4 - 1)]) _ _ _ _ _ _ _ (.slice (some ⟨g,0,none⟩) (f.length+1) L) rfl (.tmp 95) (.tmp 103) rfl rfl rfl rfl oS (km ew (show J.grownBy _ (some g) from by assumption).size) dy.out ?_;intro v' w9 ch bm;have cR:J.grownBy w9 (some g):=fF oS bm.1;have dT:=jh ch;clear ch bm))
       all_goals
        have eh:=jh (aG bb.out cR I);clear cR;go_wp2_with fail;obtain⟨m,h1,h2⟩:=dz.out _ _ dT.out eh.out;go_roundw
        case rel=>exact⟨m,h2⟩
        case measure=>exact je6 (HM.out _ m h2).2 h1
      .have z5:(c x1 y1==0)=false:=by simpa using ae
       have z6:(c x1 y1 != 0)=true:=by simpa using ae
       have j:c x1 y1=res:=by rw[<-G.out,RY c _ x1 y1 s t ae]
       have ef:=jh j;have bb:=jh (aJ cA.out M);clear M cp j;go_wp2_with fail;go_ret;exact Lf.lX ef.out bb.out
def Mg{a b:bo}(h:a.toList=b.toList):a=b:=by
 have c:a.data=b.data:=by apply Array.ext';rw[jc4,jc4]at h;exact h
 cases a;cases b;simp_all
def uK (x y:Tr):Int:=if kN x=kN y/\nN x=nN y/\pN x=pN y/\(sN x).toList=(sN y).toList then 0 else 1
def uL (x y:Va):Int:=if (x.k=y.k/\x.n=y.n/\x.a=y.a/\x.s.toList=y.s.toList)/\sameTs x.types y.types/\jk uK x.code y.code=0 then 0 else 1
def ent_sc2:∀args w,(callFunc 62 args).run prog w =.ok (.enter 62 args) w:=λargs w=>OK
def ent_same1g:∀args w,(callFunc 37 args).run prog w =.ok (.enter 37 args) w:=λargs w=>OK
def QP{y:Tr}(M:bI (λ_=>True) w x u)(N:bI (λ_=>True) w y v)(W:bx) :
 Calls prog 62 #[u,v] W λe w'=>e =.returned (.i (uK x y))/\cm W w' none:=by
 cases M with
 | @mk l m n xs args a c hk V J L P O Q I K =>
 cases N with
 | @mk o p r ys f R S t V2 z B D C E s A =>
 generalize G:uK _ _=q;have b:Hid (q=if l=o/\m=p/\n=r/\xs.toList=ys.toList then 0 else 1):=G.symm;clear G I K s A P O Q D C E J z hk t L B;generalize args.length=T at *;generalize f.length=U at *;unfold af at *
 by_cases h:l=o
 case neg =>
  have F:(l==o)=false:=by simpa using h
  have H:(l != o):=by simpa using h
  have d:Hid (q=1):=by show q=1;rw[b.out,if_neg (λe=>h e.1)]
  clear b;go_enter func62,ntmps62;go_wp2;go_ret;exact Lf.lX d.symm (aJ (aK _) (aK _))
 subst h
 by_cases j:m=p
 case neg =>
  have F:(m==p)=false:=by simpa using j
  have H:(m != p):=by simpa using j
  have d:Hid (q=1):=by show q=1;rw[b.out,if_neg (λe=>j e.2.1)]
  clear b;go_enter func62,ntmps62;go_wp2;go_ret;exact Lf.lX d.symm (aJ (aK _) (aK _))
 subst j
 by_cases k:n=r
 case neg =>
  have F:(n==r)=false:=by simpa using k
  have H:(n != r):=by simpa using k
  have d:Hid (q=1):=by show q=1;rw[b.out,if_neg (λe=>k e.2.2.1)]
  clear b;go_enter func62,ntmps62;go_wp2;go_ret;exact Lf.lX d.symm (aJ (aK _) (aK _))
 subst k
 by_cases g:xs.toList=ys.toList
 case neg =>
  have X:¬xs.toList=ys.toList:=g;have F:(xs.toList==ys.toList)=false:=by simpa using g
  have d:Hid (q=1):=by show q=1;rw[b.out,if_neg (λe=>g e.2.2.2)]
  clear b;go_enter func62,ntmps62;go_wp2;go_ret;exact Lf.lX d.symm (aJ (aK _) (aK _))
 obtain rfl:=Mg g;have d:Hid (q=0):=by show q=0;rw[b.out,if_pos ⟨rfl,rfl,rfl,rfl⟩]
 clear b g;go_enter func62,ntmps62;go_wp2;go_ret;exact Lf.lX d.symm (aJ (aK _) (aK _))
def Fz(c:xs.length<=ca)(d:ys.length<=cb)(f:cK (λ_=>True) w xs a V)(g:cK (λ_=>True) w ys b V2)(l:sizes xs<=20000000)(W:bx)(i:cm w W none) :
 Calls prog 40 #[.slice a xs.length ca,.slice b ys.length cb] W λe w'=>e =.returned (.bool (decide (jk uK xs ys=0)))/\cm W w' none:=by
 have H:=jh (λj (h:cm W j none)=>Ov uK 62 ent_sc2 (w0:=j) c d (f.same (ni (aJ i h))) (g.same (ni (aJ i h))) (λx y u v n o f g _=>QP f g n) l);clear f g l i c d;generalize jk uK xs ys=r at *;generalize xs.length=q at *;generalize ys.length=s at *;go_enter func40,ntmps40;go_wp2_with fail;refine (H _ (bM _ _)).mono ?_;rintro e p ⟨rfl,k⟩;have m:=jh k;clear k;go_wp2;go_ret;exact Lf.kZ (by rw[qd5];simp) m
def aA.EN{x:Va}(h:aA ok w x v):∃b ac ta tc na nc VT VN,v=Go.Proofs.YtgfdimkbfnpepaaGreat.bg x.k x.n x.a x.s b x.args.length ac ta x.types.length tc na x.code.length nc/\(x.code.length<=nc/\x.types.length<=tc)/\dw ok w x.types ta VT/\cK ok w x.code na VN:=by
 cases h with
 | mk V VT VN f d i m j l c hN e g=>exact⟨_,_,_,_,_,_,VT,VN,rfl,oS,c,hN⟩
def Kn{x:Va}(hx:aA (λ_=>True) w x u)(hy:aA (λ_=>True) w y v)(hz:x.size<=20000000)(W:bx)(Z:cm w W none) :
 Calls prog 37 #[u,v] W λe w'=>e =.returned (.i (uL x y))/\cm W w' none:=by
 obtain⟨N,O,U,M,T,L,VT,VN,rfl,⟨hk,_⟩,hT,hN⟩:=hx.EN;obtain⟨C,D,F,z,E,t,ae,ad,rfl,⟨K,_⟩,J,I⟩:=hy.EN;have ab:=eP x;have A:=jh (λG (h:cm W G none)=>tY (ca:=M) (cb:=z) hT J od G (aJ Z h));have p:=jh (λG (h:cm W G none)=>Fz (ca:=L) (cb:=t) hk K hN I od G (aJ Z h));have hR:uL x y=if (x.k=y.k/\x.n=y.n/\x.a=y.a/\x.s.toList=y.s.toList)/\sameTs x.types y.types/\jk uK x.code y.code=0 then 0 else 1:=rfl
 clear hx hy hT J hN I hk K hz Z ab;generalize uL x y=q at *;have d:=jh hR;clear hR;generalize sameTs x.types y.types=st at *;generalize jk uK x.code y.code=sn at *;generalize x.k=m at *;generalize y.k=yk at *;generalize x.n=o at *;generalize y.n=yn at *;generalize x.a=l at *;generalize y.a=ya at *;generalize x.s=xs at *;generalize y.s=ys at *;generalize x.args.length=X at *;generalize y.args.length=yl at *;generalize x.types.length=Y at *;generalize y.types.length=yt at *;generalize x.code.length=V at *;generalize y.code.length=yc at *;unfold bg at *
 by_cases P:m=yk
 case neg =>
  have z1:(m==yk)=false:=by simpa using P
  have z2:(m != yk):=by simpa using P
  have g:Hid (q=1):=by show q=1;rw[d.out,if_neg (λe=>P e.1.1)]
  clear d A p;go_enter func37,ntmps37;go_wp2;go_ret;exact Lf.lX g.symm (aJ (aK _) (aK _))
 subst P
 by_cases Q:o=yn
 case neg =>
  have z1:(o==yn)=false:=by simpa using Q
  have z2:(o != yn):=by simpa using Q
  have g:Hid (q=1):=by show q=1;rw[d.out,if_neg (λe=>Q e.1.2.1)]
  clear d A p;go_enter func37,ntmps37;go_wp2;go_ret;exact Lf.lX g.symm (aJ (aK _) (aK _))
 subst Q
 by_cases R:l=ya
 case neg =>
  have z1:(l==ya)=false:=by simpa using R
  have z2:(l != ya):=by simpa using R
  have g:Hid (q=1):=by show q=1;rw[d.out,if_neg (λe=>R e.1.2.2.1)]
  clear d A p;go_enter func37,ntmps37;go_wp2;go_ret;exact Lf.lX g.symm (aJ (aK _) (aK _))
 subst R
 by_cases H:xs.toList=ys.toList
 case neg =>
  have z3:¬xs.toList=ys.toList:=H;have z1:(xs.toList==ys.toList)=false:=by simpa using H
  have g:Hid (q=1):=by show q=1;rw[d.out,if_neg (λe=>H e.1.2.2.2)]
  clear d A p;go_enter func37,ntmps37;go_wp2;go_ret;exact Lf.lX g.symm (aJ (aK _) (aK _))
 obtain rfl:=Mg H;clear H;have⟨f,r,j⟩:=we (aJ (aK (w:=W) (.cells #[.i m,.i o,.i l,.string xs,.slice N X O,.slice U Y M,.slice T V L] 36)) (aK (.cells #[.i m,.i o,.i l,.string xs,.slice C yl D,.slice F yt z,.slice E yc t] 36))) (CJ W (.cells #[.i m,.i o,.i l,.string xs,.slice N X O,.slice U Y M,.slice T V L] 36) (.cells #[.i m,.i o,.i l,.string xs,.slice C yl D,.slice F yt z,.slice E yc t] 36)) (jj (W.alloc (.cells #[.i m,.i o,.i l,.string xs,.slice N X O,.slice U Y M,.slice T V L] 36)) (.cells #[.i m,.i o,.i l,.string xs,.slice C yl D,.slice F yt z,.slice E yc t] 36));rw[show (W.alloc (.cells #[.i m,.i o,.i l,.string xs,.slice N X O,.slice U Y M,.slice T V L] 36)).heap.size=W.heap.size+1 from by simp]at j
 cases st with
 | false =>
  have g:Hid (q=1):=by show q=1;rw[d.out,if_neg (λe=>by have:=e.2.1;cases this)]
  clear d p;go_enter func37,ntmps37;go_wp2_with fail;refine (A _ f).mono ?_;rintro e w1 ⟨rfl,b⟩;have c:=jh (aJ f b);clear b;go_wp2;go_ret;exact Lf.lX g.symm c
 | true =>
  by_cases S:sn=0
  .subst S;have g:Hid (q=0):=by show q=0;rw[d.out,if_pos ⟨⟨rfl,rfl,rfl,rfl⟩,rfl,rfl⟩]
   rw[qg0 rfl]at p;clear d;go_enter func37,ntmps37;go_wp2_with fail;refine (A _ f).mono ?_;rintro e w1 ⟨rfl,b⟩;have⟨_,_,_,_,_,_,m6⟩:=cO ((b.block _ (qq.1 r).1 ot).trans r);have⟨_,_,_,_,_,_,r6⟩:=cO ((b.block _ (qq.1 j).1 ot).trans j);have c:=jh (aJ f b);clear b;go_wp2_with fail;refine (p _ c).mono ?_;rintro e w2 ⟨rfl,b⟩;have B:=jh (aJ c b);clear b;go_wp2;go_ret;exact Lf.lX g.symm B
  .have g:Hid (q=1):=by show q=1;rw[d.out,if_neg (λe=>S e.2.2)]
   rw[qa6 S]at p;clear d S;go_enter func37,ntmps37;go_wp2_with fail;refine (A _ f).mono ?_;rintro e w1 ⟨rfl,b⟩;have⟨_,_,_,_,_,_,m6⟩:=cO ((b.block _ (qq.1 r).1 ot).trans r);have⟨_,_,_,_,_,_,r6⟩:=cO ((b.block _ (qq.1 j).1 ot).trans j);have c:=jh (aJ f b);clear b;go_wp2_with fail;refine (p _ c).mono ?_;rintro e w2 ⟨rfl,b⟩;have B:=jh (aJ c b);clear b;go_wp2;go_ret;exact Lf.lX g.symm B
def Oo{x:Va}(f:aA (λ_=>True) w x u)(g:aA (λ_=>True) w y v)(I:x.size<=20000000)(W:bx)(o:cm w W none) :
 Calls prog 16 #[u,v] W λe w'=>e =.returned (.bool (decide (qg uL x y=0)))/\cm W w' none:=by
 obtain⟨V,Y,O,s1,j,n,l,C,fE,E,q,A,t,rfl⟩:=f.bg;obtain⟨X,Z,P,s2,k,oH,m,D,sM,F,s,B,z,rfl⟩:=g.bg;have⟨L,M,G⟩:=we (aA.up f o) (aA.up g o) I;have H:∀(a:bx) (b c:Nat) (ca cb:Nat),cm W a none->1<=ca->1<=cb->a.heap[b]?=some (.cells #[.i V,.i Y,.i O,.string s1,.slice j n l,.slice C fE E,.slice q A t] 36 (0,0))->a.heap[c]?=some (.cells #[.i X,.i Z,.i P,.string s2,.slice k oH m,.slice D sM F,.slice s B z] 36 (0,0)) ->
  Calls prog 35 #[.o b 1 ca,.o c 1 cb,.func (.func 36) #[] #[],.func (.func 37) #[] #[]] a λe w'=>e =.returned (.i (qg uL x y))/\cm a w' none:=by
  intro a b c ca cb d Q R T U;have h:=Im uL 37 ent_same1g (w0:=a) (xs:=[x]) (ys:=[y]) (ca:=ca) (cb:=cb) Q R (vF T (aA.up L d)) (vF U (aA.up M d)) (λx' y' u v N S f g p=>Kn f g (by have:=G.out;simp[vsizes]at p;omega) N S) (by have:=G.out;simp[vsizes];omega);rw[Eg]at h;exact h
 have K:=jh H;clear H f g I o;generalize qg uL x y=r at *;unfold bg at *;go_enter func16,ntmps16;go_wp2_with fail;refine (K _ _ _ 1 1 (aJ (aJ (aJ (aK _) (aK _)) (aK _)) (aK _)) (qS _) (qS _) (kH _ _ _ _ _) (xV _ _ _ _ _)).mono ?_;rintro e w1 ⟨rfl,d⟩;have J:=jh (aJ (aJ (aJ (aJ (aK _) (aK _)) (aK _)) (aK _)) d);clear d;go_wp2;go_ret;exact Lf.kZ (by rw[qd5];simp) J
open Go.RowKit
def Ij (x y:Va):Bool:=decide (qg uL x y=0)
structure En where
 self:Int
 sender:Int
 amount:Int
 balance:Int
structure Fr where
 rest:aE
 op:Int
 row:aE
 aside:an
structure Ma where
 paid:Int
 aO:Int
 said:Va
 st:an
 fr:List Fr
inductive Out where
 | stuck
 | no (e:Int) (m:Ma)
 | go (m:Ma)
def mkV (k:Int) (args:an):Va:=.mk k 0 0 ⟨#[]⟩ args [] []
def aW (k n:Int):Va:=.mk k n 0 ⟨#[]⟩ [] [] []
def aV (v:Va):Va:=mkV 9 [v]
def noneV:Va:=mkV 9 []
def aY (a b:Va):Va:=mkV 11 [a,b]
def di (s:bo):Va:=.mk 6 0 0 s [] [] []
def aZ (b:Bool):Va:=aW 2 (if b then 1 else 0)
def nE (n:Int) (v:Va):Va:=.mk 12 n 0 ⟨#[]⟩ [v] [] []
def aM (a n:Int) (v:Va):Va:=.mk 15 n a ⟨#[]⟩ [v] [] []
def yN (v:Va):Bool:=decide (200<wrap64 (vsum v:Nat))
def bz (m:Ma) (l:an):Out:=if 20000000<vsizes l then .stuck else if l.any yN then .no 13 m else .go { m with st:=l++m.st }
def uH (aC:Int) (m:Ma) (k:Ma->Out):Out:=if aC<=m.paid then .no 12 m else k { m with paid:=m.paid+1 }
def dK (n:Tr) (i:Nat):Tr:=(n.args0[i]?).getD tr0
def p9 (n:Tr) (m:Ma):Out :=
 if n.p0=40 then (match m.st with
  | _::s=>.go { m with st:=s }
  | []=>.stuck)
 else if n.p0=41 then (if 1<=(dK n 0).n0 then (match m.st[(dK n 0).n0.toNat - 1]? with
  | some v=>bz m [v]
  | none=>.stuck)else .stuck)
 else if n.p0=42 then (match m.st with
  | a::b::s=>bz { m with st:=s } [b,a]
  | _=>.stuck)
 else if n.p0=43 then (if 0<=(dK n 0).n0 then (match m.st[(dK n 0).n0.toNat]? with
  | some v=>.go { m with st:=v::m.st.eraseIdx (dK n 0).n0.toNat }
  | none=>.stuck)else .stuck)
 else (match m.st with
  | v::s=>if 0<=(dK n 0).n0/\(dK n 0).n0<=s.length then .go { m with st:=s.take (dK n 0).n0.toNat++v::s.drop (dK n 0).n0.toNat } else .stuck
  | []=>.stuck)
def l8 (p:Int) (m:Ma):Out :=
 if p=54 then bz m [noneV]else match m.st with
 | []=>.stuck
 | a::s =>
  if p=46 then (match s with
   | b::s=>bz { m with st:=s } [aY a b]
   | []=>.stuck)
  else if p=48 then (match a.args with
   | x::_=>bz { m with st:=s } [x]
   | []=>.stuck)
  else if p=49 then (match a.args with
   | _::y::_=>bz { m with st:=s } [y]
   | _=>.stuck)
  else if p=50 then bz { m with st:=s } [nE 0 a]
  else if p=51 then bz { m with st:=s } [nE 1 a]
  else if p=53 then bz { m with st:=s } [aV a]
  else bz { m with st:=s } a.args
def jP (m:Ma) (k:Int) (l:an):Out:=if 24<l.length then .no 13 m else bz m [mkV k l]
def kz (l:an) (key:Va):Nat:=(l.takeWhile λx=>decide (gT (fU x) key<0)).length
def fJ (l:an) (key:Va):Bool:=match l[kz l key]? with
 | some x=>decide (gT (fU x) key=0)
 | none=>false
def uO (l:an) (key:Va) (item:an):an:=l.take (kz l key)++(item.map (aY key)++l.drop (if fJ l key then kz l key+1 else kz l key))
def il (p:Int) (m:Ma):Out :=
 if p=56 then bz m [mkV 10 []]else if p=61 then bz m [mkV 13 []]else match m.st with
 | []=>.stuck
 | a::s =>
  if p=59 then bz { m with st:=s } [aW 4 (a.s.size+a.args.length:Nat)]
  else match s with
  | []=>.stuck
  | b::s =>
   if p=57 then jP { m with st:=s } 10 (a::b.args)
   else if p=62 then (if risesF b.args then (if fJ b.args a then (match b.args[kz b.args a]? with
    | some x=>(match x.args with
     | _::y::_=>bz { m with st:=s } [aV y]
     | _=>.stuck)
    | none=>.stuck)else bz { m with st:=s } [noneV])else .stuck)
   else (match s with
    | c::s=>if risesF c.args then jP { m with st:=s } 13 (uO c.args a b.args)else .stuck
    | []=>.stuck)
def ru (p:Int) (v:Va):Nat×an :=
 if p=52 then (v.n.toNat,v.args)else if p=55 then (v.args.length,v.args)else if p=64 then (if v.n=1 then 0 else 1,v.args)
 else match v.args with
  | []=>(1,[])
  | x::l=>(0,[x,mkV 10 l])
def gJ (n:Tr) (m:Ma):Out:=match m.st with
 | []=>.stuck
 | v::s=>match n.args0[(ru n.p0 v).1]? with
  | none=>.stuck
  | some t=>if n.p0=52/\v.n<0 then .stuck else bz { m with st:=s,fr:=⟨t.args0,0,[],[]⟩::m.fr } (ru n.p0 v).2
def mq (n:Tr) (m:Ma):Out :=
 if n.p0=60 then (match m.st with
  | v::s=>.go { m with st:=s,fr:=⟨[],60,(dK n 0).args0,v.args⟩::m.fr }
  | []=>.stuck)
 else if n.p0=65 then .go { m with fr:=⟨[],65,(dK n 0).args0,[]⟩::m.fr }
 else if n.p0=68 then (match m.st with
  | v::s=>.go { m with st:=s,fr:=⟨(dK n 0).args0,68,[],[v]⟩::m.fr }
  | []=>.stuck)
 else if n.p0=67 then (match m.st with
  | a::b::s=>.go { m with st:=[a],fr:=⟨b.code,67,[],s.reverse⟩::m.fr }
  | _=>.stuck)
 else bz m [.mk 14 0 0 ⟨#[]⟩ [] [kreadT (dK n 0),kreadT (dK n 1)] (dK n 2).args0]
def kF (n:Int):Int×Int:=if kE n then (n,0)else (0,11)
def addN (a b:Int):Int×Int:=if kE a/\kE b then kF (a+b)else (0,2)
def Iu (a b:Int):Int×Int:=if kE a/\kE b then kF (a - b)else (0,2)
def mulN (a b:Int):Int×Int:=if kE a/\kE b then kF (a*b)else (0,2)
def EJ (a:Int):Int×Int:=if kE a then ((a.natAbs:Int),0)else (0,2)
def iU (p a b:Int):Int×Int:=if p=69 then addN a b else if p=70 then Iu a b else mulN a b
def mK (p a b:Int):Int:=if a=5\/b=5 then 5 else if p≠70/\a=4/\b=4 then 4 else 3
def oV (m:Ma) (k:Int) (r:Int×Int):Out:=if r.2=0 then bz m [aW k r.1]else .no r.2 m
def rH (a b:Int):Int×Int:=if a=5/\b=5 then (4,5)else if a=5 then (5,5)else if a=4/\b=4 then (4,4)else (3,4)
def Gu (m:Ma) (a b:Va):Out :=
 if kE a.n/\kE b.n then (if b.n=0 then bz m [noneV]
  else bz m [aV (aY (aW (rH a.k b.k).1 (a.n / b.n)) (aW (rH a.k b.k).2 (a.n % b.n)))])else .no 2 m
def gL (p:Int) (m:Ma):Out:=match m.st with
 | []=>.stuck
 | a::s =>
  if p=93 then oV { m with st:=s } 4 (EJ a.n)
  else if p=94 then bz { m with st:=s } [if a.n<0 then noneV else aV (aW 4 a.n)]
  else if p=95 then bz { m with st:=s } [aW 3 a.n]
  else match s with
  | []=>.stuck
  | b::s =>
   if p=72 then Gu { m with st:=s } a b
   else if p=70/\a.k=5 then bz { m with st:=s } [if (iU p a.n b.n).1<0 then noneV else aV (aW 5 (iU p a.n b.n).1)]
   else oV { m with st:=s } (mK p a.k b.k) (iU p a.n b.n)
def kJ (v:Va):Bool:=decide (v.n=1)
def xm (p:Int) (m:Ma):Out:=match m.st with
 | []=>.stuck
 | a::s =>
  if p=74 then bz { m with st:=s } [aZ (decide (a.n=0))]
  else if p=75 then bz { m with st:=s } [aZ (decide (a.n<0))]
  else if p=76 then bz { m with st:=s } [aZ (decide (0<a.n))]
  else if p=77 then bz { m with st:=s } [aZ (!kJ a)]
  else match s with
  | []=>.stuck
  | b::s =>
   if p=73 then bz { m with st:=s } [aW 3 (gT a b)]
   else if p=78 then bz { m with st:=s } [aZ (kJ a&&kJ b)]
   else bz { m with st:=s } [aZ (kJ a||kJ b)]
def oz (v:Va):Option bo:=if dS (dR v)=0/\(encTr (dR v)).length<=199 then some ⟨(5::encTr (dR v)).toArray⟩else none
def jQ (n:Tr) (m:Ma):Out :=
 if n.p0=45 then (match jf (kreadT (dK n 0)) (dK n 1)with
  | some v=>bz m [v]
  | none=>.stuck)
 else match m.st with
 | []=>.stuck
 | a::s =>
  if n.p0=80 then (match s with
   | b::s=>if 200<a.s.size+b.s.size then .no 13 m else bz { m with st:=s } [di (a.s++b.s)]
   | []=>.stuck)
  else if n.p0=81 then (if (dR a).size<=301 then (match oz a with
   | some t=>bz { m with st:=s } [di t]
   | none=>.no 13 m)else .stuck)
  else if n.p0=82 then (match jw (kreadT (dK n 0)) a.s.toList with
   | some v=>bz { m with st:=s } [aV v]
   | none=>bz { m with st:=s } [noneV])
  else .no 10 { m with said:=a }
def iB (en:En) (p:Int) (m:Ma):Out:=match m.st with
 | []=>.stuck
 | a::s =>
  if p=84 then (match s with
   | b::s=>if b.n=0 then bz { m with st:=s } [noneV]else if (addN m.aO b.n).2=0 then bz { m with st:=s,aO:=(addN m.aO b.n).1 } [aV (aM en.self b.n a)]else .no (addN m.aO b.n).2 m
   | []=>.stuck)
  else if p=85 then (match a.args with
   | x::_=>bz { m with st:=s } [aY (aW 7 a.a) (aY x (aW 4 a.n)),a]
   | []=>.stuck)
  else if p=86 then (match s,a.args with
   | b::s,x::_=>(match b.args with
    | y::z::_=>if y.n=0\/z.n=0\/wrap64 (y.n+z.n)≠a.n then bz { m with st:=s } [noneV]else bz { m with st:=s } [aV (aY (aM a.a y.n x) (aM a.a z.n x))]
    | _=>.stuck)
   | _,_=>.stuck)
  else (match a.args with
   | y::z::_=>(match y.args,z.args with
    | u::_,v::_=>if y.a≠z.a\/Ij u v=false then bz { m with st:=s } [noneV]else if (addN y.n z.n).2=0 then bz { m with st:=s } [aV (aM y.a (addN y.n z.n).1 u)]else .no (addN y.n z.n).2 m
    | _,_=>.stuck)
   | _=>.stuck)
def iw (en:En) (n:Tr) (m:Ma):Out :=
 if n.p0=89 then bz m [aW 7 en.self]else if n.p0=90 then bz m [aW 7 en.sender]else if n.p0=91 then bz m [aW 5 en.amount]else if n.p0=92 then bz m [aW 5 en.balance]
 else match m.st with
 | v::a::t::s=>bz { m with st:=s } [.mk 8 a.n t.n ⟨#[]⟩ [v] [kreadT (dK n 0)] []]
 | _=>.stuck
def Qy (en:En) (n:Tr) (m:Ma):Out :=
 if n.p0=40\/n.p0=41\/n.p0=42\/n.p0=43\/n.p0=44 then p9 n m
 else if n.p0=46\/n.p0=47\/n.p0=48\/n.p0=49\/n.p0=50\/n.p0=51\/n.p0=53\/n.p0=54 then l8 n.p0 m
 else if n.p0=56\/n.p0=57\/n.p0=59\/n.p0=61\/n.p0=62\/n.p0=63 then il n.p0 m
 else if n.p0=52\/n.p0=55\/n.p0=58\/n.p0=64 then gJ n m
 else if n.p0=60\/n.p0=65\/n.p0=66\/n.p0=67\/n.p0=68 then mq n m
 else if n.p0=69\/n.p0=70\/n.p0=71\/n.p0=72\/n.p0=93\/n.p0=94\/n.p0=95 then gL n.p0 m
 else if n.p0=73\/n.p0=74\/n.p0=75\/n.p0=76\/n.p0=77\/n.p0=78\/n.p0=79 then xm n.p0 m
 else if n.p0=45\/n.p0=80\/n.p0=81\/n.p0=82\/n.p0=83 then jQ n m
 else if n.p0=84\/n.p0=85\/n.p0=86\/n.p0=87 then iB en n.p0 m
 else iw en n m
def Iq (en:En) (aC:Int) (n:Tr) (m:Ma):Out :=
 if n.k0=3 then .go { m with fr:=⟨n.args0,0,[],[]⟩::m.fr } else uH aC m (Qy en n)
def Bz (aC:Int) (f:Fr) (fs:List Fr) (m:Ma):Out :=
 if f.op=60 then (match f.aside with
  | x::l=>uH aC { m with st:=x::m.st,fr:=⟨f.row,60,f.row,l⟩::fs } .go
  | []=>.go { m with fr:=fs })
 else if f.op=65 then (match m.st with
  | v::s=>if kJ v then uH aC { m with st:=s,fr:=⟨f.row,65,f.row,f.aside⟩::fs } .go else .go { m with st:=s,fr:=fs }
  | []=>.stuck)
 else if f.op=68 then .go { m with st:=f.aside.reverse++m.st,fr:=fs }
 else if f.op=67 then .go { m with st:=m.st++f.aside.reverse,fr:=fs }
 else .go { m with fr:=fs }
def uB (en:En) (aC:Int) (m:Ma):Out:=match m.fr with
 | []=>.stuck
 | f::fs=>match f.rest with
  | []=>Bz aC f fs m
  | n::l=>Iq en aC n { m with fr:=⟨l,f.op,f.row,f.aside⟩::fs }
def fq (en:En) (aC:Int):Nat->Ma->Out
 | 0,_=>.stuck
 | N+1,m=>match m.fr with
  | []=>.go m
  | _::_=>match uB en aC m with
   | .go m'=>fq en aC N m'
   | .no e m'=>.no e m'
   | .stuck=>.stuck
mutual
def xJ(d:Nat):∀(T:Ty),j5 (d+1) T->j5 d T
 | .nd t args,h=>by simp only[j5,qu,kj]at h|-;exact⟨⟨od,h.1.2⟩,vX (d+1) args h.2⟩
def vX(d:Nat):∀(l:ao),ig (d+1) l->ig d l
 | [],_=>rfl
 | T::l,h=>by simp only[ig,qu]at h|-;exact⟨xJ d T h.1,vX d l h.2⟩
end
def wF{t:Int}(h:bn (.nd t args)):args.all bn:=by
 rw[kB];intro T a;have⟨b,d,c⟩:=dE h;simp only[j5,qu,jT,kB]at b;have e:=xJ 1 T (b.2 T a);have f:keyedF T:=by simp only[keyedF,qu,uu,kB]at c;exact c.2 T a
 have g:T.size<=300:=by have:=jS a;simp only[Ty.size]at d;omega
 simp[bn,e,f,g]
def gX(h:bn T):T.args.all bn:=by have⟨t,args⟩:=T;exact wF h
def yV(h:bn (.nd 13 args)):bn (.nd 11 args):=by
 have⟨a,b,c⟩:=dE h;simp only[j5,qu,kj]at a;simp only[keyedF,qu]at c;simp only[Ty.size]at b;simp only[bn,j5,keyedF,Ty.size,qu,kj];refine⟨⟨⟨⟨a.1.1,ov,?_⟩,a.2⟩,by simpa using b⟩,?_,c.2⟩
 .have:=a.1.2.2;simpa[bT]using this
 .simp[uZ]
def um{a b:ao}(c:a.all bn)(hb:b.all bn):(a++b).all bn:=by rw[qe6,c,hb];rfl
def iI(h:s.all bn)(k:Nat):(s.drop k).all bn:=kB.2 λx a=>kB.1 h x (qh2 a)
def Dz(h:s.all bn)(k:Nat):(s.take k).all bn:=kB.2 λx a=>kB.1 h x (qe2 a)
def Bl(h:bn T)(a:T.t=13):bn (.nd 11 T.args):=by have⟨t,args⟩:=T;simp only[Ty.t]at a;subst a;exact yV h
