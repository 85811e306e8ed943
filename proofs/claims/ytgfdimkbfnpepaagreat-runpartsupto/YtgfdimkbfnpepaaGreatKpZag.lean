import Derived.Test.YtgfdimkbfnpepaaGreatKpZaf
namespace Go.Proofs.YtgfdimkbfnpepaaGreat
set_option linter.all false
open Go.Proofs.Tryz
set_option maxRecDepth 100000
set_option maxHeartbeats 4000000
open Go.ChangeShapes Go.WideShapes Go.ChangeAt Go.RowKit
variable {ops:Array Oper}{s:ByteArray}{Q:Exit->Act->World->Prop}{k:Int}{M:List (List Va)}{rest:List Oper}{l:List Va}{us xs ys:List Value}{B H b c cap g n nc nl size:Nat}{V:Nat->Value}{o:Oper}{a aa na ta:Option Addr}{T:Ty}{e:TypeId}{x:Va}{u v x0 x1 x2 x3 x4 x5 x6:Value}{W w:World}
def GJ:(prog.info? 91).map (λi=>(i.zero,i.size,i.bytes))=some (some (.agg #[.n0,.n0]),2,48):=oA
def mW (B:Nat) (w:World) (v:Value) (vs:List Value):Prop:=w.ownsRow B 91 2 v vs.length (bX vs)
def PL (w:World) (r:List Va×List Va) (u:Value):Prop:=∃a1 c1 V1 a2 c2 V2,u=wC a1 r.1.length c1 a2 r.2.length c2/\(r.1.length<=c1/\r.2.length<=c2)/\aT (λ_=>True) w r.1 a1 V1/\aT (λ_=>True) w r.2 a2 V2
def lD (w:World):List (List Va×List Va)->List Value->Prop
 | [],[]=>True
 | r::rows,u::us=>PL w r u/\lD w rows us
 | [],_::_=>False
 | _::_,[]=>False
def lD.len: ∀{rows:List (List Va×List Va)}{us:List Value},lD w rows us->us.length=rows.length
 | [],[],_=>rfl
 | _::_,_::_,h=>by simp[lD.len h.2]
 | [],_::_,h=>h.elim
 | _::_,[],h=>h.elim
def lD.snoc{r:List Va×List Va}(a:PL w r u):∀{rows:List (List Va×List Va)}{us:List Value},lD w rows us->lD w (rows++[r]) (us++[u])
 | [],[],_=>⟨a,trivial⟩
 | _::_,_::_,h=>⟨h.1,lD.snoc a h.2⟩
 | [],_::_,h=>h.elim
 | _::_,[],h=>h.elim
def lD.last: ∀{rows:List (List Va×List Va)},lD w rows (us++[u])->∃a r,rows=a++[r]/\lD w a us/\PL w r u:=by
 induction us with
 | nil =>
  intro rows h
  match rows,h with
  | [r],h=>exact⟨[],r,rfl,trivial,h.1⟩
  | r::g::f,h=>exact h.2.elim
  | [],h=>exact h.elim
 | cons x us d =>
  intro rows h
  match rows,h with
  | r::f,h =>
   obtain⟨a,e,rfl,b,c⟩:=d h.2;exact⟨r::a,e,rfl,⟨h.1,b⟩,c⟩
  | [],h=>exact h.elim
def Zr{a:Act}(B:Nat)(vs:List Value)(b:Option Addr)(g d:Nat)(c:Option Addr)(l2 e:Nat)(w0:World)(v:Value)(f:o.guard=none)(s x:Operand)
 (ho:o.op =.call { callee:=.builtin .append,args:=#[s,x],argTypes:=#[92,92] }) (hs:a.eval s=v) (hx:a.eval x =.slice (some ⟨H,0,none⟩) 1 1) (hH:w0.heap.size=H)
 (hown:mW B w0 v vs) (hB:B<=w0.heap.size) (hlen:vs.length<=100000000)
 (h:∀v' w',mW B w' v' (vs++[wC b g d c l2 e])->Gr w0 v w' v'->wpList prog ops Q rest (a.put o.dst v') w') :
 wpList prog ops Q (o::rest) a (w0.alloc (.cells #[.slice b g d,.slice c l2 e] 91)):=by
 subst hH;refine ed f s x 92 ho B 91 underlying92 GJ rfl ov v vs.length (bX vs) hs (xo hown _) _ 1 [.slice b g d,.slice c l2 e] hx rfl (gZ.new _ _ _ _ _) ?_ ?_ ?_ ?_ ?_
 .intro u i;simp at i;rcases i with rfl|rfl<;>rfl
 .unfold maxLen;omega
 .omega
 .simp;omega
 .intro v' w' j k _;exact h v' w' (by unfold mW;rw[dx,qS];exact j) (Gr.trans (Gr.alloc (Gr.refl w0 v) _) k)
def rX(w:World)(o a:Obj):((w.alloc o).alloc a).heap[w.heap.size+1]?=some a:=by have:=qT (w.alloc o) a;rwa [show (w.alloc o).heap.size=w.heap.size+1 from by simp]at this
def ji{vs:List Value}{x y k m:Value}(h:w.ownsRow B e 2 (.slice (some ⟨g,0,none⟩) (n+1) cap) (n+1) (bX (vs++[.agg #[x,y]]))) :
 ((w.setCell ⟨g,n*2,none⟩ k).setCell ⟨g,n*2+1,none⟩ m).ownsRow B e 2 (.slice (some ⟨g,0,none⟩) (n+1) cap) (n+1) (bX (vs++[.agg #[k,m]])):=by
 have v:∀p q:Value,bX [.agg #[p,q]]=[p,q]:=λp q=>by simp[bX,tyCells]
 rw[dx,v]at h|-;have u:=h.1;rw[qS]at u;simp only[jn,xT]at u;have b:(bX vs).length=n*2:=od
 refine⟨oB,?_⟩;rcases h.2 with⟨d,_⟩|⟨F,o,a,d,z,A,r,C,s,D⟩
 .simp at d
 .simp only[ke,qk,qb2,and_true,true_and]at d;obtain⟨rfl,rfl⟩:=d;have E:(n+1)*2<=a.size:=by rw[s];exact jb6 _ r
  refine .inr ⟨g,cap,(a.setIfInBounds (n*2) k).setIfInBounds (n*2+1) m,rfl,z,?_,r,C,by simpa using s,?_⟩
  .simp[World.setCell,yr,A]
  .apply List.ext_getElem?;intro j;have c:=congrArg (λl=>l[j]?) D;simp only[qc5]at c|-
   by_cases t:j<(n+1)*2
   .simp only[t,if_true]at c|-;rw[qe6]at c|-
    by_cases i:j=n*2+1
    .subst i;rw[qe1 oB,js od,b];simp
    .rw[je5 od]
     by_cases f:j=n*2
     .subst f;rw[qe1 od,js od,b];simp
     .rw[je5 od,c,jt od,jt od]
   .simp only[t,if_false];rw[jb1];simp;omega
def yw{xs:List Va}{o:Nat}(h:aT (λ_=>True) w (x::xs) (some ⟨b,o,none⟩) V):aT (λ_=>True) w xs (some ⟨b,o+7,none⟩) (λi=>V (i+1)):=by
 refine⟨by have:=h.1;simp at this;omega,λi c=>?_,λi c=>?_⟩
 .obtain⟨v,z,q,y,k,n,a,s,aa,al,r,ta,tl,u,na,nl,nc,t,d,f,g,j,l,m,p⟩:=h.2.1 (i+1) (by simpa using c);simp only[qk,qb2,and_true]at q;obtain⟨rfl,rfl⟩:=q;have e:o+(i+1)*7=o+7+i*7:=by omega
  rw[e]at d f g j l m p;exact⟨b,o+7,rfl,trivial,k,n,a,s,aa,al,r,ta,tl,u,na,nl,nc,t,d,f,g,j,l,m,p⟩
 .have:=h.2.2 (i+1) (by simpa using c);simpa using this
def Li{ok:Nat->Prop}{n a:Int}{al ac:Nat}{tl tc:Nat}(h:aA ok w x (bg k n a s aa al ac ta tl tc na nl nc)) :
 al=x.args.length/\x.args.length<=ac/\∃V,aT ok w x.args aa V:=by
 obtain⟨d,e,j,l,g,i,V,o,m,c,⟨_,_,_,_,b⟩,f,_,_⟩:=h.inv;unfold bg at c;simp only[qb3,qc1,xj,qg5,jf6,ke,true_and,and_true]at c;obtain⟨_,_,_,_,⟨rfl,rfl,rfl⟩,_⟩:=c;exact⟨rfl,b,V,f⟩
def XL{a:Act}{K:Act->World->Prop}{E:Prop}(B:Nat)(vs:List Value)(b:Option Addr)(g d:Nat)(c:Option Addr)(l2 e:Nat)(w0:World)(v:Value)(f:o.guard=none)(s x:Operand)
 (ho:o.op =.call { callee:=.builtin .append,args:=#[s,x],argTypes:=#[92,92] }) (hs:a.eval s=v) (hx:a.eval x =.slice (some ⟨H,0,none⟩) 1 1) (hH:w0.heap.size=H)
 (hown:mW B w0 v vs) (hB:B<=w0.heap.size) (hlen:vs.length<=100000000)
 (h:∀v' w',mW B w' v' (vs++[wC b g d c l2 e])->Gr w0 v w' v'->K (a.put o.dst v') w') :
 if Region.wanted o (yielded ops a.tmps)=true then Oper.wp prog o a (w0.alloc (.cells #[.slice b g d,.slice c l2 e] 91)) K Q else E:=by
 subst hH;refine yx f s x 92 ho B 91 underlying92 GJ rfl ov v vs.length (bX vs) hs (xo hown _) _ 1 [.slice b g d,.slice c l2 e] hx rfl (gZ.new _ _ _ _ _) ?_ ?_ ?_ ?_ ?_
 .intro u i;simp at i;rcases i with rfl|rfl<;>rfl
 .unfold maxLen;omega
 .omega
 .simp;omega
 .intro v' w' j k _;exact h v' w' (by unfold mW;rw[dx,qS];exact j) (Gr.trans (Gr.alloc (Gr.refl w0 v) _) k)
def La (w0:World) (c:Va->Va->Int) (res:Int) (N n:Nat) (tv:Value) (wr:World):Prop :=
 ∃(us:List Value) (rows:List (List Va×List Va)),mW w0.heap.size wr tv us/\lD w0 rows us/\leftV rows=n/\n<=N/\jL c rows=res/\w0.grownBy wr none
def Im(c:Va->Va->Int)(k:Nat)(eg:∀args w,(callFunc k args).run prog w =.ok (.enter k args) w){w0:World}{xs ys:List Va}{b:Option Addr}{ca cb:Nat}{V2:Nat->Value}(cQ:xs.length<=ca)(cS:ys.length<=cb)(hx:aT (λ_=>True) w0 xs a V)(hy:aT (λ_=>True) w0 ys b V2)
 (hcmp:∀(x y:Va) (u v:Value) (W:World),w0.grownBy W none->aA (λ_=>True) w0 x u->aA (λ_=>True) w0 y v->x.size<=vsizes xs->Calls prog k #[u,v] W λe w'=>e =.returned (.i (c x y))/\W.grownBy w' none) (hz:vsizes xs<=20000000) :
 Calls prog 35 #[.slice a xs.length ca,.slice b ys.length cb,.func (.func 36) #[] #[],.func (.func k) #[] #[]] w0 λe w'=>e =.returned (.i (eO c xs ys))/\w0.grownBy w' none:=by
 generalize j:eO c xs ys=res;obtain⟨μ,hμ⟩:=mM (λn (p:Value×World)=>La w0 c res (2*vsizes xs+1) n p.1 p.2);have cU:=hx.1;have cV:=hy.1;obtain⟨HX,HY,HC,HM,ao,dn,dp,HZ⟩:=wj hx hy hcmp hμ j cQ cS hz;unfold maxLen at cU cV;clear hx hy hcmp hμ j cQ cS hz;go_enter func35,ntmps35;go_wp2_with fail;go_loopw [9] (λtv wr=>∃n,La w0 c res (2*vsizes xs+1) n tv wr) (λtv wr=>μ (tv,wr))
 case atStart =>
  refine⟨_,[wC a xs.length ca b ys.length cb],[(xs,ys)],?_,⟨⟨a,ca,V,b,cb,V2,rfl,⟨dn.out,dp.out⟩,HX.out,HY.out⟩,trivial⟩,rfl,by rw[jW];exact qv _,by rw[Vl];exact ao.out,aK _⟩;exact⟨rfl,.inr ⟨_,1,_,rfl,qv _,qT _ _,qv _,ov,rfl,rfl⟩⟩
 case round =>
  obtain⟨n0,cW⟩:=hrel;obtain⟨us,rows,z,E,hn,cp,T,hg⟩:=(HM.out (u9,wr) n0 cW).1;simp only at z;have hz:=HZ.out;clear cW cU cV
  by_cases hv:us.length=0
  .obtain⟨a0,fa,rfl⟩:=mg z hv;have eC:=E.len;have cY:rows=[]:=qd7.1 od;have j:res=0:=by rw[<-T,cY];rfl
   have HR:=jh j;have HG:=jh hg;clear z E hn cp T hg j cY eC hv ao HM HC HX HY;go_wp2_with fail;go_ret;exact Lf.lX HR.out.symm HG.out
  .have cq:us≠[]:=λe=>hv (by rw[e];rfl);have e1:=(qb4 cq).symm;generalize us.dropLast=f at e1;generalize us.getLast cq=u at e1;subst e1;obtain⟨B,r,rfl,S,eA⟩:=E.last;obtain⟨x,y⟩:=r;obtain⟨a3,c3,V3,a4,c4,V4,rfl,⟨bd,bf⟩,ba,bb⟩:=eA;simp only at bd bf ba bb;have bh:(f++[wC a3 x.length c3 a4 y.length c4]).length=f.length+1:=by simp
   have au:=jb3 z ot;rw[bh]at au;obtain⟨g,cap,rfl,J,ax⟩:=au;unfold mW at z;rw[bh]at z;have cR:=QX z;have ey:f.length<=cap:=od
   obtain⟨d0,d1⟩:=zk z;have fh:f.length<=50000000:=by have h1:=E.len;have h2:=NI (B++[(x,y)]);rw[qS,yW]at h2;rw[bh,qS,yW]at h1;omega
   have ct:=ba.1;have cu:=bb.1;unfold maxLen at ct cu;obtain⟨G,I,X,Y,HN,an,H,HG⟩:=wj z S ba bb hn cp T hg;clear z E S ba bb hn cp T hg cq hv cR bh HX HY ao
   by_cases A:x=[]\/y=[]
   .by_cases hb:x=[]/\y=[]
    .obtain⟨rfl,rfl⟩:=hb;have U:Hid (∀w,Calls prog 58 #[.i 0,.i 0] w λe w'=>e =.returned (.i 0)/\w'=w):=λw=>tT 0 0 w;have ew:Hid (∀q,∃m,m<μ (.slice (some ⟨g,0,none⟩) (f.length+1) cap,wr)/\La w0 c res (2*vsizes xs+1) m (.slice (some ⟨g,0,none⟩) f.length cap) (wr.drewN q)):=by
      intro q;refine⟨leftV B,?_,f,B,BN (w:=wr.drewN q) G.out rfl,I.out,rfl,?_,?_,iW HG.out⟩
      .have h:=HN.out;rw[iQ,jW]at h;omega
      .have h:=HN.out;have h2:=an.out;rw[iQ,jW]at h;omega
      .rw[<-H.out,Vm]
     clear A ct cu bd bf HC HZ hz G I X Y HN an H;go_wp2_with fail
     go_quiet ((go_at_call 58;exact qd3 (U.out _)))
     go_wp2_with fail;obtain⟨m,h1,h2⟩:=ew.out _;go_roundw
     case rel=>exact⟨m,h2⟩
     case measure=>exact qf3 (HM.out _ m h2).2 h1
    .have da:=Vh c B x y A hb;have j:gP (x.length:Nat) (y.length:Nat)=res:=by rw[<-da];exact H.out
     have cX:¬res=0:=by
      rw[<-j];rcases A with rfl|rfl
      .have : 0<y.length:=je7.2 (λe=>hb ⟨rfl,e⟩);rw[gP,if_pos oB];decide
      .have : 0<x.length:=je7.2 (λe=>hb ⟨e,rfl⟩);rw[gP,if_neg ot,if_pos oB];decide
     have z1:(res==0)=false:=by simpa using cX
     have z2:(res != 0)=true:=by simpa using cX
     have U:Hid (∀w,Calls prog 58 #[.i (x.length:Nat),.i (y.length:Nat)] w λe w'=>e =.returned (.i res)/\w'=w):=λw=>by rw[<-j];exact tT _ _ w
     clear da j bd bf HC HZ hz G I X Y HN an H
     by_cases cr:x.length=0
     .have de:(x.length:Int)=0:=by omega
      have eW:=jh de;rw[de]at U;clear cr A hb;go_wp2_with fail
      go_quiet ((go_at_call 58;exact qd3 (U.out _)))
      go_wp2_with fail;go_ret;exact Lf.lX rfl (iW HG.out)
     .have eI:y.length=0:=by
       rcases A with rfl|rfl
       .simp at cr
       .rfl
      have eE:¬(x.length:Int)=0:=od
      have fi:((x.length:Int)==0)=false:=by rw[ud];exact eE
      have eJ:(y.length:Int)=0:=od
      rw[eJ]at U;clear A hb cr eI;go_wp2_with fail
      go_quiet ((go_at_call 58;exact qd3 (U.out _)))
      go_wp2_with fail;go_ret;exact Lf.lX rfl (iW HG.out)
   .obtain⟨x1,s,rfl⟩:∃p l,x=p::l:=by
     cases x with
     | nil=>simp at A
     | cons p l=>exact⟨p,l,rfl⟩
    obtain⟨y1,t,rfl⟩:∃p l,y=p::l:=by
     cases y with
     | nil=>simp at A
     | cons p l=>exact⟨p,l,rfl⟩
    clear A;have aE:=X.out.2.2 0 ot;have aO:=Y.out.2.2 0 ot;simp only[qh2]at aE aO;obtain⟨M,o3,rfl,_,k1,n1,a1,s1,Z,cj,ab,bt,fE,bx,bk,bo,bm,dc,e0,e1,e2,e3,e4,e5,e6⟩:=(X.out.2.1 0 ot).same (ni HG.out);obtain⟨K,o4,rfl,_,k2,n2,a2,s2,aa,ck,ad,bw,sM,bz,bl,br,bn,dd,f0,f1,f2,f3,f4,f5,f6⟩:=(Y.out.2.1 0 ot).same (ni HG.out);rw[dc]at aE;rw[dd]at aO;rw[qh0,qc0]at e0 e1 e2 e3 e4 e5 e6 f0 f1 f2 f3 f4 f5 f6;have cw:=jh aE;have cx:=jh aO;have cT:∀o,wr.frozen? ⟨g,o,none⟩=false:=by
     rcases G.out.2 with⟨hq,_⟩|⟨g',eR,fc,hq,q1,q2,_⟩
     .simp at hq
     .simp only[ke,qk,qb2,and_true]at hq;obtain⟨rfl,_,_⟩:=hq;intro o;simp[World.frozen?,q2]
    clear aE aO dc dd;simp only[jn]at ct cu bd bf d0 d1|-;have z1:¬((s.length:Int)+1=0):=od
    have z2:(((s.length:Int)+1)==0)=false:=by rw[ud];exact z1
    have z3:¬((t.length:Int)+1=0):=od
    have z4:(((t.length:Int)+1)==0)=false:=by rw[ud];exact z3
    have q3:M<wr.heap.size:=kd wr _ e0;have q4:K<wr.heap.size:=kd wr _ f0;have q5:¬M=wr.heap.size:=od
    have q6:¬K=wr.heap.size:=od
    have q7:¬K=wr.heap.size+1:=od
    have q8:¬g=wr.heap.size:=od
    have q9:¬g=wr.heap.size+1:=od
    have ea:∀d:World,wr.grownBy d none->d.cell? ⟨M,o3,none⟩=some (.i k1):=λd h=>(qn (h.block M q3 ot)).trans e0;have eb:∀d:World,wr.grownBy d none->d.cell? ⟨M,o3+1,none⟩=some (.i n1):=λd h=>(qn (h.block M q3 ot)).trans e1;have ee:∀d:World,wr.grownBy d none->d.cell? ⟨M,o3+2,none⟩=some (.i a1):=λd h=>(qn (h.block M q3 ot)).trans e2;have ef:∀d:World,wr.grownBy d none->d.cell? ⟨M,o3+3,none⟩=some (.string s1):=λd h=>(qn (h.block M q3 ot)).trans e3;have eh:∀d:World,wr.grownBy d none->d.cell? ⟨M,o3+4,none⟩=some (.slice Z cj ab):=λd h=>(qn (h.block M q3 ot)).trans e4;have ei:∀d:World,wr.grownBy d none->d.cell? ⟨M,o3+5,none⟩=some (.slice bt fE bx):=λd h=>(qn (h.block M q3 ot)).trans e5;have ej:∀d:World,wr.grownBy d none->d.cell? ⟨M,o3+6,none⟩=some (.slice bk bo bm):=λd h=>(qn (h.block M q3 ot)).trans e6;have ek:∀d:World,wr.grownBy d none->d.cell? ⟨K,o4,none⟩=some (.i k2):=λd h=>(qn (h.block K q4 ot)).trans f0;have en:∀d:World,wr.grownBy d none->d.cell? ⟨K,o4+1,none⟩=some (.i n2):=λd h=>(qn (h.block K q4 ot)).trans f1;have eo:∀d:World,wr.grownBy d none->d.cell? ⟨K,o4+2,none⟩=some (.i a2):=λd h=>(qn (h.block K q4 ot)).trans f2;have ep:∀d:World,wr.grownBy d none->d.cell? ⟨K,o4+3,none⟩=some (.string s2):=λd h=>(qn (h.block K q4 ot)).trans f3;have er:∀d:World,wr.grownBy d none->d.cell? ⟨K,o4+4,none⟩=some (.slice aa ck ad):=λd h=>(qn (h.block K q4 ot)).trans f4;have et:∀d:World,wr.grownBy d none->d.cell? ⟨K,o4+5,none⟩=some (.slice bw sM bz):=λd h=>(qn (h.block K q4 ot)).trans f5;have eu:∀d:World,wr.grownBy d none->d.cell? ⟨K,o4+6,none⟩=some (.slice bl br bn):=λd h=>(qn (h.block K q4 ot)).trans f6;have cG:∀d:World,wr.grownBy d none->d.cell? ⟨g,f.length*2,none⟩=some (.slice (some ⟨M,o3,none⟩) (s.length+1) c3):=λd h=>(qn (h.block g ax ot)).trans d0;have cH:∀d:World,wr.grownBy d none->d.cell? ⟨g,f.length*2+1,none⟩=some (.slice (some ⟨K,o4,none⟩) (t.length+1) c4):=λd h=>(qn (h.block g ax ot)).trans d1
    go_upto_region 9 with (fail)
    go_cut [12,13] (λp q wx=>∃P Q:Nat,p =.pointer (some ⟨P,0,none⟩)/\q =.pointer (some ⟨Q,0,none⟩)/\wr.heap.size<=P/\wr.heap.size<=Q/\wx.heap[P]?=some (.cells #[.i k1,.i n1,.i a1,.string s1,.slice Z cj ab,.slice bt fE bx,.slice bk bo bm] 36 (0,0))/\wx.heap[Q]?=some (.cells #[.i k2,.i n2,.i a2,.string s2,.slice aa ck ad,.slice bw sM bz,.slice bl br bn] 36 (0,0))/\wr.grownBy wx none)
    case first =>
     go_region_held3 (λw'=>wr.grownBy w' none) (first|assumption|exact fK (bM _ _)|exact fK (aK _)|exact fK (aJ (aK _) (aK _))|exact aK _|exact aJ (aK _) (aK _)) (fail)
     all_goals
      go_wp2_with fail;go_meet
      first
      | exact⟨_,_,rfl,rfl,od,od,CJ _ _ _,rX _ _ _,fK (aJ (aK _) (aK _))⟩
      | exact⟨_,_,rfl,rfl,od,od,rX _ _ _,CJ _ _ _,fK (aJ (aK _) (aK _))⟩
    case rest =>
     obtain⟨P,Q,rfl,rfl,ff,fg,ae,ah,aj⟩:=hcut;have g0:=cG wc aj;have g1:=cH wc aj;have ez:∀o,wc.frozen? ⟨g,o,none⟩=false:=by intro o;have h1:=aj.block g ax ot;have h2:=cT o;simp only[World.frozen?]at h2|-;rw[h1];exact h2
     obtain⟨L,ak,aq,ar⟩:=JT (zp G.out aj (.inr oX)) (aJ HG.out aj) ae ah;have C:g≠P:=od
     have D:g≠Q:=od
     clear ea eb ee ef eh ei ej ek en eo ep er et eu cG cH e0 e1 e2 e3 e4 e5 e6 f0 f1 f2 f3 f4 f5 f6 d0 d1 ae ah aj cT
     go_upto_region 10 with (fail)
     go_cut [] (λwx=>∃(p3 p4:Option Addr) (U3 U4:Nat->Value),aT (λ_=>True) w0 s p3 U3/\aT (λ_=>True) w0 t p4 U4/\wx.ownsRow w0.heap.size 91 2 (.slice (some ⟨g,0,none⟩) (f.length+1) cap) (f.length+1) (bX (f++[wC p3 s.length (c3 - 1) p4 t.length (c4 - 1)]))/\w0.grownBy wx none/\wx.heap[P]?=some (.cells #[.i k1,.i n1,.i a1,.string s1,.slice Z cj ab,.slice bt fE bx,.slice bk bo bm] 36 (0,0))/\wx.heap[Q]?=some (.cells #[.i k2,.i n2,.i a2,.string s2,.slice aa ck ad,.slice bw sM bz,.slice bl br bn] 36 (0,0)))
     case first =>
      by_cases cM:c3=1
      .by_cases cm:c4=1
       .obtain rfl:s=[]:=ju od;subst cM;obtain rfl:t=[]:=ju od;subst cm
        go_region_with (fail)
        all_goals
         go_wp2_with fail;go_meet;exact⟨_,_,_,_,aT.nil _ _ _ V3,aT.nil _ _ _ V4,ji (w:=wc) L.out,fK (aX (aX ak.out J _ _ _) J _ _ _),bH (bH aq.out C.symm _) C.symm _,bH (bH ar.out D.symm _) D.symm _⟩
       .obtain rfl:s=[]:=ju od;subst cM;have cP:¬c4 - 1=0:=by omega
        go_region_with (fail)
        all_goals
         go_wp2_with fail;go_meet;exact⟨_,_,_,_,aT.nil _ _ _ V3,yw Y.out,ji (w:=wc) L.out,fK (aX (aX ak.out J _ _ _) J _ _ _),bH (bH aq.out C.symm _) C.symm _,bH (bH ar.out D.symm _) D.symm _⟩
      .by_cases cm:c4=1
       .have cN:¬c3 - 1=0:=by omega
        obtain rfl:t=[]:=ju od;subst cm
        go_region_with (fail)
        all_goals
         go_wp2_with fail;go_meet;exact⟨_,_,_,_,yw X.out,aT.nil _ _ _ V4,ji (w:=wc) L.out,fK (aX (aX ak.out J _ _ _) J _ _ _),bH (bH aq.out C.symm _) C.symm _,bH (bH ar.out D.symm _) D.symm _⟩
       .have cN:¬c3 - 1=0:=by omega
        have cP:¬c4 - 1=0:=od
        go_region_with (fail)
        all_goals
         go_wp2_with fail;go_meet;exact⟨_,_,_,_,yw X.out,yw Y.out,ji (w:=wc) L.out,fK (aX (aX ak.out J _ _ _) J _ _ _),bH (bH aq.out C.symm _) C.symm _,bH (bH ar.out D.symm _) D.symm _⟩
     case rest =>
      obtain⟨p3,p4,U3,U4,cI,cJ,az,cn,ae,ah⟩:=hcut;obtain⟨x0,eM,x2,x3,x4,x5,x6⟩:=cO ae;obtain⟨y0,eN,y2,y3,y4,y5,y6⟩:=cO ah;have db:x1.size<=vsizes xs:=by have h1:=HN.out;have h2:=an.out;rw[iQ,jW]at h1;simp only[vsizes]at h1;omega
      have cl:=HC.out x1 y1 _ _ wc cn cw.out cx.out db;unfold bg at cl;obtain⟨ch,cv,dv,dy,du,cD,cF⟩:=wi cl cn cI cJ az ae ah;clear cl cn cI cJ az ae ah db L ak aq ar G;go_wp2_with fail;refine ch.out.mono ?_;rintro e F ⟨rfl,R⟩
      by_cases ai:c x1 y1=0
      .have dk:=jh ai;have cC:=jh ((R.block _ (qq.1 cD.out).1 ot).trans cD.out);have cE:=jh ((R.block _ (qq.1 cF.out).1 ot).trans cF.out);have aC:=jh (aJ cv.out R);have cy:=jh (zp du.out R (.inr oX));clear R ch x0 eM x2 x3 x4 x5 x6 y0 eN y2 y3 y4 y5 y6 g0 g1 ez;rw[ai];clear ai;obtain⟨rfl,cf,W1,cc⟩:=Li cw.out;obtain⟨rfl,cg,W2,cd⟩:=Li cx.out;have cz:=jh cc;have cA:=jh cd;have dg:=jh cf;have dj:=jh cg;have eV:mW w0.heap.size F.drew (.slice (some ⟨g,0,none⟩) (f.length+1) cap) (f++[wC p3 s.length (c3 - 1) p4 t.length (c4 - 1)]):=by
        unfold mW;rw[qS];exact cy.out
       have dr:Hid (∀v' w',mW w0.heap.size w' v' ((f++[wC p3 s.length (c3 - 1) p4 t.length (c4 - 1)])++[wC Z x1.args.length ab aa y1.args.length ad])->w0.grownBy w' none->∃m,m<μ (.slice (some ⟨g,0,none⟩) (f.length+1) cap,wr)/\La w0 c res (2*vsizes xs+1) m v' w'):=by
        intro v' w' bj bc;have h1:=HN.out;rw[iQ,jW]at h1;simp only[vsizes]at h1;have h2:=eP x1;refine⟨leftV (B++[(s,t)]++[(x1.args,y1.args)]),?_,_,_,bj,lD.snoc ⟨Z,ab,W1,aa,ad,W2,rfl,⟨dg.out,dj.out⟩,cz.out,cA.out⟩ (lD.snoc ⟨p3,c3 - 1,U3,p4,c4 - 1,U4,rfl,⟨by show s.length<=_;omega,by show t.length<=_;omega⟩,dv.out,dy.out⟩ I.out),rfl,?_,?_,bc⟩
        .rw[iQ,iQ,jW,jW];simp only;omega
        .have h3:=an.out;rw[iQ,iQ,jW,jW];simp only;omega
        .rw[<-H.out,RZ c B x1 y1 s t dk.out]
       have ev:w0.heap.size<=F.heap.size:=aC.out.size;have eS:g<F.heap.size:=by have:=cy.out;exact (kp this g rfl).2
       have eK:P≠g:=od
       have eL:Q≠g:=od
       have N:∀d:World,F.grownBy d (some g)->d.heap[P]?=_:=λd h=>(h.block P (qq.1 cC.out).1 (by simpa using eK)).trans cC.out;have fj:∀d:World,F.grownBy d (some g)->d.cell? ⟨P,0,none⟩=some (.i k1):=λd h=>(cO (N d h)).1;have fk:∀d:World,F.grownBy d (some g)->d.cell? ⟨P,1,none⟩=some (.i n1):=λd h=>(cO (N d h)).2.1;have fl:∀d:World,F.grownBy d (some g)->d.cell? ⟨P,2,none⟩=some (.i a1):=λd h=>(cO (N d h)).2.2.1;have fp:∀d:World,F.grownBy d (some g)->d.cell? ⟨P,3,none⟩=some (.string s1):=λd h=>(cO (N d h)).2.2.2.1;have fr:∀d:World,F.grownBy d (some g)->d.cell? ⟨P,4,none⟩=some (.slice Z x1.args.length ab):=λd h=>(cO (N d h)).2.2.2.2.1;have fs:∀d:World,F.grownBy d (some g)->d.cell? ⟨P,5,none⟩=some (.slice bt fE bx):=λd h=>(cO (N d h)).2.2.2.2.2.1;have ft:∀d:World,F.grownBy d (some g)->d.cell? ⟨P,6,none⟩=some (.slice bk bo bm):=λd h=>(cO (N d h)).2.2.2.2.2.2;clear N;have O:∀d:World,F.grownBy d (some g)->d.heap[Q]?=_:=λd h=>(h.block Q (qq.1 cE.out).1 (by simpa using eL)).trans cE.out;have fv:∀d:World,F.grownBy d (some g)->d.cell? ⟨Q,0,none⟩=some (.i k2):=λd h=>(cO (O d h)).1;have fx:∀d:World,F.grownBy d (some g)->d.cell? ⟨Q,1,none⟩=some (.i n2):=λd h=>(cO (O d h)).2.1;have fy:∀d:World,F.grownBy d (some g)->d.cell? ⟨Q,2,none⟩=some (.i a2):=λd h=>(cO (O d h)).2.2.1;have fz:∀d:World,F.grownBy d (some g)->d.cell? ⟨Q,3,none⟩=some (.string s2):=λd h=>(cO (O d h)).2.2.2.1;have fB:∀d:World,F.grownBy d (some g)->d.cell? ⟨Q,4,none⟩=some (.slice aa y1.args.length ad):=λd h=>(cO (O d h)).2.2.2.2.1;have fL:∀d:World,F.grownBy d (some g)->d.cell? ⟨Q,5,none⟩=some (.slice bw sM bz):=λd h=>(cO (O d h)).2.2.2.2.2.1;have fN:∀d:World,F.grownBy d (some g)->d.cell? ⟨Q,6,none⟩=some (.slice bl br bn):=λd h=>(cO (O d h)).2.2.2.2.2.2;clear O;have ay:(f++[wC p3 s.length (c3 - 1) p4 t.length (c4 - 1)]).length<=100000000:=oB
       have dq:=jh ay;clear cc cd cf cg ay;go_wp2_with fail;go_region_held3 (λw'=>F.grownBy w' (some g)) (first|assumption|exact fK (bM _ _)|exact fF oS (kL (aK _))) (first
        | (go_at_call 36;refine (OM _ _ _ _ _ _ _ _ _ _ _ _ _ _).mono ?_;rintro e w' ⟨rfl,hg⟩;have hS:=fF (r:=some g) oS (kL hg);have hO:mW w0.heap.size w' (.slice (some ⟨g,0,none⟩) (f.length+1) cap) (f++[wC p3 s.length (c3 - 1) p4 t.length (c4 - 1)]):=zp oS hg (.inr oX))
        | (refine XL w0.heap.size (f++[wC p3 s.length (c3 - 1) p4 t.length (c4 - 1)]) _ _ _ _ _ _ _ (.slice (some ⟨g,0,none⟩) (f.length+1) cap) rfl (.tmp 95) (.tmp 103) rfl rfl rfl rfl oS (kh ev (show F.grownBy _ (some g) from by assumption).size) dq.out ?_;intro v' w9 bj bc;have cL:F.grownBy w9 (some g):=fF oS bc.1;have ds:=jh bj;clear bj bc))
       all_goals
        have dT:=jh (aG aC.out cL J);clear cL;go_wp2_with fail;obtain⟨m,h1,h2⟩:=dr.out _ _ ds.out dT.out;go_roundw
        case rel=>exact⟨m,h2⟩
        case measure=>exact qf3 (HM.out _ m h2).2 h1
      .have z5:(c x1 y1==0)=false:=by simpa using ai
       have z6:(c x1 y1 != 0)=true:=by simpa using ai
       have j:c x1 y1=res:=by rw[<-H.out,Vn c _ x1 y1 s t ai]
       have dz:=jh j;have aC:=jh (aJ cv.out R);clear R ch j;go_wp2_with fail;go_ret;exact Lf.lX dz.out aC.out
def wrapN(n:Nat)(h:n<9223372036854775808):IntKind.i64.wrap (n:Int)=(n:Int):=by have e:(n:Int) % 2 ^ 64=n:=Int.emod_eq_of_lt od od;simp only[IntKind.wrap,IntKind.bits,IntKind.signed,e];rw[if_neg];simp;omega
def ent_ord1:∀args w,(callFunc 182 args).run prog w =.ok (.enter 182 args) w:=λargs w=>OK
def aA.up(h:aA (λ_=>True) w x v)(a:w.grownBy W none):aA (λ_=>True) W x v:=h.same (ni a)
def vF{n a:Int}{al ac:Nat}{tl tc:Nat}{T:TypeId}
 (hb:W.heap[b]?=some (.cells #[.i k,.i n,.i a,.string s,.slice aa al ac,.slice ta tl tc,.slice na nl nc] T (0,0))) (hL:aA (λ_=>True) W x (bg k n a s aa al ac ta tl tc na nl nc)):aT (λ_=>True) W [x] (some ⟨b,0,none⟩) (λ_=>bg k n a s aa al ac ta tl tc na nl nc):=by
 refine⟨OS,λi c=>?_,λi c=>?_⟩
 .have : i=0:=by simpa using c
  subst this;obtain⟨d,e,f,g,h,j,l⟩:=cO hb;exact⟨b,0,rfl,trivial,k,n,a,s,aa,al,ac,ta,tl,tc,na,nl,nc,rfl,d,e,f,g,h,j,l⟩
 .have : i=0:=by simpa using c
  subst this;exact hL
def kH(w:World)(a b c d:Obj):((((w.alloc a).alloc b).alloc c).alloc d).heap[w.heap.size+1+1]?=some c:=by have h:=CJ ((w.alloc a).alloc b) c d;rwa [show ((w.alloc a).alloc b).heap.size=w.heap.size+1+1 from by simp]at h
def xV(w:World)(a b d c:Obj):((((w.alloc a).alloc b).alloc d).alloc c).heap[w.heap.size+1+1+1]?=some c:=by have h:=rX ((w.alloc a).alloc b) d c;rwa [show ((w.alloc a).alloc b).heap.size=w.heap.size+1+1 from by simp]at h
def zh{y:Va}(j:aA (λ_=>True) w x u)(k:aA (λ_=>True) w y v)(J:x.size<=20000000)(W:World)(s:w.grownBy W none) :
 Calls prog 136 #[u,v] W λe w'=>e =.returned (.i (gT x y))/\W.grownBy w' none:=by
 obtain⟨X,Z,Q,s1,l,p,n,E,fE,G,t,C,A,rfl⟩:=j.bg;obtain⟨Y,n2,R,s2,m,q,o,F,sM,H,z,D,B,rfl⟩:=k.bg;obtain⟨M,N,O⟩:=we (aA.up j s) (aA.up k s) J;have I:∀(a:World) (b c:Nat) (d f:Nat),W.grownBy a none->1<=d->1<=f->a.heap[b]?=some (.cells #[.i X,.i Z,.i Q,.string s1,.slice l p n,.slice E fE G,.slice t C A] 36 (0,0))->a.heap[c]?=some (.cells #[.i Y,.i n2,.i R,.string s2,.slice m q o,.slice F sM H,.slice z D B] 36 (0,0)) ->
  Calls prog 35 #[.slice (some ⟨b,0,none⟩) 1 d,.slice (some ⟨c,0,none⟩) 1 f,.func (.func 36) #[] #[],.func (.func 182) #[] #[]] a λe w'=>e =.returned (.i (gT x y))/\a.grownBy w' none:=by
  intro a b c d f g S T U V;have h:=Im nQ 182 ent_ord1 (w0:=a) (xs:=[x]) (ys:=[y]) (ca:=d) (cb:=f) S T (vF U (aA.up M g)) (vF V (aA.up N g)) (λx y u v P h3 j k _=>Q5 j k P) (by have:=O.out;simp[vsizes];omega);rw[Eg]at h;exact h
 have L:=jh I;clear I j k J s;generalize gT x y=r at *;unfold bg at *;go_enter func136,ntmps136;go_wp2_with fail;refine (L _ _ _ 1 1 (aJ (aJ (aJ (aK _) (aK _)) (aK _)) (aK _)) (qv _) (qv _) (kH _ _ _ _ _) (xV _ _ _ _ _)).mono ?_;rintro e w1 ⟨rfl,g⟩;have K:=jh (aJ (aJ (aJ (aJ (aK _) (aK _)) (aK _)) (aK _)) g);clear g;go_wp2_with fail;go_ret;exact⟨rfl,K⟩
def rV(ok:Nat->Prop)(w:World):aA ok w zeroVa (bg 0 0 0 ⟨#[]⟩ none 0 0 none 0 0 none 0 0) :=
 aA.of (args:=[]) (types:=[]) (code:=[]) (V:=λ_=>.i 0) (VT:=λ_=>.i 0) (VN:=λ_=>.i 0) (kB _) ov (by constructor<;>decide) (by constructor<;>decide) (by constructor<;>decide) (aT.nil _ _ _ _) (dw.nil _ _ _ _) (cK.nil _ _ _ _)
def DI(Q:aA (λ_=>True) w x u)(W:World)(P:w.grownBy W none) :
 Calls prog 137 #[u] W λe w'=>∃kv,e =.returned kv/\aA (λ_=>True) w (fU x) kv/\W.grownBy w' none:=by
 obtain⟨aa,y,ta,z,na,nc,VV,VT,VN,rfl,⟨ik,iN,ia,Z,D⟩,b,B,A⟩:=Q.inv;have I:=b.1;unfold maxLen at I
 cases O:x.args with
 | nil =>
  have C:fU x=zeroVa:=by unfold fU;rw[O]
  rw[C];have HZ:=jh (rV (λ_=>True) w);clear Q b B A C ik iN ia Z D P I;simp only[xT];unfold bg at *;go_enter func137,ntmps137;go_wp2_with fail;have r:=rX W (.cells #[.i x.k,.i x.n,.i x.a,.string x.s,.slice aa 0 y,.slice ta x.types.length z,.slice na x.code.length nc] 36) (.cells #[.i 0,.i 0,.i 0,.string ⟨#[]⟩,.n0,.n0,.n0] 36);have t:W.grownBy ((W.alloc (.cells #[.i x.k,.i x.n,.i x.a,.string x.s,.slice aa 0 y,.slice ta x.types.length z,.slice na x.code.length nc] 36)).alloc (.cells #[.i 0,.i 0,.i 0,.string ⟨#[]⟩,.n0,.n0,.n0] 36)) none:=aJ (aK _) (aK _);generalize (W.alloc (.cells #[.i x.k,.i x.n,.i x.a,.string x.s,.slice aa 0 y,.slice ta x.types.length z,.slice na x.code.length nc] 36)).alloc (.cells #[.i 0,.i 0,.i 0,.string ⟨#[]⟩,.n0,.n0,.n0] 36)=wf at *;obtain⟨S,F,M,T,U,V,X⟩:=cO r;exact zv (v:=bg 0 0 0 ⟨#[]⟩ none 0 0 none 0 0 none 0 0) (by simp[results,results137,go_sem,S,F,M,T,U,V,X,bg]) rfl ⟨_,rfl,HZ,t⟩
 | cons p l =>
  have C:fU x=p:=by unfold fU;rw[O]
  rw[C];rw[O]at b I;have g:=b.2.2 0 ot;simp only[qh2]at g;obtain⟨H,R,rfl,_,J,K,G,L,c,f,d,o,fE,q,h,m,j,E,Y,e1,e2,e3,e4,e5,e6⟩:=(b.2.1 0 ot).same (ni P);rw[E]at g;rw[qh0,qc0]at Y e1 e2 e3 e4 e5 e6;have q3:H<W.heap.size:=kd W _ Y;have N:=jh g;have F:¬((l.length:Int)+1=0):=od
  have M:(((l.length:Int)+1)==0)=false:=by rw[ud];exact F
  clear Q b B A C ik iN ia Z D P g E;simp only[jn]at I|-;unfold bg at *;go_enter func137,ntmps137;go_wp2_with fail;have r:=rX W (.cells #[.i x.k,.i x.n,.i x.a,.string x.s,.slice (some ⟨H,R,none⟩) (l.length+1) y,.slice ta x.types.length z,.slice na x.code.length nc] 36) (.cells #[.i J,.i K,.i G,.string L,.slice c f d,.slice o fE q,.slice h m j] 36);have t:W.grownBy ((W.alloc (.cells #[.i x.k,.i x.n,.i x.a,.string x.s,.slice (some ⟨H,R,none⟩) (l.length+1) y,.slice ta x.types.length z,.slice na x.code.length nc] 36)).alloc (.cells #[.i J,.i K,.i G,.string L,.slice c f d,.slice o fE q,.slice h m j] 36)) none:=aJ (aK _) (aK _);generalize (W.alloc (.cells #[.i x.k,.i x.n,.i x.a,.string x.s,.slice (some ⟨H,R,none⟩) (l.length+1) y,.slice ta x.types.length z,.slice na x.code.length nc] 36)).alloc (.cells #[.i J,.i K,.i G,.string L,.slice c f d,.slice o fE q,.slice h m j] 36)=wf at *;obtain⟨S,F,M,T,U,V,X⟩:=cO r;exact zv (v:=bg J K G L c f d o fE q h m j) (by simp[results,results137,go_sem,S,F,M,T,U,V,X,bg]) rfl ⟨_,rfl,N,t⟩
def Bu(x:Va):(fU x).size<=x.size:=by
 have h:=eP x;unfold fU
 cases a:x.args with
 | nil=>have:=qZ x;simp[zeroVa,Va.size,vsizes,tysizes,sizes];omega
 | cons p l=>rw[a,vsizes]at h;simp only;omega
def Oi(Z:aT (λ_=>True) w l a V)(hz:vsizes l<=20000000)(W:World)(hW:w.grownBy W none) :
 Calls prog 88 #[.slice a l.length c] W λe w'=>e =.returned (.bool (risesF l))/\W.grownBy w' none:=by
 have hn:=Z.1;unfold maxLen at hn;obtain⟨HL,HZ,HW⟩:=we Z hz hW;clear Z hz hW;go_enter func88,ntmps88;go_wp2_with fail;go_loopw [3] (λiv wr=>∃j:Nat,1<=j/\(j<=l.length\/j=1)/\iv =.i j/\(∀i (h:i+1<l.length),i+1<j->gT (fU l[i]) (fU l[i+1])<0)/\W.grownBy wr none) (λiv _=>l.length - (intOf iv).toNat)
 case atStart=>exact⟨1,qv _,.inr rfl,rfl,λi h hi=>od,bM _ _⟩
 case round =>
  obtain⟨j,bj,bk,rfl,f,n⟩:=hrel
  by_cases q:j<l.length
  .obtain⟨m,rfl⟩:∃m,j=m+1:=⟨j - 1,od⟩;have o:=aJ HW n;have G:=HL.out.2.2 m od;have H:=HL.out.2.2 (m+1) q;obtain⟨d,g,I,_,k1,n1,a1,s1,P,T,R,aj,fE,an,aa,ah,ad,L,X,e1,e2,e3,e4,e5,e6⟩:=(HL.out.2.1 m od).same (ni o);obtain⟨bf,of,B,_,k2,n2,a2,s2,Q,U,S,ak,sM,ao,ab,ai,ae,M,f0,f1,f2,f3,f4,f5,f6⟩:=(HL.out.2.1 (m+1) q).same (ni o);rw[I]at B;simp only[qk,qb2,and_true]at B;obtain⟨rfl,rfl⟩:=B;subst I;rw[L]at G;rw[M]at H;unfold bg at G H;have k:d<wr.heap.size:=kd wr _ X;have aq:∀b:World,wr.grownBy b none->b.cell? ⟨d,g+m*7,none⟩=some (.i k1):=λb h=>(qn (h.block d k ot)).trans X;have ar:∀b:World,wr.grownBy b none->b.cell? ⟨d,g+m*7+1,none⟩=some (.i n1):=λb h=>(qn (h.block d k ot)).trans e1;have au:∀b:World,wr.grownBy b none->b.cell? ⟨d,g+m*7+2,none⟩=some (.i a1):=λb h=>(qn (h.block d k ot)).trans e2;have ax:∀b:World,wr.grownBy b none->b.cell? ⟨d,g+m*7+3,none⟩=some (.string s1):=λb h=>(qn (h.block d k ot)).trans e3;have ay:∀b:World,wr.grownBy b none->b.cell? ⟨d,g+m*7+4,none⟩=some (.slice P T R):=λb h=>(qn (h.block d k ot)).trans e4;have az:∀b:World,wr.grownBy b none->b.cell? ⟨d,g+m*7+5,none⟩=some (.slice aj fE an):=λb h=>(qn (h.block d k ot)).trans e5;have aC:∀b:World,wr.grownBy b none->b.cell? ⟨d,g+m*7+6,none⟩=some (.slice aa ah ad):=λb h=>(qn (h.block d k ot)).trans e6;have aE:∀b:World,wr.grownBy b none->b.cell? ⟨d,g+(m+1)*7,none⟩=some (.i k2):=λb h=>(qn (h.block d k ot)).trans f0;have aO:∀b:World,wr.grownBy b none->b.cell? ⟨d,g+(m+1)*7+1,none⟩=some (.i n2):=λb h=>(qn (h.block d k ot)).trans f1;have ba:∀b:World,wr.grownBy b none->b.cell? ⟨d,g+(m+1)*7+2,none⟩=some (.i a2):=λb h=>(qn (h.block d k ot)).trans f2;have bb:∀b:World,wr.grownBy b none->b.cell? ⟨d,g+(m+1)*7+3,none⟩=some (.string s2):=λb h=>(qn (h.block d k ot)).trans f3;have bc:∀b:World,wr.grownBy b none->b.cell? ⟨d,g+(m+1)*7+4,none⟩=some (.slice Q U S):=λb h=>(qn (h.block d k ot)).trans f4;have bd:∀b:World,wr.grownBy b none->b.cell? ⟨d,g+(m+1)*7+5,none⟩=some (.slice ak sM ao):=λb h=>(qn (h.block d k ot)).trans f5;have bh:∀b:World,wr.grownBy b none->b.cell? ⟨d,g+(m+1)*7+6,none⟩=some (.slice ab ai ae):=λb h=>(qn (h.block d k ot)).trans f6;have s:Hid (∀(x:Va) (u:Value),aA (λ_=>True) w x u->∀b:World,wr.grownBy b none->Calls prog 137 #[u] b λe w'=>∃N,e =.returned N/\aA (λ_=>True) w (fU x) N/\b.grownBy w' none):=λx u hx b h=>DI hx b (aJ o h);have K:(fU l[m]).size<=20000000:=by
    have h1:(fU l[m]).size<=(l[m]).size:=Bu _;have h2:(l[m]).size<=vsizes l:=fO (zj _);have h3:=HZ.out;omega
   have t:Hid (∀(u v:Value),aA (λ_=>True) w (fU l[m]) u->aA (λ_=>True) w (fU l[m+1]) v->∀b:World,wr.grownBy b none->Calls prog 136 #[u,v] b λe w'=>e =.returned (.i (gT (fU l[m]) (fU l[m+1])))/\b.grownBy w' none):=λu v hu hv b h=>zh hu hv K b (aJ o h);have p:=jh n;have E:=jh f;have w1:IntKind.i64.wrap (m:Int)=(m:Int):=wrapN m od;have w2:IntKind.i64.wrap ((m:Int)+1 - 1)=(m:Int):=by rw[show (m:Int)+1 - 1=(m:Int) from by omega];exact w1
   have w3:IntKind.i64.wrap ((m:Int)+1)=(m:Int)+1:=by rw[show (m:Int)+1=((m+1:Nat):Int) from by omega];exact wrapN (m+1) od
   have w4:(m:Int)<(l.length:Int):=od
   have w5:(m:Int)+1<(l.length:Int):=od
   have w6:m<l.length:=od
   have w7:m+1<l.length:=q;have w8:(0:Int)<=(m:Int)+1:=od
   clear n f o K L M X e1 e2 e3 e4 e5 e6 f0 f1 f2 f3 f4 f5 f6;generalize hr:gT (fU l[m]) (fU l[m+1])=r at *;have HR:=jh hr;clear hr
   by_cases J:r<0
   .have D:¬0<=r:=by omega
    go_wp2_with fail;go_region_held3 (λw'=>wr.grownBy w' none) (first|assumption|exact fK (bM _ _)) (first
     | (go_at_call 137;refine (s _ _ oS _ oS).mono ?_;rintro e w' ⟨N,rfl,F,C⟩;obtain⟨_,_,_,_,_,_,_,_,_,_,_,_,_,rfl⟩:=F.bg;unfold bg at F|-;have A:=aJ oS C)
     | (go_at_call 136;refine (t _ _ oS oS _ oS).mono ?_;rintro e w' ⟨rfl,C⟩;have A:=aJ oS C))
    have z:=jh (aJ p A);clear A;go_wp2_with fail;go_roundw
    case rel =>
     refine⟨m+1+1,od,.inl od,OF,λi h hi=>?_,z⟩
     by_cases Y:i+1<m+1
     .exact E i h Y
     .obtain rfl:i=m:=by omega
      rw[HR.out];exact J
    case measure=>simp[intOf];omega
   .have D:0<=r:=by omega
    go_wp2_with fail;go_region_held3 (λw'=>wr.grownBy w' none) (first|assumption|exact fK (bM _ _)) (first
     | (go_at_call 137;refine (s _ _ oS _ oS).mono ?_;rintro e w' ⟨N,rfl,F,C⟩;obtain⟨_,_,_,_,_,_,_,_,_,_,_,_,_,rfl⟩:=F.bg;unfold bg at F|-;have A:=aJ oS C)
     | (go_at_call 136;refine (t _ _ oS oS _ oS).mono ?_;rintro e w' ⟨rfl,C⟩;have A:=aJ oS C))
    have z:=jh (aJ p A);clear A;go_wp2_with fail;go_ret;exact Lf.kZ (Oh l m q (by rw[HR.out];omega)).symm z
  .have y:risesF l=true:=(Cb l).2 λi h=>f i h od;have O:=jh y;have p:=jh n;have bl:¬(j:Int)<(l.length:Int):=by omega
   clear y n f;go_wp2_with fail;go_ret;exact Lf.kZ O.symm p
def Qv(f:aT (λ_=>True) w l a V)(g:vsizes l<=20000000)(W:World)(b:w.grownBy W none) :
 Calls prog 87 #[.slice a l.length c] W λe w'=>e =.returned (.bool (!risesF l))/\W.grownBy w' none:=by
 have H:=jh (Oi (c:=c) f g W b);clear f g b;generalize risesF l=r at *;go_enter func87,ntmps87;go_wp2_with fail;refine H.mono ?_;rintro e i ⟨rfl,d⟩;have h:=jh d;clear d;go_wp2_with fail;go_ret;exact⟨rfl,h⟩
def ent_has1:∀args w,(callFunc 87 args).run prog w =.ok (.enter 87 args) w:=λargs w=>OK
def I4 (w W:World) (M:List (List Va)) (a:Option Addr):Prop :=
 M.length<=maxLen/\∀i (h:i<M.length),∃b o ai ci V,a=some ⟨b,o,none⟩/\W.cell? ⟨b,o+i,none⟩=some (.slice ai M[i].length ci)/\aT (λ_=>True) w M[i] ai V/\vsizes M[i]<=20000000
def Nz(y:I4 w W M a)(F:w.grownBy W none) :
 Calls prog 135 #[.slice a M.length c,.func (.func 87) #[] #[]] W λe w'=>∃r:Int,e =.returned (.i r)/\((0<=r/\M.all risesF=false)\/(r = -1/\M.all risesF=true))/\W.grownBy w' none:=by
 have L:=y.1;unfold maxLen at L;have HM:=jh y;have G:=jh F;have P:=ent_has1;clear y F;go_enter func135,ntmps135;go_wp2_with fail;go_loopw [8] (λC wr=>∃j:Nat,j<=M.length/\C =.i j/\(∀i (h:i<M.length),i<j->risesF M[i]=true)/\W.grownBy wr none) (λC _=>M.length - (intOf C).toNat)
 case atStart=>exact⟨0,kB _,rfl,λi h A=>od,bM _ _⟩
 case round =>
  obtain⟨j,Q,rfl,l,g⟩:=hrel;have k:=jh l;have m:=jh g;clear l
  by_cases q:j<M.length
  .obtain⟨b,o,H,E,V,rfl,d,z,s⟩:=HM.out.2 j q;have J:wr.cell? ⟨b,o+j,none⟩=some (.slice H M[j].length E):=(qn (g.block b (kd W _ d) ot)).trans d;have t:=jh (Qv (c:=E) z s wr (aJ G g));have B:=z.1;unfold maxLen at B;clear d z s g
   cases n:risesF M[j]with
   | true =>
    rw[n]at t;have v:=jh n;clear n;go_wp2_with fail;refine t.mono ?_;rintro e O ⟨rfl,p⟩;have u:=jh (aJ m p);clear p;go_wp2_with fail;go_roundw
    case rel =>
     refine⟨j+1,od,OF,λi h A=>?_,u⟩
     by_cases e:i=j
     .subst e;exact v
     .exact k i h od
    case measure=>simp[intOf];omega
   | false =>
    rw[n]at t;have v:=jh n;clear n;go_wp2_with fail;refine t.mono ?_;rintro e O ⟨rfl,p⟩;have u:=jh (aJ m p);clear p;go_wp2_with fail;go_ret;refine⟨_,rfl,.inl ⟨od,?_⟩,u⟩
    cases I:M.all risesF with
    | false=>rfl
    | true=>have:=zr.1 I M[j] (zj q);rw[v.out]at this;cases this
  .have f:M.all risesF=true:=zr.2 λx N=>by
    obtain⟨i,A,rfl⟩:=ye N;exact k i A od
   have D:=jh f;have K:¬(j:Int)<(M.length:Int):=od
   clear f g;go_wp2_with fail;go_ret;refine⟨_,rfl,.inr ⟨rfl,?_⟩,m⟩
   first|exact D|exact zr.1 D
def EP(b:I4 w W M a)(d:w.grownBy W none) :
 Calls prog 86 #[.slice a M.length c,.func (.func 87) #[] #[]] W λe w'=>e =.returned (.bool (!M.all risesF))/\W.grownBy w' none:=by
 have H:=jh (Nz (c:=c) b d);clear b d;generalize M.all risesF=q at *;go_enter func86,ntmps86;go_wp2_with fail;refine H.mono ?_;rintro e k ⟨r,rfl,g,f⟩;have h:=jh f;have i:=jh g;clear f g;go_wp2_with fail;go_ret;refine Lf.kZ ?_ h;rcases i with⟨j,rfl⟩|⟨rfl,rfl⟩
 .simp[j]
 .rfl
def Uh:(prog.info? 28).map (λi=>(i.zero,i.size,i.bytes))=some (some (.n0),1,24):=oA
def kD (B:Nat) (w:World) (v:Value) (us:List Value):Prop:=w.ownsRow B 28 1 v us.length us
def gM (w:World):List (List Va)->List Value->Prop
 | [],[]=>True
 | l::M,u::us=>(∃a c V,u =.slice a l.length c/\aT (λ_=>True) w l a V/\vsizes l<=20000000)/\gM w M us
 | [],_::_=>False
 | _::_,[]=>False
def gM.len: ∀{M:List (List Va)}{us:List Value},gM w M us->us.length=M.length
 | [],[],_=>rfl
 | _::_,_::_,h=>by simp[gM.len h.2]
 | [],_::_,h=>h.elim
 | _::_,[],h=>h.elim
def gM.snoc(b:∃a c V,u =.slice a l.length c/\aT (λ_=>True) w l a V/\vsizes l<=20000000):∀{M:List (List Va)}{us:List Value},gM w M us->gM w (M++[l]) (us++[u])
 | [],[],_=>⟨b,trivial⟩
 | _::_,_::_,h=>⟨h.1,gM.snoc b h.2⟩
 | [],_::_,h=>h.elim
 | _::_,[],h=>h.elim
def gM.get: ∀{M:List (List Va)}{us:List Value},gM w M us->∀i (h:i<M.length),∃u,us[i]?=some u/\∃a c V,u =.slice a M[i].length c/\aT (λ_=>True) w M[i] a V/\vsizes M[i]<=20000000
 | [],[],_,i,h=>by simp at h
 | _::_,_::_,b,0,h=>⟨_,rfl,b.1⟩
 | _::_,_::_,b,i+1,h=>by simpa using gM.get b.2 i (by simpa using h)
 | [],_::_,h,_,_=>h.elim
 | _::_,[],h,_,_=>h.elim
def Uq(j:kD B W v us)(f:gM w M us)(e:M.length<=maxLen):∃a c,v =.slice a M.length c/\I4 w W M a:=by
 have b:=f.len;rcases j.2 with⟨rfl,o⟩|⟨g,cap,k,rfl,t,x,p,q,r,s⟩
 .have : M.length=0:=by omega
  exact⟨none,0,by rw[this],e,λi h=>od⟩
 .refine⟨some ⟨g,0,none⟩,cap,by rw[b],e,λi h=>?_⟩;obtain⟨u,m,a,c,V,rfl,l,n⟩:=f.get i h;have d:=yy j (g:=g) rfl i _ m;rw[gI]at d;exact⟨g,0,a,c,V,rfl,d,l,n⟩
def qO{d:Nat}{c:TypeId}{s l k:Nat}{v':Value}{b:List Value}(h:w.ownsRow B e s v n xs)(i:w.ownsRow d c l v' k b)(a:e≠c):v'.ownBlock=none\/v'.ownBlock≠v.ownBlock:=by
 rcases i.2 with⟨rfl,_⟩|⟨g,cap,f,rfl,_,j,_⟩
 .exact .inl rfl
 .right;exact aD h j a
def uF(h:w.ownsRow B e size (.slice (some ⟨g,0,none⟩) (n+1) cap) (n+1) (xs++ys))(m:xs.length=n*size):w.ownsRow B e size (.slice (some ⟨g,0,none⟩) n cap) n xs:=by
 refine⟨m,?_⟩;rcases h.2 with⟨a,_⟩|⟨o,c,b,a,f,i,p,j,k,l⟩
 .simp at a
 .simp only[ke,qk,qb2,and_true,true_and]at a;obtain⟨rfl,rfl⟩:=a;refine .inr ⟨g,cap,b,rfl,f,i,od,j,k,?_⟩;have d:=congrArg (List.take (n*size)) l;rw[List.take_take,show min (n*size) ((n+1)*size)=n*size from by rw[jb0];omega]at d;rw[d,jb7 od,qh1 od]
def iJ(h:w.ownsRow B e size (.slice (some ⟨g,0,none⟩) (n+1) cap) (n+1) (xs++ys))(b:xs.length=n*size)(j:Nat)(u:Value)(a:ys[j]?=some u):w.cell? ⟨g,n*size+j,none⟩=some u:=by have k:=yy h (g:=g) rfl (n*size+j) u (by rw[js od,b,show n*size+j - n*size=j from by omega];exact a);rw[gI,qa4]at k;exact k
def nL{T:TypeId}{a b:Value}(h:w.heap[g]?=some (.cells #[x0,x1,x2,x3,x4,x5,x6,a,b] T (0,0))) :
 w.cell? ⟨g,0,none⟩=some x0/\w.cell? ⟨g,1,none⟩=some x1/\w.cell? ⟨g,2,none⟩=some x2/\w.cell? ⟨g,3,none⟩=some x3/\w.cell? ⟨g,4,none⟩=some x4/\w.cell? ⟨g,5,none⟩=some x5/\w.cell? ⟨g,6,none⟩=some x6/\w.cell? ⟨g,7,none⟩=some a/\w.cell? ⟨g,8,none⟩=some b:=by
 simp[World.cell?,h]
def Ym{a:Act}(B:Nat)(w:World){C D:List (Ty×Va)}{cs ds:List (Value×Value)}(w0:World)(v xv:Value)(b:o.guard=none)(s x:Operand)
 (ho:o.op =.call { callee:=.builtin .append,args:=#[s,x],argTypes:=#[113,113] }) (hs:a.eval s=v) (hx:a.eval x=xv)
 (hsrc:gZ w0 xv ds.length (nC ds)) (hD:eF w D ds) (hown:mH B w0 v cs) (hB:B<=w0.heap.size) (hlen:cs.length+ds.length<=50000000)
 (h:∀v' w',mH B w' v' (cs++ds)->Gr w0 v w' v'->wpList prog ops Q rest (a.put o.dst v') w'):wpList prog ops Q (o::rest) a w0:=by
 obtain⟨e,f⟩:=yS hD;refine ed b s x 113 ho B 111 underlying113 EZ rfl ov v cs.length (nC cs) hs hown xv ds.length (nC ds) hx e hsrc f ?_ ?_ hB ?_
 .unfold maxLen;omega
 .omega
 .intro v' w' c d _;exact h v' w' (by unfold mH;rw[rM,qS];exact c) d
def TC{a:Act}(B:Nat)(us:List Value)(sa:Option Addr)(sl sc:Nat)(w0:World)(v:Value)(b:o.guard=none)(s x:Operand)
 (ho:o.op =.call { callee:=.builtin .append,args:=#[s,x],argTypes:=#[86,86] }) (hs:a.eval s=v) (hx:a.eval x =.slice (some ⟨H,0,none⟩) 1 1) (hH:w0.heap.size=H)
 (hown:kD B w0 v us) (hB:B<=w0.heap.size) (hlen:us.length<=50000000)
 (h:∀v' w',kD B w' v' (us++[.slice sa sl sc])->Gr w0 v w' v'->wpList prog ops Q rest (a.put o.dst v') w') :
 wpList prog ops Q (o::rest) a (w0.alloc (.cells #[.slice sa sl sc] 28)):=by
 subst hH;refine ed b s x 86 ho B 28 underlying86 Uh rfl ov v us.length us hs (xo hown _) _ 1 [.slice sa sl sc] hx rfl (gZ.new _ _ _ _ _) ?_ ?_ ?_ ?_ ?_
 .intro u c;simp at c;subst c;rfl
 .unfold maxLen;omega
 .omega
 .simp;omega
 .intro v' w' d e _;exact h v' w' (by unfold kD;rw[qS];exact d) (Gr.trans (Gr.alloc (Gr.refl w0 v) _) e)
def ug{d:Nat}(h:j5 d T=true):(T.args.length:Int)=bT T.t/\∀y∈T.args,j5 (d+1) y=true:=by obtain⟨t,args⟩:=T;simp only[j5,qu,ki]at h;refine⟨h.1.2.2,λy a=>?_⟩;have:=h.2;rw[jT,zr]at this;exact this y a
def IL{ts:List Ty}{p:Ty×Va}(h:p∈ts.zip l):p.1∈ts:=(List.of_mem_zip h).1
def yh{l:List (Ty×Va)}(w:∃d,j5 d T=true)(g:eX T x=true)(s:partsOf T x=some l):∀p∈l,∃d,j5 d p.1=true:=by
 obtain⟨d,k⟩:=w;obtain⟨c,b⟩:=ug k;simp only[eX,qu]at g;obtain⟨⟨⟨⟨⟨_,hN⟩,_⟩,_⟩,j⟩,_⟩:=g;simp only[partsOf,bS,km]at s;obtain⟨B,a,rfl⟩:=s;intro p r;have f:=IL r;split at a
 .rename_i v;split at a
  .simp only[qk]at a;subst a;unfold eZ at j;rw[if_pos v]at j
   match A:x.types,j with
   | [y],j =>
    rw[A]at f;simp at f;rw[f];exact⟨1,(dE j).1⟩
  .cases a
 .split at a
  .simp only[qk]at a;subst a;simp at f
  .split at a
   .rename_i o;split at a
    .simp only[qk]at a;subst a;have e:=qf7 f;rw[e];have q:T.args.length=1:=by rw[o]at c;simp[bT]at c;omega
     obtain⟨y,u⟩:=jc5.1 q;rw[show bB T.args 0=y from by simp[bB,u]];exact⟨d+1,b y (by rw[u];simp)⟩
    .cases a
   .split at a
    .rename_i i;split at a
     .simp only[qk]at a;subst a;have e:=qf7 f;rw[e];refine⟨d,?_⟩;obtain⟨t,args⟩:=T;simp only[Ty.t]at i;subst i;simp only[j5,qu,ki,Ty.args]at k|-;refine⟨⟨k.1.1,ov,?_⟩,k.2⟩;have:=k.1.2.2;simp[bT]at this|-;exact this
     .cases a
    .split at a
     .rename_i h;split at a
      .simp only[qk]at a;subst a;simp at f;rw[f];have z:T.args.length=2:=by rw[h]at c;simp[bT]at c;omega
       have m:x.n=0\/x.n=1:=by unfold bQ at hN;rw[h]at hN;simpa using hN
       rcases m with m|m
       .rw[m];have e:bB T.args ((0:Int).toNat)=T.args[0]:=by show (T.args[0]?).getD _=_;rw[qt od];rfl
        rw[e];exact⟨d+1,b _ (zj _)⟩
       .rw[m];have e:bB T.args ((1:Int).toNat)=T.args[1]:=by show (T.args[1]?).getD _=_;rw[qt od];rfl
        rw[e];exact⟨d+1,b _ (zj _)⟩
      .cases a
     .split at a
      .split at a
       .simp only[qk]at a;subst a;simp at f
       .cases a
      .split at a
       .simp only[qk]at a;subst a;exact⟨d+1,b _ f⟩
       .cases a
def TE(f:∃d,j5 d T=true)(a:eX T x=true):IQ T x:=by obtain⟨d,e⟩:=f;refine⟨(ug e).1,λb=>?_⟩;simp only[eX,qu]at a;have c:=a.1.1.1.1.2;unfold bQ at c;rw[b]at c;simpa using c
def Ka{l:List (Ty×Va)}(b:partsOf T x=some l):j6 l=vsizes x.args/\l.length=x.args.length:=by simp only[partsOf,km]at b;obtain⟨c,a,rfl⟩:=b;have:=rE a;exact⟨leftP_zip c x.args this.symm,oB⟩
def SF (w W:World) (T:Ty) (x:Va) (n:Nat) (mv tv:Value) (wr:World):Prop :=
 ∃(C:List (Ty×Va)) (cs:List (Value×Value)) (M:List (List Va)) (us:List Value),mH W.heap.size wr tv cs/\eF w C cs/\kD W.heap.size wr mv us/\gM w M us/\(C.all Bn&&M.all risesF)=hasV x T/\(∀p∈C,∃d,j5 d p.1=true)/\j6 C=n/\M.length+n<=x.size/\W.grownBy wr none
def Uc(hT:aH (λ_=>True) w T u)(hV:aA (λ_=>True) w x v)(hz:x.size<=20000000)(cc:zt T=true)(W:World)(hW:w.grownBy W none) :
 Calls prog 56 #[u,v] W λe w'=>e =.returned (.bool (hasV x T))/\W.grownBy w' none:=by
 obtain⟨k1,n1,a1,s1,aa,ad,ab,aO,fE,bb,ax,aE,az,rfl⟩:=hV.bg;have dn:=hT;obtain⟨a,c,V,rfl,it,dq⟩:=hT.inv;obtain⟨μ,hμ⟩:=mM (λn (p:Value×Value×World)=>SF w W T x n p.1 p.2.1 p.2.2);have HG:Hid (∀W2,W.grownBy W2 none->Calls prog 45 #[bY T.t a T.args.length c] W2 λe w'=>e =.returned (.bool true)/\W2.grownBy w' none):=λW2 B=>by have:=nT (aH.up hT (aJ hW B));rw[cc]at this;exact this
 obtain⟨HT,HV,HM,HW,HZ,cr⟩:=wk hT hV hμ hW hz cc;clear hT hV hμ hW hz cc dn dq it;generalize hr:hasV x T=r;have HR:=jh hr;clear hr;unfold bY bg at *;go_enter func56,ntmps56;go_wp2_with fail;refine (HG _ (aJ (aK _) (aK _))).mono ?_;rintro e w1 ⟨rfl,bj⟩;have bx:=(bj.block _ (qq.1 (CJ W (.cells #[.i T.t,.slice a T.args.length c] 54) (.cells #[.i k1,.i n1,.i a1,.string s1,.slice aa ad ab,.slice aO fE bb,.slice ax aE az] 36))).1 ot).trans (CJ W (.cells #[.i T.t,.slice a T.args.length c] 54) (.cells #[.i k1,.i n1,.i a1,.string s1,.slice aa ad ab,.slice aO fE bb,.slice ax aE az] 36));have cM:=(bj.block _ (qq.1 (iR W (.cells #[.i T.t,.slice a T.args.length c] 54) (.cells #[.i k1,.i n1,.i a1,.string s1,.slice aa ad ab,.slice aO fE bb,.slice ax aE az] 36))).1 ot).trans (iR W (.cells #[.i T.t,.slice a T.args.length c] 54) (.cells #[.i k1,.i n1,.i a1,.string s1,.slice aa ad ab,.slice aO fE bb,.slice ax aE az] 36));have c0:=xq bx;have c1:=wy bx;obtain⟨d0,d1,d2,d3,d4,d5,d6⟩:=cO cM;have cq:=jh (aJ (aJ (aK _) (aK _)) bj);clear bx cM bj;go_wp2_with fail;go_loopw [5,6] (λmv tv wr=>∃n,SF w W T x n mv tv wr) (λmv tv wr=>μ (mv,tv,wr))
 case atStart =>
  refine⟨x.size,[(T,x)],[(bY T.t a T.args.length c,bg k1 n1 a1 s1 aa ad ab aO fE bb ax aE az)],[],[],?_,⟨⟨HT,HV⟩,trivial⟩,qa2 _ _ _ _,trivial,?_,?_,DK _,ot,aJ cq (aK _)⟩
  .exact⟨rfl,.inr ⟨_,1,_,rfl,cq.size,qT _ _,qv _,ov,rfl,rfl⟩⟩
  .simp[Bn,HR.out]
  .intro p hp;simp at hp;subst hp;exact⟨1,(dE cr).1⟩
 case round =>
  obtain⟨n0,cT⟩:=hrel;obtain⟨C,cs,M,us,j,bh,aj,ai,J,G,S,cd,P⟩:=(HM.out (u5,u6,wr) n0 cT).1;simp only at j aj P;have hz:=HZ.out;have dp:=ai.len;clear cT c0 c1 d0 d1 d2 d3 d4 d5 d6
  by_cases hv:cs.length=0
  .obtain⟨a0,ev,rfl⟩:=mg j hv;have cE:C=[]:=qd7.1 (by have:=bh.len;omega);have bm:r=M.all risesF:=by rw[<-HR.out,<-J,cE];rfl
   obtain⟨ma,mc,rfl,cF⟩:=Uq aj ai oT;obtain⟨cV,bo,Z⟩:=we (EP (c:=mc) cF (aJ HW P)) P bm;generalize M.all risesF=q at *;clear j bh aj ai J G S cd P cE bm cF hv HM HG HT HV HR cr dp;go_wp2_with fail;refine cV.mono ?_;rintro e w9 ⟨rfl,cP⟩;have cW:=jh (aJ bo cP);clear cP;go_wp2_with fail;go_ret;exact Lf.kZ (by rw[Z.out]) cW
  .have cg:cs≠[]:=λe=>hv (by rw[e];rfl);have e1:=(qb4 cg).symm;generalize cs.dropLast=f at e1;generalize cs.getLast cg=q at e1;subst e1;obtain⟨R,p,rfl,I,ae,ah⟩:=bh.last;obtain⟨o,x2⟩:=p;obtain⟨u2,v2⟩:=q;simp only at ae ah;obtain⟨a2,c2,V2,rfl,ej,bl⟩:=ae.inv;obtain⟨y,z,ba,bc,ay,aC,eu,et,er,rfl,⟨ei,eg,eh,dT,cS⟩,ak,cJ,cI⟩:=ah.inv;have cf:(f++[(bY o.t a2 o.args.length c2,bg x2.k x2.n x2.a x2.s y x2.args.length z ba x2.types.length bc ay x2.code.length aC)]).length=f.length+1:=by simp
   have K:=jb3 j ot;rw[cf]at K;obtain⟨g,cap,rfl,ez,eo⟩:=K;unfold mH at j;rw[cf,rM]at j;have A:=(yS I).1;have cN:=QX j;have dr:f.length<=cap:=od
   have bk:x2.size<=20000000/\j6 R+x2.size=μ (u5,.slice (some ⟨g,0,none⟩) (f.length+1) cap,wr):=by have N:=S;rw[lN,DK]at N;exact⟨by simp only at N;omega,N⟩
   have ew:f.length<=20000000:=by have N:=I.len;have B:=NH R;omega
   have g0:=iJ j A 0 _ rfl;have g1:=iJ j A 1 _ rfl;have g2:=iJ j A 2 _ rfl;have g3:=iJ j A 3 _ rfl;have g4:=iJ j A 4 _ rfl;have g5:=iJ j A 5 _ rfl;have g6:=iJ j A 6 _ rfl;have g7:=iJ j A 7 _ rfl;have g8:=iJ j A 8 _ rfl;rw[qc0]at g0;have hcut:=uF j A;obtain⟨cy,cp,cz⟩:=we hcut (λW2 (B:W.grownBy W2 none)=>Qo ae ah bk.1 W2 (aJ HW B)) (λ(dy:IQ o x2) W2 (B:W.grownBy W2 none)=>JZ ae ah dy bk.1 W2 (aJ HW B));have dv:=ak.1;unfold maxLen at dv;have du:=bl.1;unfold maxLen at du;obtain⟨cC,cD,cl,dg,bq,cj,X,db,bo,dd⟩:=wq ak bk I aj ai J G cd P S;clear j bh I aj ai J G S cd P cg hv cf hcut ae ah ej ei eg eh dT cS ak cJ cI bl bk cN A;unfold bY bg at *;go_wp2_with fail;have ct:=jh (aJ bo (aK (w:=wr) (.cells #[.i o.t,.slice a2 o.args.length c2,.i x2.k,.i x2.n,.i x2.a,.string x2.s,.slice y x2.args.length z,.slice ba x2.types.length bc,.slice ay x2.code.length aC] 111)));have cL:∀(b:Bool),Bn (o,x2)=b->(R.all Bn&&b&&M.all risesF)=r:=λb hb=>by rw[<-HR.out,<-cj.out,qc6,<-hb];simp
   have bd:=jh cL;have bp:Hid (Bn (o,x2)=(eX o x2&&(match partsOf o x2 with
    | none=>false
    | some ps=>ps.all Bn)&&(!decide (o.t=13)||risesF x2.args))):=Lu o x2
   have cm:Hid (∃d,j5 d o=true):=X.out (o,x2) ot;have cG:=qT wr (.cells #[.i o.t,.slice a2 o.args.length c2,.i x2.k,.i x2.n,.i x2.a,.string x2.s,.slice y x2.args.length z,.slice ba x2.types.length bc,.slice ay x2.code.length aC] 111);have cx:=jh cG;clear cL cG g0 g1 g2 g3 g4 g5 g6 g7 g8;refine (cp _ ct).mono ?_;rintro e w3 ⟨rfl,ao⟩;have bz:=(ao.block _ (qq.1 cx).1 ot).trans cx;have ck:=jh bz;obtain⟨m0,m1,m2,m3,m4,m5,m6,m7,m8⟩:=nL bz;obtain⟨bf,de,dj⟩:=we (aJ ct ao) (zp (xo cy (.cells #[.i o.t,.slice a2 o.args.length c2,.i x2.k,.i x2.n,.i x2.a,.string x2.s,.slice y x2.args.length z,.slice ba x2.types.length bc,.slice ay x2.code.length aC] 111)) ao (by cases (Value.slice (some ⟨g,0,none⟩) f.length cap).ownBlock<;>simp)) (zp (xo dg (.cells #[.i o.t,.slice a2 o.args.length c2,.i x2.k,.i x2.n,.i x2.a,.string x2.s,.slice y x2.args.length z,.slice ba x2.types.length bc,.slice ay x2.code.length aC] 111)) ao (by cases u5.ownBlock<;>simp));clear bz ao
   cases hf:eX o x2 with
   | false =>
    have au:r=false:=by have h:=bd.out false (by rw[bp.out,hf];rfl);rw[<-h];simp
    have Z:=jh au;clear au hf;go_wp2_with fail;go_ret;exact Lf.kZ Z.symm bf
   | true =>
    have HA:=jh (cz (TE cm hf) w3 bf);have HF:=jh hf;clear hf;go_wp2_with fail;refine HA.mono ?_;rintro e w4 ch;rcases ch with⟨⟨S,rfl⟩|⟨l,cv,ds,S,rfl,ho,hc⟩,H⟩
    .have au:r=false:=by
      have h:=bd.out false (by rw[bp.out,HF.out,S];rfl);rw[<-h];simp
     have Z:=jh au;have Y:=jh (aJ bf H);clear au S H;go_wp2_with fail;go_ret;exact Lf.kZ Z.symm Y
    .have ca:=(H.block _ (qq.1 ck).1 ot).trans ck;have ep:=jh ca;obtain⟨p0,p1,p2,p3,p4,p5,p6,p7,p8⟩:=nL ca;have Y:=jh (aJ bf H);have E:=jh (zp de H (by cases (Value.slice (some ⟨g,0,none⟩) f.length cap).ownBlock<;>simp));have F:=jh (zp dj H (by cases u5.ownBlock<;>simp));obtain⟨dz,eC⟩:=Ka S;have ey:=hc.len;have ee:=kS x2.args;have eb:=eP x2;have ef:=cD.out;have aq:f.length+ds.length<=50000000:=by omega
     have bw:W.heap.size<=w4.heap.size:=Y.out.size;have cw:Hid (Bn (o,x2)=(l.all Bn&&(!decide (o.t=13)||risesF x2.args))):=by show _=_;rw[bp.out,HF.out,S];rfl
     obtain⟨dc,bn,HC⟩:=we (yh cm HF S) ho hc;have HN:Hid (j6 R+j6 l<μ (u5,.slice (some ⟨g,0,none⟩) (f.length+1) cap,wr)/\M.length+1+(j6 R+j6 l)<=x.size):=by have N:=db.out;have B:=dd.out;refine⟨od,od⟩
     have cn:Hid (∀p∈R++l,∃d,j5 d p.1=true):=λp hp=>by
      rcases qa0.1 hp with hp|hp
      .exact X p (by simp[hp])
      .exact dc p hp
     clear ho hc S H ca eb ef dz ee m0 m1 m2 m3 m4 m5 m6 m7 m8
     by_cases O:o.t=13
     .have ea:us.length<=50000000:=by have:=HN.out.2;have:=bq.out.len;omega
      have cA:Hid (∃a c V,(Value.slice y x2.args.length z) =.slice a x2.args.length c/\aT (λ_=>True) w x2.args a V/\vsizes x2.args<=20000000):=⟨y,z,_,rfl,cC,by have:=cD.out;have:=eP x2;omega⟩;have br:Hid (∀U L Q w',kD W.heap.size L U (us++[.slice y x2.args.length z])->Gr w4 u5 L U->mH W.heap.size w' Q (f++ds)->Gr L (.slice (some ⟨g,0,none⟩) f.length cap) w' Q->∃m,m<μ (u5,.slice (some ⟨g,0,none⟩) (f.length+1) cap,wr)/\SF w W T x m U Q w'):=λU L Q w' k1 k2 N B=>by
       have cH:=zp E k2.1 (qO F E ov);refine⟨j6 (R++l),by rw[lN];exact HN.1,R++l,f++ds,M++[x2.args],us++[Value.slice y x2.args.length z],N,eF.append cl HC,(show kD W.heap.size w' U (us++[Value.slice y x2.args.length z]) from zp (show L.ownsRow W.heap.size 28 1 U _ _ from k1) B.1 (qO cH (show L.ownsRow W.heap.size 28 1 U _ _ from k1) ov)),gM.snoc cA bq,?_,cn,rfl,?_,dX (dX Y F (qv _) k2.1) cH (qv _) B.1⟩
       .have h:=bd.out _ cw;rw[HR.out,<-h,qc6,qc6];simp[O,Bool.and_assoc,Bool.and_comm,Bool.and_left_comm]
       .have:=HN.out.2;rw[lN,qS,yW];omega
      have da:Hid (∀U L,Gr w4 u5 L U->mH W.heap.size L (.slice (some ⟨g,0,none⟩) f.length cap) f/\gZ L cv ds.length (nC ds)/\W.heap.size<=L.heap.size):=λU L k2 =>
       ⟨zp E k2.1 (qO F E ov),Fe (zp bn k2.1 (qO F bn ov)),kh bw k2.1.size⟩
      have en:(o.t==13)=true:=by simpa using O
      clear O;go_wp2_with (first
       | (at_builtin;refine TC W.heap.size us y x2.args.length z w4 u5 rfl (.tmp 51) (.tmp 55) rfl rfl rfl rfl F bw ea ?_;intro U L cU cb;have dk:=jh cU;have cu:=jh cb;obtain⟨cQ,cR,eA⟩:=da.out U L cb;have cX:=jh cQ;have cY:=jh cR;clear cU cb cQ cR)
       | (at_builtin;refine Ym W.heap.size w (C:=R) (D:=l) (cs:=f) (ds:=ds) _ (.slice (some ⟨g,0,none⟩) f.length cap) cv rfl (.tmp 57) (.tmp 58) rfl rfl rfl cY HC cX oS aq ?_;intro Q w6 ar an;have bt:=jh (br _ _ Q w6 dk cu ar an);clear ar an))
      obtain⟨m,N,B⟩:=bt.out;go_roundw
      case rel=>exact⟨m,B⟩
      case measure=>exact qf3 (HM _ m B).2 N
     .have ek:(o.t==13)=false:=by simpa using O
      have br:Hid (∀Q w',mH W.heap.size w' Q (f++ds)->Gr w4 (.slice (some ⟨g,0,none⟩) f.length cap) w' Q->∃m,m<μ (u5,.slice (some ⟨g,0,none⟩) (f.length+1) cap,wr)/\SF w W T x m u5 Q w'):=λQ w' N B=>by
       refine⟨j6 (R++l),by rw[lN];exact HN.1,R++l,f++ds,M,us,N,eF.append cl HC,zp F B.1 (qO E F ov),bq,?_,cn,rfl,?_,dX Y E (qv _) B.1⟩
       .have h:=bd.out _ cw;rw[HR.out,<-h,qc6];simp[O,Bool.and_assoc]
       .have:=HN.out.2;rw[lN];omega
      clear O;go_wp2_with (at_builtin;refine Ym W.heap.size w (C:=R) (D:=l) (cs:=f) (ds:=ds) w4 (.slice (some ⟨g,0,none⟩) f.length cap) cv rfl (.tmp 57) (.tmp 58) rfl rfl rfl (Fe bn) HC E bw aq ?_;intro Q w6 ar an;have bt:=jh (br Q w6 ar an);clear ar an);obtain⟨m,N,B⟩:=bt.out;go_roundw
      case rel=>exact⟨m,B⟩
      case measure=>exact qf3 (HM _ m B).2 N
def Xm(i:aH (λ_=>True) w T u)(j:aA (λ_=>True) w x v)(d:zt T=false)(W:World)(k:w.grownBy W none) :
 Calls prog 56 #[u,v] W λe w'=>e =.returned (.bool false)/\W.grownBy w' none:=by
 obtain⟨B,C,A,D,m,o,n,y,fE,z,r,t,s,rfl⟩:=j.bg;have l:Hid (∀f,W.grownBy f none->Calls prog 45 #[u] f λe w'=>e =.returned (.bool false)/\f.grownBy w' none):=λf p=>by have:=nT (aH.up i (aJ k p));rw[d]at this;exact this
 obtain⟨a,c,V,rfl,q,h⟩:=i.inv;clear i j k d h q;unfold bY bg at *;go_enter func56,ntmps56;go_wp2_with fail;refine (l _ (aJ (aK _) (aK _))).mono ?_;rintro e E ⟨rfl,b⟩;have g:=jh (aJ (aJ (aK _) (aK _)) b);clear b;go_wp2_with fail;go_ret;exact⟨rfl,g⟩
def Lv(b:aH (λ_=>True) w T u)(c:aA (λ_=>True) w x v)(f:x.size<=20000000)(W:World)(d:w.grownBy W none) :
 Calls prog 56 #[u,v] W λe w'=>e =.returned (.bool (pY T x))/\W.grownBy w' none:=by
 unfold pY
 cases a:zt T with
 | true=>rw[je4];exact Uc b c f a W d
 | false=>rw[Bool.false_and];exact Xm b c a W d
def qW (w:World) (g:Nat) (y0 y1 y2 y3 y4 y5 y6:Value):World:=((((((w.setCell ⟨g,0,none⟩ y0).setCell ⟨g,1,none⟩ y1).setCell ⟨g,2,none⟩ y2).setCell ⟨g,3,none⟩ y3).setCell ⟨g,4,none⟩ y4).setCell ⟨g,5,none⟩ y5).setCell ⟨g,6,none⟩ y6
def wN{T:TypeId}(h:w.heap[g]?=some (.cells #[x0,x1,x2,x3,x4,x5,x6] T (0,0)))(a b c d e f i:Value) :
 (qW w g a b c d e f i).heap[g]?=some (.cells #[a,b,c,d,e,f,i] T (0,0)):=by
 simp[qW,World.setCell,yr,h]
def zy(w:World)(g:Nat)(a b c d e f h:Value):w.grownBy (qW w g a b c d e f h) (some g) :=
 dY (dY (dY (dY (dY (dY (dY (bM _ _) _ _ _) _ _ _) _ _ _) _ _ _) _ _ _) _ _ _) _ _ _
def qD{T:TypeId}(h:w.heap[g]?=some (.cells #[x0,x1,x2,x3,x4,x5,x6] T (0,0))):∀o,w.frozen? ⟨g,o,none⟩=false:=by intro o;simp[World.frozen?,h]
