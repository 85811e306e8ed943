import Derived.Test.YtgfdimkbfnpepaaGreatKmZaf
namespace Go.Proofs.YtgfdimkbfnpepaaGreat
set_option linter.all false
open Go.Proofs.Tryz
set_option maxRecDepth 100000
set_option maxHeartbeats 4000000
open Go.ChangeShapes Go.WideShapes Go.ChangeAt Go.RowKit
variable {ops:Array Oper}{s:ByteArray}{Q:Exit->Act->World->Prop}{k:Int}{M:List (List Va)}{rest:List Oper}{l:List Va}{us xs ys:List Value}{B H b c cap g n nc nl size:Nat}{V:Nat->Value}{o:Oper}{a aa na ta:Option Addr}{T:Ty}{e:TypeId}{x:Va}{u v x0 x1 x2 x3 x4 x5 x6:Value}{W w:World}
def GJ:(prog.info? 91).map (λi=>(i.zero,i.size,i.bytes))=some (some (.agg #[.n0,.n0]),2,48):=oA
def mW (B:Nat) (w:World) (v:Value) (vs:List Value):Prop:=w.ownsRow B 91 2 v vs.length (bX vs)
def PL (w:World) (r:List Va×List Va) (u:Value):Prop:=∃a1 c1 V1 a2 c2 V2,u=wC a1 r.1.length c1 a2 r.2.length c2/\(r.1.length<=c1/\r.2.length<=c2)/\aT (λ_=>True) w r.1 a1 V1/\aT (λ_=>True) w r.2 a2 V2
def lD (w:World):List (List Va×List Va)->List Value->Prop
 | [],[]=>True
 | r::rows,u::us=>PL w r u/\lD w rows us
 | [],_::_=>False
 | _::_,[]=>False
def lD.len: ∀{rows:List (List Va×List Va)}{us:List Value},lD w rows us->us.length=rows.length
 | [],[],_=>rfl
 | _::_,_::_,h=>by simp[lD.len h.2]
 | [],_::_,h=>h.elim
 | _::_,[],h=>h.elim
def lD.snoc{r:List Va×List Va}(a:PL w r u):∀{rows:List (List Va×List Va)}{us:List Value},lD w rows us->lD w (rows++[r]) (us++[u])
 | [],[],_=>⟨a,trivial⟩
 | _::_,_::_,h=>⟨h.1,lD.snoc a h.2⟩
 | [],_::_,h=>h.elim
 | _::_,[],h=>h.elim
def lD.last: ∀{rows:List (List Va×List Va)},lD w rows (us++[u])->∃a r,rows=a++[r]/\lD w a us/\PL w r u:=by
 induction us with
 | nil =>
  intro rows h
  match rows,h with
  | [r],h=>exact⟨[],r,rfl,trivial,h.1⟩
  | r::g::f,h=>exact h.2.elim
  | [],h=>exact h.elim
 | cons x us d =>
  intro rows h
  match rows,h with
  | r::f,h =>
   obtain⟨a,e,rfl,b,c⟩:=d h.2;exact⟨r::a,e,rfl,⟨h.1,b⟩,c⟩
  | [],h=>exact h.elim
def Zr{a:Act}(B:Nat)(vs:List Value)(b:Option Addr)(g d:Nat)(c:Option Addr)(l2 e:Nat)(w0:World)(v:Value)(f:o.guard=none)(s x:Operand)
 (ho:o.op =.call { callee:=.builtin .append,args:=#[s,x],argTypes:=#[92,92] }) (hs:a.eval s=v) (hx:a.eval x =.slice (some ⟨H,0,none⟩) 1 1) (hH:w0.heap.size=H)
 (hown:mW B w0 v vs) (hB:B<=w0.heap.size) (hlen:vs.length<=100000000)
 (h:∀v' w',mW B w' v' (vs++[wC b g d c l2 e])->Gr w0 v w' v'->wpList prog ops Q rest (a.put o.dst v') w') :
 wpList prog ops Q (o::rest) a (w0.alloc (.cells #[.slice b g d,.slice c l2 e] 91)):=by
 subst hH;refine ed f s x 92 ho B 91 underlying92 GJ rfl ov v vs.length (bX vs) hs (xo hown _) _ 1 [.slice b g d,.slice c l2 e] hx rfl (gZ.new _ _ _ _ _) ?_ ?_ ?_ ?_ ?_
 .intro u i;simp at i;rcases i with rfl|rfl<;>rfl
 .unfold maxLen;omega
 .omega
 .simp;omega
 .intro v' w' j k _;exact h v' w' (by unfold mW;rw[dx,qS];exact j) (Gr.trans (Gr.alloc (Gr.refl w0 v) _) k)
def rX(w:World)(o a:Obj):((w.alloc o).alloc a).heap[w.heap.size+1]?=some a:=by have:=qT (w.alloc o) a;rwa [show (w.alloc o).heap.size=w.heap.size+1 from by simp]at this
def ji{vs:List Value}{x y k m:Value}(h:w.ownsRow B e 2 (.slice (some ⟨g,0,none⟩) (n+1) cap) (n+1) (bX (vs++[.agg #[x,y]]))) :
 ((w.setCell ⟨g,n*2,none⟩ k).setCell ⟨g,n*2+1,none⟩ m).ownsRow B e 2 (.slice (some ⟨g,0,none⟩) (n+1) cap) (n+1) (bX (vs++[.agg #[k,m]])):=by
 have v:∀p q:Value,bX [.agg #[p,q]]=[p,q]:=λp q=>by simp[bX,tyCells]
 rw[dx,v]at h|-;have u:=h.1;rw[qS]at u;simp only[jn,xT]at u;have b:(bX vs).length=n*2:=od
 refine⟨oB,?_⟩;rcases h.2 with⟨d,_⟩|⟨F,o,a,d,z,A,r,C,s,D⟩
 .simp at d
 .simp only[ke,qk,qb2,and_true,true_and]at d;obtain⟨rfl,rfl⟩:=d;have E:(n+1)*2<=a.size:=by rw[s];exact jb6 _ r
  refine .inr ⟨g,cap,(a.setIfInBounds (n*2) k).setIfInBounds (n*2+1) m,rfl,z,?_,r,C,by simpa using s,?_⟩
  .simp[World.setCell,yr,A]
  .apply List.ext_getElem?;intro j;have c:=congrArg (λl=>l[j]?) D;simp only[qc5]at c|-
   by_cases t:j<(n+1)*2
   .simp only[t,if_true]at c|-;rw[qe6]at c|-
    by_cases i:j=n*2+1
    .subst i;rw[qe1 oB,js od,b];simp
    .rw[je5 od]
     by_cases f:j=n*2
     .subst f;rw[qe1 od,js od,b];simp
     .rw[je5 od,c,jt od,jt od]
   .simp only[t,if_false];rw[jb1];simp;omega
def yw{xs:List Va}{o:Nat}(h:aT (λ_=>True) w (x::xs) (some ⟨b,o,none⟩) V):aT (λ_=>True) w xs (some ⟨b,o+7,none⟩) (λi=>V (i+1)):=by
 refine⟨by have:=h.1;simp at this;omega,λi c=>?_,λi c=>?_⟩
 .obtain⟨v,z,q,y,k,n,a,s,aa,al,r,ta,tl,u,na,nl,nc,t,d,f,g,j,l,m,p⟩:=h.2.1 (i+1) (by simpa using c);simp only[qk,qb2,and_true]at q;obtain⟨rfl,rfl⟩:=q;have e:o+(i+1)*7=o+7+i*7:=by omega
  rw[e]at d f g j l m p;exact⟨b,o+7,rfl,trivial,k,n,a,s,aa,al,r,ta,tl,u,na,nl,nc,t,d,f,g,j,l,m,p⟩
 .have:=h.2.2 (i+1) (by simpa using c);simpa using this
def Li{ok:Nat->Prop}{n a:Int}{al ac:Nat}{tl tc:Nat}(h:aA ok w x (bg k n a s aa al ac ta tl tc na nl nc)) :
 al=x.args.length/\x.args.length<=ac/\∃V,aT ok w x.args aa V:=by
 obtain⟨d,e,j,l,g,i,V,o,m,c,⟨_,_,_,_,b⟩,f,_,_⟩:=h.inv;unfold bg at c;simp only[qb3,qc1,xj,qg5,jf6,ke,true_and,and_true]at c;obtain⟨_,_,_,_,⟨rfl,rfl,rfl⟩,_⟩:=c;exact⟨rfl,b,V,f⟩
def XL{a:Act}{K:Act->World->Prop}{E:Prop}(B:Nat)(vs:List Value)(b:Option Addr)(g d:Nat)(c:Option Addr)(l2 e:Nat)(w0:World)(v:Value)(f:o.guard=none)(s x:Operand)
 (ho:o.op =.call { callee:=.builtin .append,args:=#[s,x],argTypes:=#[92,92] }) (hs:a.eval s=v) (hx:a.eval x =.slice (some ⟨H,0,none⟩) 1 1) (hH:w0.heap.size=H)
 (hown:mW B w0 v vs) (hB:B<=w0.heap.size) (hlen:vs.length<=100000000)
 (h:∀v' w',mW B w' v' (vs++[wC b g d c l2 e])->Gr w0 v w' v'->K (a.put o.dst v') w') :
 if Region.wanted o (yielded ops a.tmps)=true then Oper.wp prog o a (w0.alloc (.cells #[.slice b g d,.slice c l2 e] 91)) K Q else E:=by
 subst hH;refine yx f s x 92 ho B 91 underlying92 GJ rfl ov v vs.length (bX vs) hs (xo hown _) _ 1 [.slice b g d,.slice c l2 e] hx rfl (gZ.new _ _ _ _ _) ?_ ?_ ?_ ?_ ?_
 .intro u i;simp at i;rcases i with rfl|rfl<;>rfl
 .unfold maxLen;omega
 .omega
 .simp;omega
 .intro v' w' j k _;exact h v' w' (by unfold mW;rw[dx,qS];exact j) (Gr.trans (Gr.alloc (Gr.refl w0 v) _) k)
def La (w0:World) (c:Va->Va->Int) (res:Int) (N n:Nat) (tv:Value) (wr:World):Prop :=
 ∃(us:List Value) (rows:List (List Va×List Va)),mW w0.heap.size wr tv us/\lD w0 rows us/\leftV rows=n/\n<=N/\jL c rows=res/\w0.grownBy wr none
def Im(c:Va->Va->Int)(k:Nat)(eg:∀args w,(callFunc k args).run prog w =.ok (.enter k args) w){w0:World}{xs ys:List Va}{b:Option Addr}{ca cb:Nat}{V2:Nat->Value}(cT:xs.length<=ca)(cV:ys.length<=cb)(hx:aT (λ_=>True) w0 xs a V)(hy:aT (λ_=>True) w0 ys b V2)
 (hcmp:∀(x y:Va) (u v:Value) (W:World),w0.grownBy W none->aA (λ_=>True) w0 x u->aA (λ_=>True) w0 y v->x.size<=vsizes xs->Calls prog k #[u,v] W λe w'=>e =.returned (.i (c x y))/\W.grownBy w' none) (hz:vsizes xs<=20000000) :
 Calls prog 35 #[.slice a xs.length ca,.slice b ys.length cb,.func (.func 36) #[] #[],.func (.func k) #[] #[]] w0 λe w'=>e =.returned (.i (eO c xs ys))/\w0.grownBy w' none:=by
 generalize j:eO c xs ys=res;obtain⟨μ,hμ⟩:=mM (λn (p:Value×World)=>La w0 c res (2*vsizes xs+1) n p.1 p.2);have cX:=hx.1;have cY:=hy.1;obtain⟨HX,HY,HC,HM,aq,dr,ds,HZ⟩:=wj hx hy hcmp hμ j cT cV hz;unfold maxLen at cX cY;clear hx hy hcmp hμ j cT cV hz;go_enter func35,ntmps35;go_wp2_with fail;go_loopw [9] (λtv wr=>∃n,La w0 c res (2*vsizes xs+1) n tv wr) (λtv wr=>μ (tv,wr))
 case atStart =>
  refine⟨_,[wC a xs.length ca b ys.length cb],[(xs,ys)],?_,⟨⟨a,ca,V,b,cb,V2,rfl,⟨dr.out,ds.out⟩,HX.out,HY.out⟩,trivial⟩,rfl,by rw[jW];exact qv _,by rw[Vl];exact aq.out,aK _⟩;exact⟨rfl,.inr ⟨_,1,_,rfl,qv _,qT _ _,qv _,ov,rfl,rfl⟩⟩
 case round =>
  obtain⟨n0,da⟩:=hrel;obtain⟨us,rows,z,E,hn,ct,T,hg⟩:=(HM.out (u9,wr) n0 da).1;simp only at z;have hz:=HZ.out;clear da cX cY
  by_cases hv:us.length=0
  .obtain⟨a0,fg,rfl⟩:=mg z hv;have eJ:=E.len;have dc:rows=[]:=qd7.1 od;have j:res=0:=by rw[<-T,dc];rfl
   have HR:=jh j;have HG:=jh hg;clear z E hn ct T hg j dc eJ hv aq HM HC HX HY;go_wp2_with fail;go_ret;exact Lf.lX HR.out.symm HG.out
  .have cu:us≠[]:=λe=>hv (by rw[e];rfl);have e1:=(qb4 cu).symm;generalize us.dropLast=f at e1;generalize us.getLast cu=u at e1;subst e1;obtain⟨B,r,rfl,S,eI⟩:=E.last;obtain⟨x,y⟩:=r;obtain⟨a3,c3,V3,a4,c4,V4,rfl,⟨bf,bh⟩,bb,bc⟩:=eI;simp only at bf bh bb bc;have bj:(f++[wC a3 x.length c3 a4 y.length c4]).length=f.length+1:=by simp
   have ax:=jb3 z ot;rw[bj]at ax;obtain⟨g,cap,rfl,J,ay⟩:=ax;unfold mW at z;rw[bj]at z;have cU:=QX z;have eC:f.length<=cap:=od
   obtain⟨d0,d1⟩:=zk z;have fk:f.length<=50000000:=by have h1:=E.len;have h2:=NI (B++[(x,y)]);rw[qS,yW]at h2;rw[bj,qS,yW]at h1;omega
   have cw:=bb.1;have cx:=bc.1;unfold maxLen at cw cx;obtain⟨G,I,X,Y,HN,ao,H,HG⟩:=wj z S bb bc hn ct T hg;clear z E S bb bc hn ct T hg cu hv cU bj HX HY aq
   by_cases A:x=[]\/y=[]
   .by_cases hb:x=[]/\y=[]
    .obtain⟨rfl,rfl⟩:=hb;have U:Hid (∀w,Calls prog 58 #[.i 0,.i 0] w λe w'=>e =.returned (.i 0)/\w'=w):=λw=>tT 0 0 w;have eA:Hid (∀q,∃m,m<μ (.slice (some ⟨g,0,none⟩) (f.length+1) cap,wr)/\La w0 c res (2*vsizes xs+1) m (.slice (some ⟨g,0,none⟩) f.length cap) (wr.drewN q)):=by
      intro q;refine⟨leftV B,?_,f,B,BN (w:=wr.drewN q) G.out rfl,I.out,rfl,?_,?_,iW HG.out⟩
      .have h:=HN.out;rw[iQ,jW]at h;omega
      .have h:=HN.out;have h2:=ao.out;rw[iQ,jW]at h;omega
      .rw[<-H.out,Vm]
     clear A cw cx bf bh HC HZ hz G I X Y HN ao H;go_wp2_with fail
     go_quiet ((go_at_call 58;exact qd3 (U.out _)))
     go_wp2_with fail;obtain⟨m,h1,h2⟩:=eA.out _;go_roundw
     case rel=>exact⟨m,h2⟩
     case measure=>exact qf3 (HM.out _ m h2).2 h1
    .have dd:=Vh c B x y A hb;have j:gP (x.length:Nat) (y.length:Nat)=res:=by rw[<-dd];exact H.out
     have db:¬res=0:=by
      rw[<-j];rcases A with rfl|rfl
      .have : 0<y.length:=je7.2 (λe=>hb ⟨rfl,e⟩);rw[gP,if_pos oB];decide
      .have : 0<x.length:=je7.2 (λe=>hb ⟨e,rfl⟩);rw[gP,if_neg ot,if_pos oB];decide
     have z1:(res==0)=false:=by simpa using db
     have z2:(res != 0)=true:=by simpa using db
     have U:Hid (∀w,Calls prog 58 #[.i (x.length:Nat),.i (y.length:Nat)] w λe w'=>e =.returned (.i res)/\w'=w):=λw=>by rw[<-j];exact tT _ _ w
     clear dd j bf bh HC HZ hz G I X Y HN ao H
     by_cases cv:x.length=0
     .have dk:(x.length:Int)=0:=by omega
      have ff:=jh dk;rw[dk]at U;clear cv A hb;go_wp2_with fail
      go_quiet ((go_at_call 58;exact qd3 (U.out _)))
      go_wp2_with fail;go_ret;exact Lf.lX rfl (iW HG.out)
     .have eL:y.length=0:=by
       rcases A with rfl|rfl
       .simp at cv
       .rfl
      have eK:¬(x.length:Int)=0:=od
      have fl:((x.length:Int)==0)=false:=by rw[ud];exact eK
      have eM:(y.length:Int)=0:=od
      rw[eM]at U;clear A hb cv eL;go_wp2_with fail
      go_quiet ((go_at_call 58;exact qd3 (U.out _)))
      go_wp2_with fail;go_ret;exact Lf.lX rfl (iW HG.out)
   .obtain⟨x1,s,rfl⟩:∃p l,x=p::l:=by
     cases x with
     | nil=>simp at A
     | cons p l=>exact⟨p,l,rfl⟩
    obtain⟨y1,t,rfl⟩:∃p l,y=p::l:=by
     cases y with
     | nil=>simp at A
     | cons p l=>exact⟨p,l,rfl⟩
    clear A;have aO:=X.out.2.2 0 ot;have ba:=Y.out.2.2 0 ot;simp only[qh2]at aO ba;obtain⟨M,o3,rfl,_,k1,n1,a1,s1,Z,cm,ab,bx,fE,cd,bl,bt,bo,dg,e0,e1,e2,e3,e4,e5,e6⟩:=(X.out.2.1 0 ot).same (ni HG.out);obtain⟨K,o4,rfl,_,k2,n2,a2,s2,aa,cn,ad,cc,sM,cf,bm,bw,br,dj,f0,f1,f2,f3,f4,f5,f6⟩:=(Y.out.2.1 0 ot).same (ni HG.out);rw[dg]at aO;rw[dj]at ba;rw[qh0,qc0]at e0 e1 e2 e3 e4 e5 e6 f0 f1 f2 f3 f4 f5 f6;have cz:=jh aO;have cA:=jh ba;have cW:∀o,wr.frozen? ⟨g,o,none⟩=false:=by
     rcases G.out.2 with⟨hq,_⟩|⟨g',eW,fh,hq,q1,q2,_⟩
     .simp at hq
     .simp only[ke,qk,qb2,and_true]at hq;obtain⟨rfl,_,_⟩:=hq;intro o;simp[World.frozen?,q2]
    clear aO ba dg dj;simp only[jn]at cw cx bf bh d0 d1|-;have z1:¬((s.length:Int)+1=0):=od
    have z2:(((s.length:Int)+1)==0)=false:=by rw[ud];exact z1
    have z3:¬((t.length:Int)+1=0):=od
    have z4:(((t.length:Int)+1)==0)=false:=by rw[ud];exact z3
    have q3:M<wr.heap.size:=kd wr _ e0;have q4:K<wr.heap.size:=kd wr _ f0;have q5:¬M=wr.heap.size:=od
    have q6:¬K=wr.heap.size:=od
    have q7:¬K=wr.heap.size+1:=od
    have q8:¬g=wr.heap.size:=od
    have q9:¬g=wr.heap.size+1:=od
    have ef:∀d:World,wr.grownBy d none->d.cell? ⟨M,o3,none⟩=some (.i k1):=λd h=>(qn (h.block M q3 ot)).trans e0;have eh:∀d:World,wr.grownBy d none->d.cell? ⟨M,o3+1,none⟩=some (.i n1):=λd h=>(qn (h.block M q3 ot)).trans e1;have ei:∀d:World,wr.grownBy d none->d.cell? ⟨M,o3+2,none⟩=some (.i a1):=λd h=>(qn (h.block M q3 ot)).trans e2;have ej:∀d:World,wr.grownBy d none->d.cell? ⟨M,o3+3,none⟩=some (.string s1):=λd h=>(qn (h.block M q3 ot)).trans e3;have ek:∀d:World,wr.grownBy d none->d.cell? ⟨M,o3+4,none⟩=some (.slice Z cm ab):=λd h=>(qn (h.block M q3 ot)).trans e4;have en:∀d:World,wr.grownBy d none->d.cell? ⟨M,o3+5,none⟩=some (.slice bx fE cd):=λd h=>(qn (h.block M q3 ot)).trans e5;have eo:∀d:World,wr.grownBy d none->d.cell? ⟨M,o3+6,none⟩=some (.slice bl bt bo):=λd h=>(qn (h.block M q3 ot)).trans e6;have ep:∀d:World,wr.grownBy d none->d.cell? ⟨K,o4,none⟩=some (.i k2):=λd h=>(qn (h.block K q4 ot)).trans f0;have er:∀d:World,wr.grownBy d none->d.cell? ⟨K,o4+1,none⟩=some (.i n2):=λd h=>(qn (h.block K q4 ot)).trans f1;have et:∀d:World,wr.grownBy d none->d.cell? ⟨K,o4+2,none⟩=some (.i a2):=λd h=>(qn (h.block K q4 ot)).trans f2;have eu:∀d:World,wr.grownBy d none->d.cell? ⟨K,o4+3,none⟩=some (.string s2):=λd h=>(qn (h.block K q4 ot)).trans f3;have ev:∀d:World,wr.grownBy d none->d.cell? ⟨K,o4+4,none⟩=some (.slice aa cn ad):=λd h=>(qn (h.block K q4 ot)).trans f4;have ew:∀d:World,wr.grownBy d none->d.cell? ⟨K,o4+5,none⟩=some (.slice cc sM cf):=λd h=>(qn (h.block K q4 ot)).trans f5;have ey:∀d:World,wr.grownBy d none->d.cell? ⟨K,o4+6,none⟩=some (.slice bm bw br):=λd h=>(qn (h.block K q4 ot)).trans f6;have cJ:∀d:World,wr.grownBy d none->d.cell? ⟨g,f.length*2,none⟩=some (.slice (some ⟨M,o3,none⟩) (s.length+1) c3):=λd h=>(qn (h.block g ay ot)).trans d0;have cL:∀d:World,wr.grownBy d none->d.cell? ⟨g,f.length*2+1,none⟩=some (.slice (some ⟨K,o4,none⟩) (t.length+1) c4):=λd h=>(qn (h.block g ay ot)).trans d1
    go_upto_region 9 with (fail)
    go_cut [12,13] (λp q wx=>∃P Q:Nat,p =.pointer (some ⟨P,0,none⟩)/\q =.pointer (some ⟨Q,0,none⟩)/\wr.heap.size<=P/\wr.heap.size<=Q/\wx.heap[P]?=some (.cells #[.i k1,.i n1,.i a1,.string s1,.slice Z cm ab,.slice bx fE cd,.slice bl bt bo] 36 (0,0))/\wx.heap[Q]?=some (.cells #[.i k2,.i n2,.i a2,.string s2,.slice aa cn ad,.slice cc sM cf,.slice bm bw br] 36 (0,0))/\wr.grownBy wx none)
    case first =>
     go_region_held3 (λw'=>wr.grownBy w' none) (first|assumption|exact fK (bM _ _)|exact fK (aK _)|exact fK (aJ (aK _) (aK _))|exact aK _|exact aJ (aK _) (aK _)) (fail)
     all_goals
      go_wp2_with fail;go_meet
      first
      | exact⟨_,_,rfl,rfl,od,od,CJ _ _ _,rX _ _ _,fK (aJ (aK _) (aK _))⟩
      | exact⟨_,_,rfl,rfl,od,od,rX _ _ _,CJ _ _ _,fK (aJ (aK _) (aK _))⟩
    case rest =>
     obtain⟨P,Q,rfl,rfl,fi,fj,ae,ah,aj⟩:=hcut;have g0:=cJ wc aj;have g1:=cL wc aj;have eE:∀o,wc.frozen? ⟨g,o,none⟩=false:=by intro o;have h1:=aj.block g ay ot;have h2:=cW o;simp only[World.frozen?]at h2|-;rw[h1];exact h2
     obtain⟨L,an,ar,au⟩:=JT (zp G.out aj (.inr oX)) (aJ HG.out aj) ae ah;have C:g≠P:=od
     have D:g≠Q:=od
     clear ef eh ei ej ek en eo ep er et eu ev ew ey cJ cL e0 e1 e2 e3 e4 e5 e6 f0 f1 f2 f3 f4 f5 f6 d0 d1 ae ah aj cW
     go_upto_region 10 with (fail)
     go_cut [] (λwx=>∃(p3 p4:Option Addr) (U3 U4:Nat->Value),aT (λ_=>True) w0 s p3 U3/\aT (λ_=>True) w0 t p4 U4/\wx.ownsRow w0.heap.size 91 2 (.slice (some ⟨g,0,none⟩) (f.length+1) cap) (f.length+1) (bX (f++[wC p3 s.length (c3 - 1) p4 t.length (c4 - 1)]))/\w0.grownBy wx none/\wx.heap[P]?=some (.cells #[.i k1,.i n1,.i a1,.string s1,.slice Z cm ab,.slice bx fE cd,.slice bl bt bo] 36 (0,0))/\wx.heap[Q]?=some (.cells #[.i k2,.i n2,.i a2,.string s2,.slice aa cn ad,.slice cc sM cf,.slice bm bw br] 36 (0,0)))
     case first =>
      by_cases cQ:c3=1
      .by_cases cq:c4=1
       .obtain rfl:s=[]:=ju od;subst cQ;obtain rfl:t=[]:=ju od;subst cq
        go_region_with (fail)
        all_goals
         go_wp2_with fail;go_meet;exact⟨_,_,_,_,aT.nil _ _ _ V3,aT.nil _ _ _ V4,ji (w:=wc) L.out,fK (aX (aX an.out J _ _ _) J _ _ _),bH (bH ar.out C.symm _) C.symm _,bH (bH au.out D.symm _) D.symm _⟩
       .obtain rfl:s=[]:=ju od;subst cQ;have cS:¬c4 - 1=0:=by omega
        go_region_with (fail)
        all_goals
         go_wp2_with fail;go_meet;exact⟨_,_,_,_,aT.nil _ _ _ V3,yw Y.out,ji (w:=wc) L.out,fK (aX (aX an.out J _ _ _) J _ _ _),bH (bH ar.out C.symm _) C.symm _,bH (bH au.out D.symm _) D.symm _⟩
      .by_cases cq:c4=1
       .have cR:¬c3 - 1=0:=by omega
        obtain rfl:t=[]:=ju od;subst cq
        go_region_with (fail)
        all_goals
         go_wp2_with fail;go_meet;exact⟨_,_,_,_,yw X.out,aT.nil _ _ _ V4,ji (w:=wc) L.out,fK (aX (aX an.out J _ _ _) J _ _ _),bH (bH ar.out C.symm _) C.symm _,bH (bH au.out D.symm _) D.symm _⟩
       .have cR:¬c3 - 1=0:=by omega
        have cS:¬c4 - 1=0:=od
        go_region_with (fail)
        all_goals
         go_wp2_with fail;go_meet;exact⟨_,_,_,_,yw X.out,yw Y.out,ji (w:=wc) L.out,fK (aX (aX an.out J _ _ _) J _ _ _),bH (bH ar.out C.symm _) C.symm _,bH (bH au.out D.symm _) D.symm _⟩
     case rest =>
      obtain⟨p3,p4,U3,U4,cM,cN,aC,cr,ae,ah⟩:=hcut;obtain⟨x0,eS,x2,x3,x4,x5,x6⟩:=cO ae;obtain⟨y0,eV,y2,y3,y4,y5,y6⟩:=cO ah;have de:x1.size<=vsizes xs:=by have h1:=HN.out;have h2:=ao.out;rw[iQ,jW]at h1;simp only[vsizes]at h1;omega
      have cp:=HC.out x1 y1 _ _ wc cr cz.out cA.out de;unfold bg at cp;obtain⟨cl,cy,dT,ea,dz,cG,cI⟩:=wi cp cr cM cN aC ae ah;clear cp cr cM cN aC ae ah de L an ar au G;go_wp2_with fail;refine cl.out.mono ?_;rintro e F ⟨rfl,R⟩
      by_cases ai:c x1 y1=0
      .have dq:=jh ai;have cF:=jh ((R.block _ (qq.1 cG.out).1 ot).trans cG.out);have cH:=jh ((R.block _ (qq.1 cI.out).1 ot).trans cI.out);have aE:=jh (aJ cy.out R);have cC:=jh (zp dz.out R (.inr oX));clear R cl x0 eS x2 x3 x4 x5 x6 y0 eV y2 y3 y4 y5 y6 g0 g1 eE;rw[ai];clear ai;obtain⟨rfl,cj,W1,cg⟩:=Li cz.out;obtain⟨rfl,ck,W2,ch⟩:=Li cA.out;have cD:=jh cg;have cE:=jh ch;have dn:=jh cj;have dp:=jh ck;have fc:mW w0.heap.size F.drew (.slice (some ⟨g,0,none⟩) (f.length+1) cap) (f++[wC p3 s.length (c3 - 1) p4 t.length (c4 - 1)]):=by
        unfold mW;rw[qS];exact cC.out
       have dv:Hid (∀v' w',mW w0.heap.size w' v' ((f++[wC p3 s.length (c3 - 1) p4 t.length (c4 - 1)])++[wC Z x1.args.length ab aa y1.args.length ad])->w0.grownBy w' none->∃m,m<μ (.slice (some ⟨g,0,none⟩) (f.length+1) cap,wr)/\La w0 c res (2*vsizes xs+1) m v' w'):=by
        intro v' w' bk bd;have h1:=HN.out;rw[iQ,jW]at h1;simp only[vsizes]at h1;have h2:=eP x1;refine⟨leftV (B++[(s,t)]++[(x1.args,y1.args)]),?_,_,_,bk,lD.snoc ⟨Z,ab,W1,aa,ad,W2,rfl,⟨dn.out,dp.out⟩,cD.out,cE.out⟩ (lD.snoc ⟨p3,c3 - 1,U3,p4,c4 - 1,U4,rfl,⟨by show s.length<=_;omega,by show t.length<=_;omega⟩,dT.out,ea.out⟩ I.out),rfl,?_,?_,bd⟩
        .rw[iQ,iQ,jW,jW];simp only;omega
        .have h3:=ao.out;rw[iQ,iQ,jW,jW];simp only;omega
        .rw[<-H.out,RZ c B x1 y1 s t dq.out]
       have ez:w0.heap.size<=F.heap.size:=aE.out.size;have fa:g<F.heap.size:=by have:=cC.out;exact (kp this g rfl).2
       have eN:P≠g:=od
       have eR:Q≠g:=od
       have N:∀d:World,F.grownBy d (some g)->d.heap[P]?=_:=λd h=>(h.block P (qq.1 cF.out).1 (by simpa using eN)).trans cF.out;have fp:∀d:World,F.grownBy d (some g)->d.cell? ⟨P,0,none⟩=some (.i k1):=λd h=>(cO (N d h)).1;have fr:∀d:World,F.grownBy d (some g)->d.cell? ⟨P,1,none⟩=some (.i n1):=λd h=>(cO (N d h)).2.1;have fs:∀d:World,F.grownBy d (some g)->d.cell? ⟨P,2,none⟩=some (.i a1):=λd h=>(cO (N d h)).2.2.1;have ft:∀d:World,F.grownBy d (some g)->d.cell? ⟨P,3,none⟩=some (.string s1):=λd h=>(cO (N d h)).2.2.2.1;have fv:∀d:World,F.grownBy d (some g)->d.cell? ⟨P,4,none⟩=some (.slice Z x1.args.length ab):=λd h=>(cO (N d h)).2.2.2.2.1;have fx:∀d:World,F.grownBy d (some g)->d.cell? ⟨P,5,none⟩=some (.slice bx fE cd):=λd h=>(cO (N d h)).2.2.2.2.2.1;have fy:∀d:World,F.grownBy d (some g)->d.cell? ⟨P,6,none⟩=some (.slice bl bt bo):=λd h=>(cO (N d h)).2.2.2.2.2.2;clear N;have O:∀d:World,F.grownBy d (some g)->d.heap[Q]?=_:=λd h=>(h.block Q (qq.1 cH.out).1 (by simpa using eR)).trans cH.out;have fz:∀d:World,F.grownBy d (some g)->d.cell? ⟨Q,0,none⟩=some (.i k2):=λd h=>(cO (O d h)).1;have fB:∀d:World,F.grownBy d (some g)->d.cell? ⟨Q,1,none⟩=some (.i n2):=λd h=>(cO (O d h)).2.1;have fL:∀d:World,F.grownBy d (some g)->d.cell? ⟨Q,2,none⟩=some (.i a2):=λd h=>(cO (O d h)).2.2.1;have fN:∀d:World,F.grownBy d (some g)->d.cell? ⟨Q,3,none⟩=some (.string s2):=λd h=>(cO (O d h)).2.2.2.1;have fR:∀d:World,F.grownBy d (some g)->d.cell? ⟨Q,4,none⟩=some (.slice aa y1.args.length ad):=λd h=>(cO (O d h)).2.2.2.2.1;have fS:∀d:World,F.grownBy d (some g)->d.cell? ⟨Q,5,none⟩=some (.slice cc sM cf):=λd h=>(cO (O d h)).2.2.2.2.2.1;have fW:∀d:World,F.grownBy d (some g)->d.cell? ⟨Q,6,none⟩=some (.slice bm bw br):=λd h=>(cO (O d h)).2.2.2.2.2.2;clear O;have az:(f++[wC p3 s.length (c3 - 1) p4 t.length (c4 - 1)]).length<=100000000:=oB
       have du:=jh az;clear cg ch cj ck az;go_wp2_with fail;go_region_held3 (λw'=>F.grownBy w' (some g)) (first|assumption|exact fK (bM _ _)|exact fF oS (kL (aK _))) (first
        | (go_at_call 36;refine (OM _ _ _ _ _ _ _ _ _ _ _ _ _ _).mono ?_;rintro e w' ⟨rfl,hg⟩;have hS:=fF (r:=some g) oS (kL hg);have hO:mW w0.heap.size w' (.slice (some ⟨g,0,none⟩) (f.length+1) cap) (f++[wC p3 s.length (c3 - 1) p4 t.length (c4 - 1)]):=zp oS hg (.inr oX))
        | (refine XL w0.heap.size (f++[wC p3 s.length (c3 - 1) p4 t.length (c4 - 1)]) _ _ _ _ _ _ _ (.slice (some ⟨g,0,none⟩) (f.length+1) cap) rfl (.tmp 95) (.tmp 103) rfl rfl rfl rfl oS (kh ez (show F.grownBy _ (some g) from by assumption).size) du.out ?_;intro v' w9 bk bd;have cP:F.grownBy w9 (some g):=fF oS bd.1;have dy:=jh bk;clear bk bd))
       all_goals
        have ee:=jh (aG aE.out cP J);clear cP;go_wp2_with fail;obtain⟨m,h1,h2⟩:=dv.out _ _ dy.out ee.out;go_roundw
        case rel=>exact⟨m,h2⟩
        case measure=>exact qf3 (HM.out _ m h2).2 h1
      .have z5:(c x1 y1==0)=false:=by simpa using ai
       have z6:(c x1 y1 != 0)=true:=by simpa using ai
       have j:c x1 y1=res:=by rw[<-H.out,Vn c _ x1 y1 s t ai]
       have eb:=jh j;have aE:=jh (aJ cy.out R);clear R cl j;go_wp2_with fail;go_ret;exact Lf.lX eb.out aE.out
def wrapN(n:Nat)(h:n<9223372036854775808):IntKind.i64.wrap (n:Int)=(n:Int):=by have e:(n:Int) % 2 ^ 64=n:=Int.emod_eq_of_lt od od;simp only[IntKind.wrap,IntKind.bits,IntKind.signed,e];rw[if_neg];simp;omega
def ent_ord1:∀args w,(callFunc 182 args).run prog w =.ok (.enter 182 args) w:=λargs w=>OK
def aA.up(h:aA (λ_=>True) w x v)(a:w.grownBy W none):aA (λ_=>True) W x v:=h.same (ni a)
def vF{n a:Int}{al ac:Nat}{tl tc:Nat}{T:TypeId}
 (hb:W.heap[b]?=some (.cells #[.i k,.i n,.i a,.string s,.slice aa al ac,.slice ta tl tc,.slice na nl nc] T (0,0))) (hL:aA (λ_=>True) W x (bg k n a s aa al ac ta tl tc na nl nc)):aT (λ_=>True) W [x] (some ⟨b,0,none⟩) (λ_=>bg k n a s aa al ac ta tl tc na nl nc):=by
 refine⟨OS,λi c=>?_,λi c=>?_⟩
 .have : i=0:=by simpa using c
  subst this;obtain⟨d,e,f,g,h,j,l⟩:=cO hb;exact⟨b,0,rfl,trivial,k,n,a,s,aa,al,ac,ta,tl,tc,na,nl,nc,rfl,d,e,f,g,h,j,l⟩
 .have : i=0:=by simpa using c
  subst this;exact hL
def kH(w:World)(a b c d:Obj):((((w.alloc a).alloc b).alloc c).alloc d).heap[w.heap.size+1+1]?=some c:=by have h:=CJ ((w.alloc a).alloc b) c d;rwa [show ((w.alloc a).alloc b).heap.size=w.heap.size+1+1 from by simp]at h
def xV(w:World)(a b d c:Obj):((((w.alloc a).alloc b).alloc d).alloc c).heap[w.heap.size+1+1+1]?=some c:=by have h:=rX ((w.alloc a).alloc b) d c;rwa [show ((w.alloc a).alloc b).heap.size=w.heap.size+1+1 from by simp]at h
def zh{y:Va}(j:aA (λ_=>True) w x u)(k:aA (λ_=>True) w y v)(J:x.size<=20000000)(W:World)(s:w.grownBy W none) :
 Calls prog 136 #[u,v] W λe w'=>e =.returned (.i (gT x y))/\W.grownBy w' none:=by
 obtain⟨X,Z,Q,s1,l,p,n,E,fE,G,t,C,A,rfl⟩:=j.bg;obtain⟨Y,n2,R,s2,m,q,o,F,sM,H,z,D,B,rfl⟩:=k.bg;obtain⟨M,N,O⟩:=we (aA.up j s) (aA.up k s) J;have I:∀(a:World) (b c:Nat) (d f:Nat),W.grownBy a none->1<=d->1<=f->a.heap[b]?=some (.cells #[.i X,.i Z,.i Q,.string s1,.slice l p n,.slice E fE G,.slice t C A] 36 (0,0))->a.heap[c]?=some (.cells #[.i Y,.i n2,.i R,.string s2,.slice m q o,.slice F sM H,.slice z D B] 36 (0,0)) ->
  Calls prog 35 #[.slice (some ⟨b,0,none⟩) 1 d,.slice (some ⟨c,0,none⟩) 1 f,.func (.func 36) #[] #[],.func (.func 182) #[] #[]] a λe w'=>e =.returned (.i (gT x y))/\a.grownBy w' none:=by
  intro a b c d f g S T U V;have h:=Im nQ 182 ent_ord1 (w0:=a) (xs:=[x]) (ys:=[y]) (ca:=d) (cb:=f) S T (vF U (aA.up M g)) (vF V (aA.up N g)) (λx y u v P h3 j k _=>Q5 j k P) (by have:=O.out;simp[vsizes];omega);rw[Eg]at h;exact h
 have L:=jh I;clear I j k J s;generalize gT x y=r at *;unfold bg at *;go_enter func136,ntmps136;go_wp2_with fail;refine (L _ _ _ 1 1 (aJ (aJ (aJ (aK _) (aK _)) (aK _)) (aK _)) (qv _) (qv _) (kH _ _ _ _ _) (xV _ _ _ _ _)).mono ?_;rintro e w1 ⟨rfl,g⟩;have K:=jh (aJ (aJ (aJ (aJ (aK _) (aK _)) (aK _)) (aK _)) g);clear g;go_wp2_with fail;go_ret;exact⟨rfl,K⟩
def rV(ok:Nat->Prop)(w:World):aA ok w zeroVa (bg 0 0 0 ⟨#[]⟩ none 0 0 none 0 0 none 0 0) :=
 aA.of (args:=[]) (types:=[]) (code:=[]) (V:=λ_=>.i 0) (VT:=λ_=>.i 0) (VN:=λ_=>.i 0) (kB _) ov (by constructor<;>decide) (by constructor<;>decide) (by constructor<;>decide) (aT.nil _ _ _ _) (dw.nil _ _ _ _) (cK.nil _ _ _ _)
def DI(Q:aA (λ_=>True) w x u)(W:World)(P:w.grownBy W none) :
 Calls prog 137 #[u] W λe w'=>∃kv,e =.returned kv/\aA (λ_=>True) w (fU x) kv/\W.grownBy w' none:=by
 obtain⟨aa,y,ta,z,na,nc,VV,VT,VN,rfl,⟨ik,iN,ia,Z,D⟩,b,B,A⟩:=Q.inv;have I:=b.1;unfold maxLen at I
 cases O:x.args with
 | nil =>
  have C:fU x=zeroVa:=by unfold fU;rw[O]
  rw[C];have HZ:=jh (rV (λ_=>True) w);clear Q b B A C ik iN ia Z D P I;simp only[xT];unfold bg at *;go_enter func137,ntmps137;go_wp2_with fail;have r:=rX W (.cells #[.i x.k,.i x.n,.i x.a,.string x.s,.slice aa 0 y,.slice ta x.types.length z,.slice na x.code.length nc] 36) (.cells #[.i 0,.i 0,.i 0,.string ⟨#[]⟩,.n0,.n0,.n0] 36);have t:W.grownBy ((W.alloc (.cells #[.i x.k,.i x.n,.i x.a,.string x.s,.slice aa 0 y,.slice ta x.types.length z,.slice na x.code.length nc] 36)).alloc (.cells #[.i 0,.i 0,.i 0,.string ⟨#[]⟩,.n0,.n0,.n0] 36)) none:=aJ (aK _) (aK _);generalize (W.alloc (.cells #[.i x.k,.i x.n,.i x.a,.string x.s,.slice aa 0 y,.slice ta x.types.length z,.slice na x.code.length nc] 36)).alloc (.cells #[.i 0,.i 0,.i 0,.string ⟨#[]⟩,.n0,.n0,.n0] 36)=wf at *;obtain⟨S,F,M,T,U,V,X⟩:=cO r;exact zv (v:=bg 0 0 0 ⟨#[]⟩ none 0 0 none 0 0 none 0 0) (by simp[results,results137,go_sem,S,F,M,T,U,V,X,bg]) rfl ⟨_,rfl,HZ,t⟩
 | cons p l =>
  have C:fU x=p:=by unfold fU;rw[O]
  rw[C];rw[O]at b I;have g:=b.2.2 0 ot;simp only[qh2]at g;obtain⟨H,R,rfl,_,J,K,G,L,c,f,d,o,fE,q,h,m,j,E,Y,e1,e2,e3,e4,e5,e6⟩:=(b.2.1 0 ot).same (ni P);rw[E]at g;rw[qh0,qc0]at Y e1 e2 e3 e4 e5 e6;have q3:H<W.heap.size:=kd W _ Y;have N:=jh g;have F:¬((l.length:Int)+1=0):=od
  have M:(((l.length:Int)+1)==0)=false:=by rw[ud];exact F
  clear Q b B A C ik iN ia Z D P g E;simp only[jn]at I|-;unfold bg at *;go_enter func137,ntmps137;go_wp2_with fail;have r:=rX W (.cells #[.i x.k,.i x.n,.i x.a,.string x.s,.slice (some ⟨H,R,none⟩) (l.length+1) y,.slice ta x.types.length z,.slice na x.code.length nc] 36) (.cells #[.i J,.i K,.i G,.string L,.slice c f d,.slice o fE q,.slice h m j] 36);have t:W.grownBy ((W.alloc (.cells #[.i x.k,.i x.n,.i x.a,.string x.s,.slice (some ⟨H,R,none⟩) (l.length+1) y,.slice ta x.types.length z,.slice na x.code.length nc] 36)).alloc (.cells #[.i J,.i K,.i G,.string L,.slice c f d,.slice o fE q,.slice h m j] 36)) none:=aJ (aK _) (aK _);generalize (W.alloc (.cells #[.i x.k,.i x.n,.i x.a,.string x.s,.slice (some ⟨H,R,none⟩) (l.length+1) y,.slice ta x.types.length z,.slice na x.code.length nc] 36)).alloc (.cells #[.i J,.i K,.i G,.string L,.slice c f d,.slice o fE q,.slice h m j] 36)=wf at *;obtain⟨S,F,M,T,U,V,X⟩:=cO r;exact zv (v:=bg J K G L c f d o fE q h m j) (by simp[results,results137,go_sem,S,F,M,T,U,V,X,bg]) rfl ⟨_,rfl,N,t⟩
def Bu(x:Va):(fU x).size<=x.size:=by
 have h:=eP x;unfold fU
 cases a:x.args with
 | nil=>have:=qZ x;simp[zeroVa,Va.size,vsizes,tysizes,sizes];omega
 | cons p l=>rw[a,vsizes]at h;simp only;omega
def Oi(Z:aT (λ_=>True) w l a V)(hz:vsizes l<=20000000)(W:World)(hW:w.grownBy W none) :
 Calls prog 88 #[.slice a l.length c] W λe w'=>e =.returned (.bool (risesF l))/\W.grownBy w' none:=by
 have hn:=Z.1;unfold maxLen at hn;obtain⟨HL,HZ,HW⟩:=we Z hz hW;clear Z hz hW;go_enter func88,ntmps88;go_wp2_with fail;go_loopw [3] (λiv wr=>∃j:Nat,1<=j/\(j<=l.length\/j=1)/\iv =.i j/\(∀i (h:i+1<l.length),i+1<j->gT (fU l[i]) (fU l[i+1])<0)/\W.grownBy wr none) (λiv _=>l.length - (intOf iv).toNat)
 case atStart=>exact⟨1,qv _,.inr rfl,rfl,λi h hi=>od,bM _ _⟩
 case round =>
  obtain⟨j,bk,bl,rfl,f,n⟩:=hrel
  by_cases q:j<l.length
  .obtain⟨m,rfl⟩:∃m,j=m+1:=⟨j - 1,od⟩;have o:=aJ HW n;have G:=HL.out.2.2 m od;have H:=HL.out.2.2 (m+1) q;obtain⟨d,g,I,_,k1,n1,a1,s1,P,T,R,aj,fE,ao,aa,ah,ad,L,X,e1,e2,e3,e4,e5,e6⟩:=(HL.out.2.1 m od).same (ni o);obtain⟨bf,of,B,_,k2,n2,a2,s2,Q,U,S,an,sM,aq,ab,ai,ae,M,f0,f1,f2,f3,f4,f5,f6⟩:=(HL.out.2.1 (m+1) q).same (ni o);rw[I]at B;simp only[qk,qb2,and_true]at B;obtain⟨rfl,rfl⟩:=B;subst I;rw[L]at G;rw[M]at H;unfold bg at G H;have k:d<wr.heap.size:=kd wr _ X;have ar:∀b:World,wr.grownBy b none->b.cell? ⟨d,g+m*7,none⟩=some (.i k1):=λb h=>(qn (h.block d k ot)).trans X;have au:∀b:World,wr.grownBy b none->b.cell? ⟨d,g+m*7+1,none⟩=some (.i n1):=λb h=>(qn (h.block d k ot)).trans e1;have ax:∀b:World,wr.grownBy b none->b.cell? ⟨d,g+m*7+2,none⟩=some (.i a1):=λb h=>(qn (h.block d k ot)).trans e2;have ay:∀b:World,wr.grownBy b none->b.cell? ⟨d,g+m*7+3,none⟩=some (.string s1):=λb h=>(qn (h.block d k ot)).trans e3;have az:∀b:World,wr.grownBy b none->b.cell? ⟨d,g+m*7+4,none⟩=some (.slice P T R):=λb h=>(qn (h.block d k ot)).trans e4;have aC:∀b:World,wr.grownBy b none->b.cell? ⟨d,g+m*7+5,none⟩=some (.slice aj fE ao):=λb h=>(qn (h.block d k ot)).trans e5;have aE:∀b:World,wr.grownBy b none->b.cell? ⟨d,g+m*7+6,none⟩=some (.slice aa ah ad):=λb h=>(qn (h.block d k ot)).trans e6;have aO:∀b:World,wr.grownBy b none->b.cell? ⟨d,g+(m+1)*7,none⟩=some (.i k2):=λb h=>(qn (h.block d k ot)).trans f0;have ba:∀b:World,wr.grownBy b none->b.cell? ⟨d,g+(m+1)*7+1,none⟩=some (.i n2):=λb h=>(qn (h.block d k ot)).trans f1;have bb:∀b:World,wr.grownBy b none->b.cell? ⟨d,g+(m+1)*7+2,none⟩=some (.i a2):=λb h=>(qn (h.block d k ot)).trans f2;have bc:∀b:World,wr.grownBy b none->b.cell? ⟨d,g+(m+1)*7+3,none⟩=some (.string s2):=λb h=>(qn (h.block d k ot)).trans f3;have bd:∀b:World,wr.grownBy b none->b.cell? ⟨d,g+(m+1)*7+4,none⟩=some (.slice Q U S):=λb h=>(qn (h.block d k ot)).trans f4;have bh:∀b:World,wr.grownBy b none->b.cell? ⟨d,g+(m+1)*7+5,none⟩=some (.slice an sM aq):=λb h=>(qn (h.block d k ot)).trans f5;have bj:∀b:World,wr.grownBy b none->b.cell? ⟨d,g+(m+1)*7+6,none⟩=some (.slice ab ai ae):=λb h=>(qn (h.block d k ot)).trans f6;have s:Hid (∀(x:Va) (u:Value),aA (λ_=>True) w x u->∀b:World,wr.grownBy b none->Calls prog 137 #[u] b λe w'=>∃N,e =.returned N/\aA (λ_=>True) w (fU x) N/\b.grownBy w' none):=λx u hx b h=>DI hx b (aJ o h);have K:(fU l[m]).size<=20000000:=by
    have h1:(fU l[m]).size<=(l[m]).size:=Bu _;have h2:(l[m]).size<=vsizes l:=fO (zj _);have h3:=HZ.out;omega
   have t:Hid (∀(u v:Value),aA (λ_=>True) w (fU l[m]) u->aA (λ_=>True) w (fU l[m+1]) v->∀b:World,wr.grownBy b none->Calls prog 136 #[u,v] b λe w'=>e =.returned (.i (gT (fU l[m]) (fU l[m+1])))/\b.grownBy w' none):=λu v hu hv b h=>zh hu hv K b (aJ o h);have p:=jh n;have E:=jh f;have w1:IntKind.i64.wrap (m:Int)=(m:Int):=wrapN m od;have w2:IntKind.i64.wrap ((m:Int)+1 - 1)=(m:Int):=by rw[show (m:Int)+1 - 1=(m:Int) from by omega];exact w1
   have w3:IntKind.i64.wrap ((m:Int)+1)=(m:Int)+1:=by rw[show (m:Int)+1=((m+1:Nat):Int) from by omega];exact wrapN (m+1) od
   have w4:(m:Int)<(l.length:Int):=od
   have w5:(m:Int)+1<(l.length:Int):=od
   have w6:m<l.length:=od
   have w7:m+1<l.length:=q;have w8:(0:Int)<=(m:Int)+1:=od
   clear n f o K L M X e1 e2 e3 e4 e5 e6 f0 f1 f2 f3 f4 f5 f6;generalize hr:gT (fU l[m]) (fU l[m+1])=r at *;have HR:=jh hr;clear hr
   by_cases J:r<0
   .have D:¬0<=r:=by omega
    go_wp2_with fail;go_region_held3 (λw'=>wr.grownBy w' none) (first|assumption|exact fK (bM _ _)) (first
     | (go_at_call 137;refine (s _ _ oS _ oS).mono ?_;rintro e w' ⟨N,rfl,F,C⟩;obtain⟨_,_,_,_,_,_,_,_,_,_,_,_,_,rfl⟩:=F.bg;unfold bg at F|-;have A:=aJ oS C)
     | (go_at_call 136;refine (t _ _ oS oS _ oS).mono ?_;rintro e w' ⟨rfl,C⟩;have A:=aJ oS C))
    have z:=jh (aJ p A);clear A;go_wp2_with fail;go_roundw
    case rel =>
     refine⟨m+1+1,od,.inl od,OF,λi h hi=>?_,z⟩
     by_cases Y:i+1<m+1
     .exact E i h Y
     .obtain rfl:i=m:=by omega
      rw[HR.out];exact J
    case measure=>simp[intOf];omega
   .have D:0<=r:=by omega
    go_wp2_with fail;go_region_held3 (λw'=>wr.grownBy w' none) (first|assumption|exact fK (bM _ _)) (first
     | (go_at_call 137;refine (s _ _ oS _ oS).mono ?_;rintro e w' ⟨N,rfl,F,C⟩;obtain⟨_,_,_,_,_,_,_,_,_,_,_,_,_,rfl⟩:=F.bg;unfold bg at F|-;have A:=aJ oS C)
     | (go_at_call 136;refine (t _ _ oS oS _ oS).mono ?_;rintro e w' ⟨rfl,C⟩;have A:=aJ oS C))
    have z:=jh (aJ p A);clear A;go_wp2_with fail;go_ret;exact Lf.kZ (Oh l m q (by rw[HR.out];omega)).symm z
  .have y:risesF l=true:=(Cb l).2 λi h=>f i h od;have O:=jh y;have p:=jh n;have bm:¬(j:Int)<(l.length:Int):=by omega
   clear y n f;go_wp2_with fail;go_ret;exact Lf.kZ O.symm p
def Qv(f:aT (λ_=>True) w l a V)(g:vsizes l<=20000000)(W:World)(b:w.grownBy W none) :
 Calls prog 87 #[.slice a l.length c] W λe w'=>e =.returned (.bool (!risesF l))/\W.grownBy w' none:=by
 have H:=jh (Oi (c:=c) f g W b);clear f g b;generalize risesF l=r at *;go_enter func87,ntmps87;go_wp2_with fail;refine H.mono ?_;rintro e i ⟨rfl,d⟩;have h:=jh d;clear d;go_wp2_with fail;go_ret;exact⟨rfl,h⟩
def ent_has1:∀args w,(callFunc 87 args).run prog w =.ok (.enter 87 args) w:=λargs w=>OK
def I4 (w W:World) (M:List (List Va)) (a:Option Addr):Prop :=
 M.length<=maxLen/\∀i (h:i<M.length),∃b o ai ci V,a=some ⟨b,o,none⟩/\W.cell? ⟨b,o+i,none⟩=some (.slice ai M[i].length ci)/\aT (λ_=>True) w M[i] ai V/\vsizes M[i]<=20000000
def Nz(y:I4 w W M a)(F:w.grownBy W none) :
 Calls prog 135 #[.slice a M.length c,.func (.func 87) #[] #[]] W λe w'=>∃r:Int,e =.returned (.i r)/\((0<=r/\M.all risesF=false)\/(r = -1/\M.all risesF=true))/\W.grownBy w' none:=by
 have L:=y.1;unfold maxLen at L;have HM:=jh y;have G:=jh F;have P:=ent_has1;clear y F;go_enter func135,ntmps135;go_wp2_with fail;go_loopw [8] (λC wr=>∃j:Nat,j<=M.length/\C =.i j/\(∀i (h:i<M.length),i<j->risesF M[i]=true)/\W.grownBy wr none) (λC _=>M.length - (intOf C).toNat)
 case atStart=>exact⟨0,kB _,rfl,λi h A=>od,bM _ _⟩
 case round =>
  obtain⟨j,Q,rfl,l,g⟩:=hrel;have k:=jh l;have m:=jh g;clear l
  by_cases q:j<M.length
  .obtain⟨b,o,H,E,V,rfl,d,z,s⟩:=HM.out.2 j q;have J:wr.cell? ⟨b,o+j,none⟩=some (.slice H M[j].length E):=(qn (g.block b (kd W _ d) ot)).trans d;have t:=jh (Qv (c:=E) z s wr (aJ G g));have B:=z.1;unfold maxLen at B;clear d z s g
   cases n:risesF M[j]with
   | true =>
    rw[n]at t;have v:=jh n;clear n;go_wp2_with fail;refine t.mono ?_;rintro e O ⟨rfl,p⟩;have u:=jh (aJ m p);clear p;go_wp2_with fail;go_roundw
    case rel =>
     refine⟨j+1,od,OF,λi h A=>?_,u⟩
     by_cases e:i=j
     .subst e;exact v
     .exact k i h od
    case measure=>simp[intOf];omega
   | false =>
    rw[n]at t;have v:=jh n;clear n;go_wp2_with fail;refine t.mono ?_;rintro e O ⟨rfl,p⟩;have u:=jh (aJ m p);clear p;go_wp2_with fail;go_ret;refine⟨_,rfl,.inl ⟨od,?_⟩,u⟩
    cases I:M.all risesF with
    | false=>rfl
    | true=>have:=zr.1 I M[j] (zj q);rw[v.out]at this;cases this
  .have f:M.all risesF=true:=zr.2 λx N=>by
    obtain⟨i,A,rfl⟩:=ye N;exact k i A od
   have D:=jh f;have K:¬(j:Int)<(M.length:Int):=od
   clear f g;go_wp2_with fail;go_ret;refine⟨_,rfl,.inr ⟨rfl,?_⟩,m⟩
   first|exact D|exact zr.1 D
def EP(b:I4 w W M a)(d:w.grownBy W none) :
 Calls prog 86 #[.slice a M.length c,.func (.func 87) #[] #[]] W λe w'=>e =.returned (.bool (!M.all risesF))/\W.grownBy w' none:=by
 have H:=jh (Nz (c:=c) b d);clear b d;generalize M.all risesF=q at *;go_enter func86,ntmps86;go_wp2_with fail;refine H.mono ?_;rintro e k ⟨r,rfl,g,f⟩;have h:=jh f;have i:=jh g;clear f g;go_wp2_with fail;go_ret;refine Lf.kZ ?_ h;rcases i with⟨j,rfl⟩|⟨rfl,rfl⟩
 .simp[j]
 .rfl
def Uh:(prog.info? 28).map (λi=>(i.zero,i.size,i.bytes))=some (some (.n0),1,24):=oA
def kD (B:Nat) (w:World) (v:Value) (us:List Value):Prop:=w.ownsRow B 28 1 v us.length us
def gM (w:World):List (List Va)->List Value->Prop
 | [],[]=>True
 | l::M,u::us=>(∃a c V,u =.slice a l.length c/\aT (λ_=>True) w l a V/\vsizes l<=20000000)/\gM w M us
 | [],_::_=>False
 | _::_,[]=>False
def gM.len: ∀{M:List (List Va)}{us:List Value},gM w M us->us.length=M.length
 | [],[],_=>rfl
 | _::_,_::_,h=>by simp[gM.len h.2]
 | [],_::_,h=>h.elim
 | _::_,[],h=>h.elim
def gM.snoc(b:∃a c V,u =.slice a l.length c/\aT (λ_=>True) w l a V/\vsizes l<=20000000):∀{M:List (List Va)}{us:List Value},gM w M us->gM w (M++[l]) (us++[u])
 | [],[],_=>⟨b,trivial⟩
 | _::_,_::_,h=>⟨h.1,gM.snoc b h.2⟩
 | [],_::_,h=>h.elim
 | _::_,[],h=>h.elim
def gM.get: ∀{M:List (List Va)}{us:List Value},gM w M us->∀i (h:i<M.length),∃u,us[i]?=some u/\∃a c V,u =.slice a M[i].length c/\aT (λ_=>True) w M[i] a V/\vsizes M[i]<=20000000
 | [],[],_,i,h=>by simp at h
 | _::_,_::_,b,0,h=>⟨_,rfl,b.1⟩
 | _::_,_::_,b,i+1,h=>by simpa using gM.get b.2 i (by simpa using h)
 | [],_::_,h,_,_=>h.elim
 | _::_,[],h,_,_=>h.elim
def Uq(j:kD B W v us)(f:gM w M us)(e:M.length<=maxLen):∃a c,v =.slice a M.length c/\I4 w W M a:=by
 have b:=f.len;rcases j.2 with⟨rfl,o⟩|⟨g,cap,k,rfl,t,x,p,q,r,s⟩
 .have : M.length=0:=by omega
  exact⟨none,0,by rw[this],e,λi h=>od⟩
 .refine⟨some ⟨g,0,none⟩,cap,by rw[b],e,λi h=>?_⟩;obtain⟨u,m,a,c,V,rfl,l,n⟩:=f.get i h;have d:=yy j (g:=g) rfl i _ m;rw[gI]at d;exact⟨g,0,a,c,V,rfl,d,l,n⟩
def qO{d:Nat}{c:TypeId}{s l k:Nat}{v':Value}{b:List Value}(h:w.ownsRow B e s v n xs)(i:w.ownsRow d c l v' k b)(a:e≠c):v'.ownBlock=none\/v'.ownBlock≠v.ownBlock:=by
 rcases i.2 with⟨rfl,_⟩|⟨g,cap,f,rfl,_,j,_⟩
 .exact .inl rfl
 .right;exact aD h j a
def uF(h:w.ownsRow B e size (.slice (some ⟨g,0,none⟩) (n+1) cap) (n+1) (xs++ys))(m:xs.length=n*size):w.ownsRow B e size (.slice (some ⟨g,0,none⟩) n cap) n xs:=by
 refine⟨m,?_⟩;rcases h.2 with⟨a,_⟩|⟨o,c,b,a,f,i,p,j,k,l⟩
 .simp at a
 .simp only[ke,qk,qb2,and_true,true_and]at a;obtain⟨rfl,rfl⟩:=a;refine .inr ⟨g,cap,b,rfl,f,i,od,j,k,?_⟩;have d:=congrArg (List.take (n*size)) l;rw[List.take_take,show min (n*size) ((n+1)*size)=n*size from by rw[jb0];omega]at d;rw[d,jb7 od,qh1 od]
def iJ(h:w.ownsRow B e size (.slice (some ⟨g,0,none⟩) (n+1) cap) (n+1) (xs++ys))(b:xs.length=n*size)(j:Nat)(u:Value)(a:ys[j]?=some u):w.cell? ⟨g,n*size+j,none⟩=some u:=by have k:=yy h (g:=g) rfl (n*size+j) u (by rw[js od,b,show n*size+j - n*size=j from by omega];exact a);rw[gI,qa4]at k;exact k
def nL{T:TypeId}{a b:Value}(h:w.heap[g]?=some (.cells #[x0,x1,x2,x3,x4,x5,x6,a,b] T (0,0))) :
 w.cell? ⟨g,0,none⟩=some x0/\w.cell? ⟨g,1,none⟩=some x1/\w.cell? ⟨g,2,none⟩=some x2/\w.cell? ⟨g,3,none⟩=some x3/\w.cell? ⟨g,4,none⟩=some x4/\w.cell? ⟨g,5,none⟩=some x5/\w.cell? ⟨g,6,none⟩=some x6/\w.cell? ⟨g,7,none⟩=some a/\w.cell? ⟨g,8,none⟩=some b:=by
 simp[World.cell?,h]
def Ym{a:Act}(B:Nat)(w:World){C D:List (Ty×Va)}{cs ds:List (Value×Value)}(w0:World)(v xv:Value)(b:o.guard=none)(s x:Operand)
 (ho:o.op =.call { callee:=.builtin .append,args:=#[s,x],argTypes:=#[113,113] }) (hs:a.eval s=v) (hx:a.eval x=xv)
 (hsrc:gZ w0 xv ds.length (nC ds)) (hD:eF w D ds) (hown:mH B w0 v cs) (hB:B<=w0.heap.size) (hlen:cs.length+ds.length<=50000000)
 (h:∀v' w',mH B w' v' (cs++ds)->Gr w0 v w' v'->wpList prog ops Q rest (a.put o.dst v') w'):wpList prog ops Q (o::rest) a w0:=by
 obtain⟨e,f⟩:=yS hD;refine ed b s x 113 ho B 111 underlying113 EZ rfl ov v cs.length (nC cs) hs hown xv ds.length (nC ds) hx e hsrc f ?_ ?_ hB ?_
 .unfold maxLen;omega
 .omega
 .intro v' w' c d _;exact h v' w' (by unfold mH;rw[rM,qS];exact c) d
def TC{a:Act}(B:Nat)(us:List Value)(sa:Option Addr)(sl sc:Nat)(w0:World)(v:Value)(b:o.guard=none)(s x:Operand)
 (ho:o.op =.call { callee:=.builtin .append,args:=#[s,x],argTypes:=#[86,86] }) (hs:a.eval s=v) (hx:a.eval x =.slice (some ⟨H,0,none⟩) 1 1) (hH:w0.heap.size=H)
 (hown:kD B w0 v us) (hB:B<=w0.heap.size) (hlen:us.length<=50000000)
 (h:∀v' w',kD B w' v' (us++[.slice sa sl sc])->Gr w0 v w' v'->wpList prog ops Q rest (a.put o.dst v') w') :
 wpList prog ops Q (o::rest) a (w0.alloc (.cells #[.slice sa sl sc] 28)):=by
 subst hH;refine ed b s x 86 ho B 28 underlying86 Uh rfl ov v us.length us hs (xo hown _) _ 1 [.slice sa sl sc] hx rfl (gZ.new _ _ _ _ _) ?_ ?_ ?_ ?_ ?_
 .intro u c;simp at c;subst c;rfl
 .unfold maxLen;omega
 .omega
 .simp;omega
 .intro v' w' d e _;exact h v' w' (by unfold kD;rw[qS];exact d) (Gr.trans (Gr.alloc (Gr.refl w0 v) _) e)
def ug{d:Nat}(h:j5 d T=true):(T.args.length:Int)=bT T.t/\∀y∈T.args,j5 (d+1) y=true:=by obtain⟨t,args⟩:=T;simp only[j5,qu,ki]at h;refine⟨h.1.2.2,λy a=>?_⟩;have:=h.2;rw[jT,zr]at this;exact this y a
def IL{ts:List Ty}{p:Ty×Va}(h:p∈ts.zip l):p.1∈ts:=(List.of_mem_zip h).1
def yh{l:List (Ty×Va)}(w:∃d,j5 d T=true)(g:eX T x=true)(s:partsOf T x=some l):∀p∈l,∃d,j5 d p.1=true:=by
 obtain⟨d,k⟩:=w;obtain⟨c,b⟩:=ug k;simp only[eX,qu]at g;obtain⟨⟨⟨⟨⟨_,hN⟩,_⟩,_⟩,j⟩,_⟩:=g;simp only[partsOf,bS,km]at s;obtain⟨B,a,rfl⟩:=s;intro p r;have f:=IL r;split at a
 .rename_i v;split at a
  .simp only[qk]at a;subst a;unfold eZ at j;rw[if_pos v]at j
   match A:x.types,j with
   | [y],j =>
    rw[A]at f;simp at f;rw[f];exact⟨1,(dE j).1⟩
  .cases a
 .split at a
  .simp only[qk]at a;subst a;simp at f
  .split at a
   .rename_i o;split at a
    .simp only[qk]at a;subst a;have e:=qf7 f;rw[e];have q:T.args.length=1:=by rw[o]at c;simp[bT]at c;omega
     obtain⟨y,u⟩:=jc5.1 q;rw[show bB T.args 0=y from by simp[bB,u]];exact⟨d+1,b y (by rw[u];simp)⟩
    .cases a
   .split at a
    .rename_i i;split at a
     .simp only[qk]at a;subst a;have e:=qf7 f;rw[e];refine⟨d,?_⟩;obtain⟨t,args⟩:=T;simp only[Ty.t]at i;subst i;simp only[j5,qu,ki,Ty.args]at k|-;refine⟨⟨k.1.1,ov,?_⟩,k.2⟩;have:=k.1.2.2;simp[bT]at this|-;exact this
     .cases a
    .split at a
     .rename_i h;split at a
      .simp only[qk]at a;subst a;simp at f;rw[f];have z:T.args.length=2:=by rw[h]at c;simp[bT]at c;omega
       have m:x.n=0\/x.n=1:=by unfold bQ at hN;rw[h]at hN;simpa using hN
       rcases m with m|m
       .rw[m];have e:bB T.args ((0:Int).toNat)=T.args[0]:=by show (T.args[0]?).getD _=_;rw[qt od];rfl
        rw[e];exact⟨d+1,b _ (zj _)⟩
       .rw[m];have e:bB T.args ((1:Int).toNat)=T.args[1]:=by show (T.args[1]?).getD _=_;rw[qt od];rfl
        rw[e];exact⟨d+1,b _ (zj _)⟩
      .cases a
     .split at a
      .split at a
       .simp only[qk]at a;subst a;simp at f
       .cases a
      .split at a
       .simp only[qk]at a;subst a;exact⟨d+1,b _ f⟩
       .cases a
def TE(f:∃d,j5 d T=true)(a:eX T x=true):IQ T x:=by obtain⟨d,e⟩:=f;refine⟨(ug e).1,λb=>?_⟩;simp only[eX,qu]at a;have c:=a.1.1.1.1.2;unfold bQ at c;rw[b]at c;simpa using c
def Ka{l:List (Ty×Va)}(b:partsOf T x=some l):j6 l=vsizes x.args/\l.length=x.args.length:=by simp only[partsOf,km]at b;obtain⟨c,a,rfl⟩:=b;have:=rE a;exact⟨leftP_zip c x.args this.symm,oB⟩
def SF (w W:World) (T:Ty) (x:Va) (n:Nat) (mv tv:Value) (wr:World):Prop :=
 ∃(C:List (Ty×Va)) (cs:List (Value×Value)) (M:List (List Va)) (us:List Value),mH W.heap.size wr tv cs/\eF w C cs/\kD W.heap.size wr mv us/\gM w M us/\(C.all Bn&&M.all risesF)=hasV x T/\(∀p∈C,∃d,j5 d p.1=true)/\j6 C=n/\M.length+n<=x.size/\W.grownBy wr none
def Uc(hT:aH (λ_=>True) w T u)(hV:aA (λ_=>True) w x v)(hz:x.size<=20000000)(cg:bn T=true)(W:World)(hW:w.grownBy W none) :
 Calls prog 56 #[u,v] W λe w'=>e =.returned (.bool (hasV x T))/\W.grownBy w' none:=by
 obtain⟨k1,n1,a1,s1,aa,ad,ab,ba,fE,bc,ay,aO,aC,rfl⟩:=hV.bg;have dr:=hT;obtain⟨a,c,V,rfl,it,dv⟩:=hT.inv;obtain⟨μ,hμ⟩:=mM (λn (p:Value×Value×World)=>SF w W T x n p.1 p.2.1 p.2.2);have HG:Hid (∀W2,W.grownBy W2 none->Calls prog 45 #[bY T.t a T.args.length c] W2 λe w'=>e =.returned (.bool true)/\W2.grownBy w' none):=λW2 B=>by have:=nT (aH.up hT (aJ hW B));rw[cg]at this;exact this
 obtain⟨HT,HV,HM,HW,HZ,cw⟩:=wk hT hV hμ hW hz cg;clear hT hV hμ hW hz cg dr dv it;generalize hr:hasV x T=r;have HR:=jh hr;clear hr;unfold bY bg at *;go_enter func56,ntmps56;go_wp2_with fail;refine (HG _ (aJ (aK _) (aK _))).mono ?_;rintro e w1 ⟨rfl,bk⟩;have cb:=(bk.block _ (qq.1 (CJ W (.cells #[.i T.t,.slice a T.args.length c] 54) (.cells #[.i k1,.i n1,.i a1,.string s1,.slice aa ad ab,.slice ba fE bc,.slice ay aO aC] 36))).1 ot).trans (CJ W (.cells #[.i T.t,.slice a T.args.length c] 54) (.cells #[.i k1,.i n1,.i a1,.string s1,.slice aa ad ab,.slice ba fE bc,.slice ay aO aC] 36));have cQ:=(bk.block _ (qq.1 (iR W (.cells #[.i T.t,.slice a T.args.length c] 54) (.cells #[.i k1,.i n1,.i a1,.string s1,.slice aa ad ab,.slice ba fE bc,.slice ay aO aC] 36))).1 ot).trans (iR W (.cells #[.i T.t,.slice a T.args.length c] 54) (.cells #[.i k1,.i n1,.i a1,.string s1,.slice aa ad ab,.slice ba fE bc,.slice ay aO aC] 36));have c0:=xq cb;have c1:=wy cb;obtain⟨d0,d1,d2,d3,d4,d5,d6⟩:=cO cQ;have cu:=jh (aJ (aJ (aK _) (aK _)) bk);clear cb cQ bk;go_wp2_with fail;go_loopw [5,6] (λmv tv wr=>∃n,SF w W T x n mv tv wr) (λmv tv wr=>μ (mv,tv,wr))
 case atStart =>
  refine⟨x.size,[(T,x)],[(bY T.t a T.args.length c,bg k1 n1 a1 s1 aa ad ab ba fE bc ay aO aC)],[],[],?_,⟨⟨HT,HV⟩,trivial⟩,qa2 _ _ _ _,trivial,?_,?_,DK _,ot,aJ cu (aK _)⟩
  .exact⟨rfl,.inr ⟨_,1,_,rfl,cu.size,qT _ _,qv _,ov,rfl,rfl⟩⟩
  .simp[Bn,HR.out]
  .intro p hp;simp at hp;subst hp;exact⟨1,(dE cw).1⟩
 case round =>
  obtain⟨n0,cW⟩:=hrel;obtain⟨C,cs,M,us,j,bj,aj,ai,J,G,S,ch,P⟩:=(HM.out (u5,u6,wr) n0 cW).1;simp only at j aj P;have hz:=HZ.out;have du:=ai.len;clear cW c0 c1 d0 d1 d2 d3 d4 d5 d6
  by_cases hv:cs.length=0
  .obtain⟨a0,ez,rfl⟩:=mg j hv;have cH:C=[]:=qd7.1 (by have:=bj.len;omega);have bo:r=M.all risesF:=by rw[<-HR.out,<-J,cH];rfl
   obtain⟨ma,mc,rfl,cI⟩:=Uq aj ai oT;obtain⟨cY,bq,Z⟩:=we (EP (c:=mc) cI (aJ HW P)) P bo;generalize M.all risesF=q at *;clear j bj aj ai J G S ch P cH bo cI hv HM HG HT HV HR cw du;go_wp2_with fail;refine cY.mono ?_;rintro e w9 ⟨rfl,cS⟩;have da:=jh (aJ bq cS);clear cS;go_wp2_with fail;go_ret;exact Lf.kZ (by rw[Z.out]) da
  .have ck:cs≠[]:=λe=>hv (by rw[e];rfl);have e1:=(qb4 ck).symm;generalize cs.dropLast=f at e1;generalize cs.getLast ck=q at e1;subst e1;obtain⟨R,p,rfl,I,ae,ah⟩:=bj.last;obtain⟨o,x2⟩:=p;obtain⟨u2,v2⟩:=q;simp only at ae ah;obtain⟨a2,c2,V2,rfl,eo,bm⟩:=ae.inv;obtain⟨y,z,bb,bd,az,aE,ey,ew,ev,rfl,⟨en,ej,ek,ee,cV⟩,an,cN,cM⟩:=ah.inv;have cj:(f++[(bY o.t a2 o.args.length c2,bg x2.k x2.n x2.a x2.s y x2.args.length z bb x2.types.length bd az x2.code.length aE)]).length=f.length+1:=by simp
   have K:=jb3 j ot;rw[cj]at K;obtain⟨g,cap,rfl,eE,et⟩:=K;unfold mH at j;rw[cj,rM]at j;have A:=(yS I).1;have cR:=QX j;have dy:f.length<=cap:=od
   have bl:x2.size<=20000000/\j6 R+x2.size=μ (u5,.slice (some ⟨g,0,none⟩) (f.length+1) cap,wr):=by have N:=S;rw[lN,DK]at N;exact⟨by simp only at N;omega,N⟩
   have eA:f.length<=20000000:=by have N:=I.len;have B:=NH R;omega
   have g0:=iJ j A 0 _ rfl;have g1:=iJ j A 1 _ rfl;have g2:=iJ j A 2 _ rfl;have g3:=iJ j A 3 _ rfl;have g4:=iJ j A 4 _ rfl;have g5:=iJ j A 5 _ rfl;have g6:=iJ j A 6 _ rfl;have g7:=iJ j A 7 _ rfl;have g8:=iJ j A 8 _ rfl;rw[qc0]at g0;have hcut:=uF j A;obtain⟨cC,ct,cD⟩:=we hcut (λW2 (B:W.grownBy W2 none)=>Qo ae ah bl.1 W2 (aJ HW B)) (λ(ea:IQ o x2) W2 (B:W.grownBy W2 none)=>JZ ae ah ea bl.1 W2 (aJ HW B));have dT:=an.1;unfold maxLen at dT;have dz:=bm.1;unfold maxLen at dz;obtain⟨cF,cG,cp,dn,bt,cm,X,de,bq,dj⟩:=wq an bl I aj ai J G ch P S;clear j bj I aj ai J G S ch P ck hv cj hcut ae ah eo en ej ek ee cV an cN cM bm bl cR A;unfold bY bg at *;go_wp2_with fail;have cx:=jh (aJ bq (aK (w:=wr) (.cells #[.i o.t,.slice a2 o.args.length c2,.i x2.k,.i x2.n,.i x2.a,.string x2.s,.slice y x2.args.length z,.slice bb x2.types.length bd,.slice az x2.code.length aE] 111)));have cP:∀(b:Bool),Bn (o,x2)=b->(R.all Bn&&b&&M.all risesF)=r:=λb hb=>by rw[<-HR.out,<-cm.out,qc6,<-hb];simp
   have bf:=jh cP;have br:Hid (Bn (o,x2)=(eX o x2&&(match partsOf o x2 with
    | none=>false
    | some ps=>ps.all Bn)&&(!decide (o.t=13)||risesF x2.args))):=Lu o x2
   have cq:Hid (∃d,j5 d o=true):=X.out (o,x2) ot;have cJ:=qT wr (.cells #[.i o.t,.slice a2 o.args.length c2,.i x2.k,.i x2.n,.i x2.a,.string x2.s,.slice y x2.args.length z,.slice bb x2.types.length bd,.slice az x2.code.length aE] 111);have cA:=jh cJ;clear cP cJ g0 g1 g2 g3 g4 g5 g6 g7 g8;refine (ct _ cx).mono ?_;rintro e w3 ⟨rfl,aq⟩;have cc:=(aq.block _ (qq.1 cA).1 ot).trans cA;have cn:=jh cc;obtain⟨m0,m1,m2,m3,m4,m5,m6,m7,m8⟩:=nL cc;obtain⟨bh,dk,dp⟩:=we (aJ cx aq) (zp (xo cC (.cells #[.i o.t,.slice a2 o.args.length c2,.i x2.k,.i x2.n,.i x2.a,.string x2.s,.slice y x2.args.length z,.slice bb x2.types.length bd,.slice az x2.code.length aE] 111)) aq (by cases (Value.slice (some ⟨g,0,none⟩) f.length cap).ownBlock<;>simp)) (zp (xo dn (.cells #[.i o.t,.slice a2 o.args.length c2,.i x2.k,.i x2.n,.i x2.a,.string x2.s,.slice y x2.args.length z,.slice bb x2.types.length bd,.slice az x2.code.length aE] 111)) aq (by cases u5.ownBlock<;>simp));clear cc aq
   cases hf:eX o x2 with
   | false =>
    have ax:r=false:=by have h:=bf.out false (by rw[br.out,hf];rfl);rw[<-h];simp
    have Z:=jh ax;clear ax hf;go_wp2_with fail;go_ret;exact Lf.kZ Z.symm bh
   | true =>
    have HA:=jh (cD (TE cq hf) w3 bh);have HF:=jh hf;clear hf;go_wp2_with fail;refine HA.mono ?_;rintro e w4 cl;rcases cl with⟨⟨S,rfl⟩|⟨l,cv,ds,S,rfl,ho,hc⟩,H⟩
    .have ax:r=false:=by
      have h:=bf.out false (by rw[br.out,HF.out,S];rfl);rw[<-h];simp
     have Z:=jh ax;have Y:=jh (aJ bh H);clear ax S H;go_wp2_with fail;go_ret;exact Lf.kZ Z.symm Y
    .have cd:=(H.block _ (qq.1 cn).1 ot).trans cn;have eu:=jh cd;obtain⟨p0,p1,p2,p3,p4,p5,p6,p7,p8⟩:=nL cd;have Y:=jh (aJ bh H);have E:=jh (zp dk H (by cases (Value.slice (some ⟨g,0,none⟩) f.length cap).ownBlock<;>simp));have F:=jh (zp dp H (by cases u5.ownBlock<;>simp));obtain⟨eb,eJ⟩:=Ka S;have eC:=hc.len;have eh:=kS x2.args;have eg:=eP x2;have ei:=cG.out;have ar:f.length+ds.length<=50000000:=by omega
     have ca:W.heap.size<=w4.heap.size:=Y.out.size;have cz:Hid (Bn (o,x2)=(l.all Bn&&(!decide (o.t=13)||risesF x2.args))):=by show _=_;rw[br.out,HF.out,S];rfl
     obtain⟨dg,bp,HC⟩:=we (yh cq HF S) ho hc;have HN:Hid (j6 R+j6 l<μ (u5,.slice (some ⟨g,0,none⟩) (f.length+1) cap,wr)/\M.length+1+(j6 R+j6 l)<=x.size):=by have N:=de.out;have B:=dj.out;refine⟨od,od⟩
     have cr:Hid (∀p∈R++l,∃d,j5 d p.1=true):=λp hp=>by
      rcases qa0.1 hp with hp|hp
      .exact X p (by simp[hp])
      .exact dg p hp
     clear ho hc S H cd eg ei eb eh m0 m1 m2 m3 m4 m5 m6 m7 m8
     by_cases O:o.t=13
     .have ef:us.length<=50000000:=by have:=HN.out.2;have:=bt.out.len;omega
      have cE:Hid (∃a c V,(Value.slice y x2.args.length z) =.slice a x2.args.length c/\aT (λ_=>True) w x2.args a V/\vsizes x2.args<=20000000):=⟨y,z,_,rfl,cF,by have:=cG.out;have:=eP x2;omega⟩;have bw:Hid (∀U L Q w',kD W.heap.size L U (us++[.slice y x2.args.length z])->Gr w4 u5 L U->mH W.heap.size w' Q (f++ds)->Gr L (.slice (some ⟨g,0,none⟩) f.length cap) w' Q->∃m,m<μ (u5,.slice (some ⟨g,0,none⟩) (f.length+1) cap,wr)/\SF w W T x m U Q w'):=λU L Q w' k1 k2 N B=>by
       have cL:=zp E k2.1 (qO F E ov);refine⟨j6 (R++l),by rw[lN];exact HN.1,R++l,f++ds,M++[x2.args],us++[Value.slice y x2.args.length z],N,eF.append cp HC,(show kD W.heap.size w' U (us++[Value.slice y x2.args.length z]) from zp (show L.ownsRow W.heap.size 28 1 U _ _ from k1) B.1 (qO cL (show L.ownsRow W.heap.size 28 1 U _ _ from k1) ov)),gM.snoc cE bt,?_,cr,rfl,?_,dX (dX Y F (qv _) k2.1) cL (qv _) B.1⟩
       .have h:=bf.out _ cz;rw[HR.out,<-h,qc6,qc6];simp[O,Bool.and_assoc,Bool.and_comm,Bool.and_left_comm]
       .have:=HN.out.2;rw[lN,qS,yW];omega
      have dd:Hid (∀U L,Gr w4 u5 L U->mH W.heap.size L (.slice (some ⟨g,0,none⟩) f.length cap) f/\gZ L cv ds.length (nC ds)/\W.heap.size<=L.heap.size):=λU L k2 =>
       ⟨zp E k2.1 (qO F E ov),Fe (zp bp k2.1 (qO F bp ov)),kh ca k2.1.size⟩
      have er:(o.t==13)=true:=by simpa using O
      clear O;go_wp2_with (first
       | (at_builtin;refine TC W.heap.size us y x2.args.length z w4 u5 rfl (.tmp 51) (.tmp 55) rfl rfl rfl rfl F ca ef ?_;intro U L cX cf;have dq:=jh cX;have cy:=jh cf;obtain⟨cT,cU,eI⟩:=dd.out U L cf;have db:=jh cT;have dc:=jh cU;clear cX cf cT cU)
       | (at_builtin;refine Ym W.heap.size w (C:=R) (D:=l) (cs:=f) (ds:=ds) _ (.slice (some ⟨g,0,none⟩) f.length cap) cv rfl (.tmp 57) (.tmp 58) rfl rfl rfl dc HC db oS ar ?_;intro Q w6 au ao;have bx:=jh (bw _ _ Q w6 dq cy au ao);clear au ao))
      obtain⟨m,N,B⟩:=bx.out;go_roundw
      case rel=>exact⟨m,B⟩
      case measure=>exact qf3 (HM _ m B).2 N
     .have ep:(o.t==13)=false:=by simpa using O
      have bw:Hid (∀Q w',mH W.heap.size w' Q (f++ds)->Gr w4 (.slice (some ⟨g,0,none⟩) f.length cap) w' Q->∃m,m<μ (u5,.slice (some ⟨g,0,none⟩) (f.length+1) cap,wr)/\SF w W T x m u5 Q w'):=λQ w' N B=>by
       refine⟨j6 (R++l),by rw[lN];exact HN.1,R++l,f++ds,M,us,N,eF.append cp HC,zp F B.1 (qO E F ov),bt,?_,cr,rfl,?_,dX Y E (qv _) B.1⟩
       .have h:=bf.out _ cz;rw[HR.out,<-h,qc6];simp[O,Bool.and_assoc]
       .have:=HN.out.2;rw[lN];omega
      clear O;go_wp2_with (at_builtin;refine Ym W.heap.size w (C:=R) (D:=l) (cs:=f) (ds:=ds) w4 (.slice (some ⟨g,0,none⟩) f.length cap) cv rfl (.tmp 57) (.tmp 58) rfl rfl rfl (Fe bp) HC E ca ar ?_;intro Q w6 au ao;have bx:=jh (bw Q w6 au ao);clear au ao);obtain⟨m,N,B⟩:=bx.out;go_roundw
      case rel=>exact⟨m,B⟩
      case measure=>exact qf3 (HM _ m B).2 N
def Xm(i:aH (λ_=>True) w T u)(j:aA (λ_=>True) w x v)(d:bn T=false)(W:World)(k:w.grownBy W none) :
 Calls prog 56 #[u,v] W λe w'=>e =.returned (.bool false)/\W.grownBy w' none:=by
 obtain⟨B,C,A,D,m,o,n,y,fE,z,r,t,s,rfl⟩:=j.bg;have l:Hid (∀f,W.grownBy f none->Calls prog 45 #[u] f λe w'=>e =.returned (.bool false)/\f.grownBy w' none):=λf p=>by have:=nT (aH.up i (aJ k p));rw[d]at this;exact this
 obtain⟨a,c,V,rfl,q,h⟩:=i.inv;clear i j k d h q;unfold bY bg at *;go_enter func56,ntmps56;go_wp2_with fail;refine (l _ (aJ (aK _) (aK _))).mono ?_;rintro e E ⟨rfl,b⟩;have g:=jh (aJ (aJ (aK _) (aK _)) b);clear b;go_wp2_with fail;go_ret;exact⟨rfl,g⟩
def Lv(b:aH (λ_=>True) w T u)(c:aA (λ_=>True) w x v)(f:x.size<=20000000)(W:World)(d:w.grownBy W none) :
 Calls prog 56 #[u,v] W λe w'=>e =.returned (.bool (pY T x))/\W.grownBy w' none:=by
 unfold pY
 cases a:bn T with
 | true=>rw[je4];exact Uc b c f a W d
 | false=>rw[Bool.false_and];exact Xm b c a W d
def QS(w:World)(a b c:Obj):(((w.alloc a).alloc b).alloc c).heap[w.heap.size+1+1]?=some c:=by have h:=qT ((w.alloc a).alloc b) c;rwa [show ((w.alloc a).alloc b).heap.size=w.heap.size+1+1 from by simp]at h
def qW (w:World) (g:Nat) (y0 y1 y2 y3 y4 y5 y6:Value):World:=((((((w.setCell ⟨g,0,none⟩ y0).setCell ⟨g,1,none⟩ y1).setCell ⟨g,2,none⟩ y2).setCell ⟨g,3,none⟩ y3).setCell ⟨g,4,none⟩ y4).setCell ⟨g,5,none⟩ y5).setCell ⟨g,6,none⟩ y6
def wN{T:TypeId}(h:w.heap[g]?=some (.cells #[x0,x1,x2,x3,x4,x5,x6] T (0,0)))(a b c d e f i:Value) :
 (qW w g a b c d e f i).heap[g]?=some (.cells #[a,b,c,d,e,f,i] T (0,0)):=by
 simp[qW,World.setCell,yr,h]
def zy(w:World)(g:Nat)(a b c d e f h:Value):w.grownBy (qW w g a b c d e f h) (some g) :=
 dY (dY (dY (dY (dY (dY (dY (bM _ _) _ _ _) _ _ _) _ _ _) _ _ _) _ _ _) _ _ _) _ _ _
def qD{T:TypeId}(h:w.heap[g]?=some (.cells #[x0,x1,x2,x3,x4,x5,x6] T (0,0))):∀o,w.frozen? ⟨g,o,none⟩=false:=by intro o;simp[World.frozen?,h]
