import Derived.Test.YtgfdimkbfnpepaaGreatKtZag
namespace Go.Proofs.YtgfdimkbfnpepaaGreat
set_option linter.all false
open Go.Proofs.Tryz
set_option maxRecDepth 100000
set_option maxHeartbeats 4000000
open Go.ChangeShapes Go.WideShapes Go.ChangeAt Go.RowKit
def GJ:(prog.info? 91).map (λi=>(i.zero,i.size,i.bytes))=some (some (.agg #[.n0,.n0]),2,48):=oA
def mW (B:Nat) (w:bx) (v:cg) (vs:bk):Prop:=w.ownsRow B 91 2 v vs.length (bX vs)
def PL (w:bx) (r:an×an) (u:cg):Prop:=∃a1 c1 V1 a2 c2 V2,u=wC a1 r.1.length c1 a2 r.2.length c2/\(r.1.length<=c1/\r.2.length<=c2)/\aT (λ_=>True) w r.1 a1 V1/\aT (λ_=>True) w r.2 a2 V2
def lD (w:bx):List (an×an)->bk->Prop
 | [],[]=>True
 | r::rows,u::us=>PL w r u/\lD w rows us
 | [],_::_=>False
 | _::_,[]=>False
def lD.len{w:bx} : ∀{rows:List (an×an)}{us:bk},lD w rows us->us.length=rows.length
 | [],[],_=>rfl
 | _::_,_::_,h=>by simp[lD.len h.2]
 | [],_::_,h=>h.elim
 | _::_,[],h=>h.elim
def lD.snoc{w:bx}{r:an×an}{u:cg}(a:PL w r u):∀{rows:List (an×an)}{us:bk},lD w rows us->lD w (rows++[r]) (us++[u])
 | [],[],_=>⟨a,trivial⟩
 | _::_,_::_,h=>⟨h.1,lD.snoc a h.2⟩
 | [],_::_,h=>h.elim
 | _::_,[],h=>h.elim
def lD.last{w:bx}{us:bk}{u:cg} : ∀{rows:List (an×an)},lD w rows (us++[u])->∃a r,rows=a++[r]/\lD w a us/\PL w r u:=by
 induction us with
 | nil =>
  intro rows h
  match rows,h with
  | [r],h=>exact⟨[],r,rfl,trivial,h.1⟩
  | r::g::f,h=>exact h.2.elim
  | [],h=>exact h.elim
 | cons x us d =>
  intro rows h
  match rows,h with
  | r::f,h =>
   obtain⟨a,e,rfl,b,c⟩:=d h.2;exact⟨r::a,e,rfl,⟨h.1,b⟩,c⟩
  | [],h=>exact h.elim
def Zr{b:Array Oper}{rest:List Oper}{o:Oper}{a:Act}{Q:Exit->Act->bx->Prop}(B:Nat)(vs:bk)(c:bj)(i e:Nat)(d:bj)(l2 f:Nat)(w0:bx)(v:cg)(g:o.guard=none)(s x:Operand)
 (ho:o.op =.call { callee:=.builtin .append,args:=#[s,x],argTypes:=#[92,92] }) (hs:a.eval s=v) {H:Nat} (hx:a.eval x =.o H 1 1) (hH:w0.heap.size=H)
 (hown:mW B w0 v vs) (hB:B<=w0.heap.size) (hlen:vs.length<=100000000)
 (h:∀v' w',mW B w' v' (vs++[wC c i e d l2 f])->Gr w0 v w' v'->wpList prog b Q rest (a.put o.dst v') w') :
 wpList prog b Q (o::rest) a (w0.alloc (.cells #[.slice c i e,.slice d l2 f] 91)):=by
 subst hH;refine ed g s x 92 ho B 91 underlying92 GJ rfl ov v vs.length (bX vs) hs (ue hown _) _ 1 [.slice c i e,.slice d l2 f] hx rfl (gZ.new _ _ _ _ _) ?_ ?_ ?_ ?_ ?_
 .intro u j;simp at j;rcases j with rfl|rfl<;>rfl
 .unfold maxLen;omega
 .omega
 .simp;omega
 .intro v' w' k l _;exact h v' w' (by unfold mW;rw[dx,qT];exact k) (Gr.trans (Gr.alloc (Gr.refl w0 v) _) l)
def rX(w:bx)(o a:Obj):((w.alloc o).alloc a).heap[w.heap.size+1]?=some a:=by have:=jj (w.alloc o) a;rwa [show (w.alloc o).heap.size=w.heap.size+1 from by simp]at this
def ji{w:bx}{B:Nat}{e:TypeId}{g cap n:Nat}{vs:bk}{x y k m:cg}(h:w.ownsRow B e 2 (.o g (n+1) cap) (n+1) (bX (vs++[.agg #[x,y]]))) :
 ((w.setCell ⟨g,n*2,none⟩ k).setCell ⟨g,n*2+1,none⟩ m).ownsRow B e 2 (.o g (n+1) cap) (n+1) (bX (vs++[.agg #[k,m]])):=by
 have v:∀p q:cg,bX [.agg #[p,q]]=[p,q]:=λp q=>by simp[bX,tyCells]
 rw[dx,v]at h|-;have u:=h.1;rw[qT]at u;simp only[jt,xT]at u;have b:(bX vs).length=n*2:=od
 refine⟨oB,?_⟩;rcases h.2 with⟨d,_⟩|⟨F,o,a,d,z,A,r,C,s,D⟩
 .simp at d
 .simp only[kl,qk,qc7,and_true,true_and]at d;obtain⟨rfl,rfl⟩:=d;have E:(n+1)*2<=a.size:=by rw[s];exact qh1 _ r
  refine .inr ⟨g,cap,(a.setIfInBounds (n*2) k).setIfInBounds (n*2+1) m,rfl,z,?_,r,C,by simpa using s,?_⟩
  .simp[World.setCell,ux,A]
  .apply List.ext_getElem?;intro j;have c:=congrArg (λl=>l[j]?) D;simp only[qb4]at c|-
   by_cases t:j<(n+1)*2
   .simp only[t,if_true]at c|-;rw[qg6]at c|-
    by_cases i:j=n*2+1
    .subst i;rw[qf6 oB,ju od,b];simp
    .rw[jg3 od]
     by_cases f:j=n*2
     .subst f;rw[qf6 od,ju od,b];simp
     .rw[jg3 od,c,jz od,jz od]
   .simp only[t,if_false];rw[jc5];simp;omega
def yw{w:bx}{x:Va}{xs:an}{b o:Nat}{V:bt}(h:aT (λ_=>True) w (x::xs) (some ⟨b,o,none⟩) V):aT (λ_=>True) w xs (some ⟨b,o+7,none⟩) (λi=>V (i+1)):=by
 refine⟨by have:=h.1;simp at this;omega,λi c=>?_,λi c=>?_⟩
 .have⟨C,E,q,D,k,n,a,s,r,al,t,A,tl,B,v,z,y,u,d,f,g,j,l,m,p⟩:=h.2.1 (i+1) (by simpa using c);simp only[qk,qc7,and_true]at q;obtain⟨rfl,rfl⟩:=q;have e:o+(i+1)*7=o+7+i*7:=by omega
  rw[e]at d f g j l m p;exact⟨b,o+7,rfl,trivial,k,n,a,s,r,al,t,A,tl,B,v,z,y,u,d,f,g,j,l,m,p⟩
 .have:=h.2.2 (i+1) (by simpa using c);simpa using this
def Li{ok:br}{w:bx}{x:Va}{k n a:Int}{s:bo}{d:bj}{al ac:Nat}{ta:bj}{tl tc:Nat}{na:bj}{l nc:Nat}(h:aA ok w x (bg k n a s d al ac ta tl tc na l nc)) :
 al=x.args.length/\x.args.length<=ac/\∃V,aT ok w x.args d V:=by
 have⟨e,f,m,o,i,j,V,q,p,c,⟨_,_,_,_,b⟩,g,_,_⟩:=h.inv;unfold bg at c;simp only[qd7,qf0,xo,jd0,Value.string.injEq,kl,true_and,and_true]at c;obtain⟨_,_,_,_,⟨rfl,rfl,rfl⟩,_⟩:=c;exact⟨rfl,b,V,g⟩
def XL{i:Array Oper}{o:Oper}{a:Act}{K:Act->bx->Prop}{Q:Exit->Act->bx->Prop}{E:Prop}(B:Nat)(vs:bk)(b:bj)(g d:Nat)(c:bj)(l2 e:Nat)(w0:bx)(v:cg)(f:o.guard=none)(s x:Operand)
 (ho:o.op =.call { callee:=.builtin .append,args:=#[s,x],argTypes:=#[92,92] }) (hs:a.eval s=v) {H:Nat} (hx:a.eval x =.o H 1 1) (hH:w0.heap.size=H)
 (hown:mW B w0 v vs) (hB:B<=w0.heap.size) (hlen:vs.length<=100000000)
 (h:∀v' w',mW B w' v' (vs++[wC b g d c l2 e])->Gr w0 v w' v'->K (a.put o.dst v') w') :
 if Region.wanted o (yielded i a.tmps)then Oper.wp prog o a (w0.alloc (.cells #[.slice b g d,.slice c l2 e] 91)) K Q else E:=by
 subst hH;refine yx f s x 92 ho B 91 underlying92 GJ rfl ov v vs.length (bX vs) hs (ue hown _) _ 1 [.slice b g d,.slice c l2 e] hx rfl (gZ.new _ _ _ _ _) ?_ ?_ ?_ ?_ ?_
 .intro u j;simp at j;rcases j with rfl|rfl<;>rfl
 .unfold maxLen;omega
 .omega
 .simp;omega
 .intro v' w' k l _;exact h v' w' (by unfold mW;rw[dx,qT];exact k) (Gr.trans (Gr.alloc (Gr.refl w0 v) _) l)
def La (w0:bx) (c:Va->Va->Int) (res:Int) (N n:Nat) (tv:cg) (wr:bx):Prop :=
 ∃(us:bk) (rows:List (an×an)),mW w0.heap.size wr tv us/\lD w0 rows us/\leftV rows=n/\n<=N/\jL c rows=res/\cm w0 wr none
def Im(c:Va->Va->Int)(k:Nat)(eg:∀args w,(callFunc k args).run prog w =.ok (.enter k args) w){w0:World}{xs ys:List Va}{a b:Option Addr}{ca cb:Nat}{V V2:Nat->Value}(dk:xs.length<=ca)(dp:ys.length<=cb)(hx:aT (λ_=>True) w0 xs a V)(hy:aT (λ_=>True) w0 ys b V2)
 (hcmp:∀(x y:Va) (u v:Value) (W:World),w0.grownBy W none->aA (λ_=>True) w0 x u->aA (λ_=>True) w0 y v->x.size<=vsizes xs->Calls prog k #[u,v] W λe w'=>e =.returned (.i (c x y))/\W.grownBy w' none) (hz:vsizes xs<=20000000) :
 Calls prog 35 #[.slice a xs.length ca,.slice b ys.length cb,.func (.func 36) #[] #[],.func (.func k) #[] #[]] w0 λe w'=>e =.returned (.i (eO c xs ys))/\w0.grownBy w' none:=by
 generalize j:eO c xs ys=res;obtain⟨μ,hμ⟩:=mM (λn (p:Value×World)=>La w0 c res (2*vsizes xs+1) n p.1 p.2);have dr:=hx.1;have ds:=hy.1;obtain⟨HX,HY,HC,HM,ax,ej,ek,HZ⟩:=wj hx hy hcmp hμ j dk dp hz;unfold maxLen at dr ds;clear hx hy hcmp hμ j dk dp hz;go_enter func35,ntmps35;go_wp2_with fail;go_loopw [9] (λtv wr=>∃n,La w0 c res (2*vsizes xs+1) n tv wr) (λtv wr=>μ (tv,wr))
 case atStart =>
  refine⟨_,[wC a xs.length ca b ys.length cb],[(xs,ys)],?_,⟨⟨a,ca,V,b,cb,V2,rfl,⟨ej.out,ek.out⟩,HX.out,HY.out⟩,trivial⟩,rfl,by rw[jW];exact qS _,by rw[Vl];exact ax.out,aK _⟩;exact⟨rfl,.inr ⟨_,1,_,rfl,qS _,jj _ _,qS _,ov,rfl,rfl⟩⟩
 case round =>
  obtain⟨n0,du⟩:=hrel;obtain⟨us,rows,z,E,hn,cH,U,hg⟩:=(HM.out (u9,wr) n0 du).1;simp only at z;have hz:=HZ.out;clear du dr ds
  by_cases hv:us.length=0
  .obtain⟨a0,fz,rfl⟩:=mg z hv;have fh:=E.len;have dy:rows=[]:=jb7.1 od;have j:res=0:=by rw[<-U,dy];rfl
   have HR:=jh j;have HG:=jh hg;clear z E hn cH U hg j dy fh hv ax HM HC HX HY;go_wp2_with fail;go_ret;exact Lf.lX HR.out.symm HG.out
  .have cI:us≠[]:=λe=>hv (by rw[e];rfl);have e1:=(qf7 cI).symm;generalize us.dropLast=f at e1;generalize us.getLast cI=u at e1;subst e1;obtain⟨B,r,rfl,T,fg⟩:=E.last;obtain⟨x,y⟩:=r;obtain⟨a3,c3,V3,a4,c4,V4,rfl,⟨cd,cf⟩,bl,bm⟩:=fg;simp only at cd cf bl bm;have ch:(f++[wC a3 x.length c3 a4 y.length c4]).length=f.length+1:=by simp
   have aC:=World.ownsRow.form z ot;rw[ch]at aC;obtain⟨g,N,rfl,J,aO⟩:=aC;unfold mW at z;rw[ch]at z;have dn:=QX z;have fc:f.length<=N:=od
   obtain⟨d0,d1⟩:=zk z;have fR:f.length<=50000000:=by have h1:=E.len;have h2:=NI (B++[(x,y)]);rw[qT,qa1]at h2;rw[ch,qT,qa1]at h1;omega
   have cL:=bl.1;have cM:=bm.1;unfold maxLen at cL cM;obtain⟨G,I,Y,Z,HN,au,H,HG⟩:=wj z T bl bm hn cH U hg;clear z E T bl bm hn cH U hg cI hv dn ch HX HY ax
   by_cases A:x=[]\/y=[]
   .by_cases hb:x=[]/\y=[]
    .obtain⟨rfl,rfl⟩:=hb;have X:Hid (∀w,Calls prog 58 #[.i 0,.i 0] w λe w'=>e =.returned (.i 0)/\w'=w):=λw=>tT 0 0 w;have fa:Hid (∀q,∃m,m<μ (.slice (some ⟨g,0,none⟩) (f.length+1) N,wr)/\La w0 c res (2*vsizes xs+1) m (.slice (some ⟨g,0,none⟩) f.length N) (wr.drewN q)):=by
      intro q;refine⟨leftV B,?_,f,B,BN (w:=wr.drewN q) G.out rfl,I.out,rfl,?_,?_,iW HG.out⟩
      .have h:=HN.out;rw[iQ,jW]at h;omega
      .have h:=HN.out;have h2:=au.out;rw[iQ,jW]at h;omega
      .rw[<-H.out,Vm]
     clear A cL cM cd cf HC HZ hz G I Y Z HN au H;go_wp2_with fail
     go_quiet ((go_at_call 58;exact qe7 (X.out _)))
     go_wp2_with fail;obtain⟨m,h1,h2⟩:=fa.out _;go_roundw
     case rel=>exact⟨m,h2⟩
     case measure=>exact je6 (HM.out _ m h2).2 h1
    .have dz:=Vh c B x y A hb;have j:gP (x.length:Nat) (y.length:Nat)=res:=by rw[<-dz];exact H.out
     have dv:¬res=0:=by
      rw[<-j];rcases A with rfl|rfl
      .have : 0<y.length:=jd3.2 (λe=>hb ⟨rfl,e⟩);rw[gP,if_pos oB];decide
      .have : 0<x.length:=jd3.2 (λe=>hb ⟨e,rfl⟩);rw[gP,if_neg ot,if_pos oB];decide
     have z1:(res==0)=false:=by simpa using dv
     have z2:(res != 0)=true:=by simpa using dv
     have X:Hid (∀w,Calls prog 58 #[.i (x.length:Nat),.i (y.length:Nat)] w λe w'=>e =.returned (.i res)/\w'=w):=λw=>by rw[<-j];exact tT _ _ w
     clear dz j cd cf HC HZ hz G I Y Z HN au H
     by_cases cJ:x.length=0
     .have ee:(x.length:Int)=0:=by omega
      have fy:=jh ee;rw[ee]at X;clear cJ A hb;go_wp2_with fail
      go_quiet ((go_at_call 58;exact qe7 (X.out _)))
      go_wp2_with fail;go_ret;exact Lf.lX rfl (iW HG.out)
     .have fj:y.length=0:=by
       rcases A with rfl|rfl
       .simp at cJ
       .rfl
      have fi:¬(x.length:Int)=0:=od
      have fS:((x.length:Int)==0)=false:=by rw[qa5];exact fi
      have fk:(y.length:Int)=0:=od
      rw[fk]at X;clear A hb cJ fj;go_wp2_with fail
      go_quiet ((go_at_call 58;exact qe7 (X.out _)))
      go_wp2_with fail;go_ret;exact Lf.lX rfl (iW HG.out)
   .obtain⟨x1,s,rfl⟩:∃p l,x=p::l:=by
     cases x with
     | nil=>simp at A
     | cons p l=>exact⟨p,l,rfl⟩
    obtain⟨y1,t,rfl⟩:∃p l,y=p::l:=by
     cases y with
     | nil=>simp at A
     | cons p l=>exact⟨p,l,rfl⟩
    clear A;have bf:=Y.out.2.2 0 ot;have bh:=Z.out.2.2 0 ot;simp only[jc2]at bf bh;obtain⟨M,o3,rfl,_,k1,n1,a1,s1,aa,cD,ad,ct,fE,cv,ck,cq,cn,ea,e0,e1,e2,e3,e4,e5,e6⟩:=(Y.out.2.1 0 ot).same (ni HG.out);obtain⟨K,o4,rfl,_,k2,n2,a2,s2,ab,oH,ae,cu,sM,cw,cl,cr,cp,eb,f0,f1,f2,f3,f4,f5,f6⟩:=(Z.out.2.1 0 ot).same (ni HG.out);rw[ea]at bf;rw[eb]at bh;rw[jc0,qd3]at e0 e1 e2 e3 e4 e5 e6 f0 f1 f2 f3 f4 f5 f6;have cP:=jh bf;have cQ:=jh bh;have dq:∀o,wr.frozen? ⟨g,o,none⟩=false:=by
     rcases G.out.2 with⟨hq,_⟩|⟨g',ft,fB,hq,q1,q2,_⟩
     .simp at hq
     .simp only[kl,qk,qc7,and_true]at hq;obtain⟨rfl,_,_⟩:=hq;intro o;simp[World.frozen?,q2]
    clear bf bh ea eb;simp only[jt]at cL cM cd cf d0 d1|-;have z1:¬((s.length:Int)+1=0):=od
    have z2:(((s.length:Int)+1)==0)=false:=by rw[qa5];exact z1
    have z3:¬((t.length:Int)+1=0):=od
    have z4:(((t.length:Int)+1)==0)=false:=by rw[qa5];exact z3
    have q3:M<wr.heap.size:=zv wr _ e0;have q4:K<wr.heap.size:=zv wr _ f0;have q5:¬M=wr.heap.size:=od
    have q6:¬K=wr.heap.size:=od
    have q7:¬K=wr.heap.size+1:=od
    have q8:¬g=wr.heap.size:=od
    have q9:¬g=wr.heap.size+1:=od
    have ey:∀d:World,wr.grownBy d none->d.cell? ⟨M,o3,none⟩=some (.i k1):=λd h=>(qt (h.block M q3 ot)).trans e0;have ez:∀d:World,wr.grownBy d none->d.cell? ⟨M,o3+1,none⟩=some (.i n1):=λd h=>(qt (h.block M q3 ot)).trans e1;have eA:∀d:World,wr.grownBy d none->d.cell? ⟨M,o3+2,none⟩=some (.i a1):=λd h=>(qt (h.block M q3 ot)).trans e2;have eC:∀d:World,wr.grownBy d none->d.cell? ⟨M,o3+3,none⟩=some (.string s1):=λd h=>(qt (h.block M q3 ot)).trans e3;have eE:∀d:World,wr.grownBy d none->d.cell? ⟨M,o3+4,none⟩=some (.slice aa cD ad):=λd h=>(qt (h.block M q3 ot)).trans e4;have eI:∀d:World,wr.grownBy d none->d.cell? ⟨M,o3+5,none⟩=some (.slice ct fE cv):=λd h=>(qt (h.block M q3 ot)).trans e5;have eJ:∀d:World,wr.grownBy d none->d.cell? ⟨M,o3+6,none⟩=some (.slice ck cq cn):=λd h=>(qt (h.block M q3 ot)).trans e6;have eK:∀d:World,wr.grownBy d none->d.cell? ⟨K,o4,none⟩=some (.i k2):=λd h=>(qt (h.block K q4 ot)).trans f0;have eL:∀d:World,wr.grownBy d none->d.cell? ⟨K,o4+1,none⟩=some (.i n2):=λd h=>(qt (h.block K q4 ot)).trans f1;have eM:∀d:World,wr.grownBy d none->d.cell? ⟨K,o4+2,none⟩=some (.i a2):=λd h=>(qt (h.block K q4 ot)).trans f2;have eN:∀d:World,wr.grownBy d none->d.cell? ⟨K,o4+3,none⟩=some (.string s2):=λd h=>(qt (h.block K q4 ot)).trans f3;have eR:∀d:World,wr.grownBy d none->d.cell? ⟨K,o4+4,none⟩=some (.slice ab oH ae):=λd h=>(qt (h.block K q4 ot)).trans f4;have eS:∀d:World,wr.grownBy d none->d.cell? ⟨K,o4+5,none⟩=some (.slice cu sM cw):=λd h=>(qt (h.block K q4 ot)).trans f5;have eV:∀d:World,wr.grownBy d none->d.cell? ⟨K,o4+6,none⟩=some (.slice cl cr cp):=λd h=>(qt (h.block K q4 ot)).trans f6;have cY:∀d:World,wr.grownBy d none->d.cell? ⟨g,f.length*2,none⟩=some (.slice (some ⟨M,o3,none⟩) (s.length+1) c3):=λd h=>(qt (h.block g aO ot)).trans d0;have da:∀d:World,wr.grownBy d none->d.cell? ⟨g,f.length*2+1,none⟩=some (.slice (some ⟨K,o4,none⟩) (t.length+1) c4):=λd h=>(qt (h.block g aO ot)).trans d1
    go_upto_region 9 with (fail)
    go_cut [12,13] (λp q wx=>∃Q R:Nat,p =.pointer (some ⟨Q,0,none⟩)/\q =.pointer (some ⟨R,0,none⟩)/\wr.heap.size<=Q/\wr.heap.size<=R/\wx.heap[Q]?=some (.cells #[.i k1,.i n1,.i a1,.string s1,.slice aa cD ad,.slice ct fE cv,.slice ck cq cn] 36 (0,0))/\wx.heap[R]?=some (.cells #[.i k2,.i n2,.i a2,.string s2,.slice ab oH ae,.slice cu sM cw,.slice cl cr cp] 36 (0,0))/\wr.grownBy wx none)
    case first =>
     go_region_held3 (λw'=>wr.grownBy w' none) (first|assumption|exact fK (bM _ _)|exact fK (aK _)|exact fK (aJ (aK _) (aK _))|exact aK _|exact aJ (aK _) (aK _)) (fail)
     all_goals
      go_wp2_with fail;go_meet
      first
      | exact⟨_,_,rfl,rfl,od,od,CJ _ _ _,rX _ _ _,fK (aJ (aK _) (aK _))⟩
      | exact⟨_,_,rfl,rfl,od,od,rX _ _ _,CJ _ _ _,fK (aJ (aK _) (aK _))⟩
    case rest =>
     obtain⟨Q,R,rfl,rfl,fL,fN,ah,ai,aq⟩:=hcut;have g0:=cY wc aq;have g1:=da wc aq;have ff:∀o,wc.frozen? ⟨g,o,none⟩=false:=by intro o;have h1:=aq.block g aO ot;have h2:=dq o;simp only[World.frozen?]at h2|-;rw[h1];exact h2
     obtain⟨L,ar,ay,az⟩:=JT (yq G.out aq (.inr oT)) (aJ HG.out aq) ah ai;have C:g≠Q:=od
     have D:g≠R:=od
     clear ey ez eA eC eE eI eJ eK eL eM eN eR eS eV cY da e0 e1 e2 e3 e4 e5 e6 f0 f1 f2 f3 f4 f5 f6 d0 d1 ah ai aq dq
     go_upto_region 10 with (fail)
     go_cut [] (λwx=>∃(p3 p4:Option Addr) (U3 U4:Nat->Value),aT (λ_=>True) w0 s p3 U3/\aT (λ_=>True) w0 t p4 U4/\wx.ownsRow w0.heap.size 91 2 (.slice (some ⟨g,0,none⟩) (f.length+1) N) (f.length+1) (bX (f++[wC p3 s.length (c3 - 1) p4 t.length (c4 - 1)]))/\w0.grownBy wx none/\wx.heap[Q]?=some (.cells #[.i k1,.i n1,.i a1,.string s1,.slice aa cD ad,.slice ct fE cv,.slice ck cq cn] 36 (0,0))/\wx.heap[R]?=some (.cells #[.i k2,.i n2,.i a2,.string s2,.slice ab oH ae,.slice cu sM cw,.slice cl cr cp] 36 (0,0)))
     case first =>
      by_cases de:c3=1
      .by_cases cF:c4=1
       .obtain rfl:s=[]:=jx od;subst de;obtain rfl:t=[]:=jx od;subst cF
        go_region_with (fail)
        all_goals
         go_wp2_with fail;go_meet;exact⟨_,_,_,_,aT.nil _ _ _ V3,aT.nil _ _ _ V4,ji (w:=wc) L.out,fK (aX (aX ar.out J _ _ _) J _ _ _),bH (bH ay.out C.symm _) C.symm _,bH (bH az.out D.symm _) D.symm _⟩
       .obtain rfl:s=[]:=jx od;subst de;have dj:¬c4 - 1=0:=by omega
        go_region_with (fail)
        all_goals
         go_wp2_with fail;go_meet;exact⟨_,_,_,_,aT.nil _ _ _ V3,yw Z.out,ji (w:=wc) L.out,fK (aX (aX ar.out J _ _ _) J _ _ _),bH (bH ay.out C.symm _) C.symm _,bH (bH az.out D.symm _) D.symm _⟩
      .by_cases cF:c4=1
       .have dg:¬c3 - 1=0:=by omega
        obtain rfl:t=[]:=jx od;subst cF
        go_region_with (fail)
        all_goals
         go_wp2_with fail;go_meet;exact⟨_,_,_,_,yw Y.out,aT.nil _ _ _ V4,ji (w:=wc) L.out,fK (aX (aX ar.out J _ _ _) J _ _ _),bH (bH ay.out C.symm _) C.symm _,bH (bH az.out D.symm _) D.symm _⟩
       .have dg:¬c3 - 1=0:=by omega
        have dj:¬c4 - 1=0:=od
        go_region_with (fail)
        all_goals
         go_wp2_with fail;go_meet;exact⟨_,_,_,_,yw Y.out,yw Z.out,ji (w:=wc) L.out,fK (aX (aX ar.out J _ _ _) J _ _ _),bH (bH ay.out C.symm _) C.symm _,bH (bH az.out D.symm _) D.symm _⟩
     case rest =>
      obtain⟨p3,p4,U3,U4,db,dc,bb,cG,ah,ai⟩:=hcut;obtain⟨x0,fr,x2,x3,x4,x5,x6⟩:=cO ah;obtain⟨y0,fs,y2,y3,y4,y5,y6⟩:=cO ai;have dT:x1.size<=vsizes xs:=by have h1:=HN.out;have h2:=au.out;rw[iQ,jW]at h1;simp only[vsizes]at h1;omega
      have cE:=HC.out x1 y1 _ _ wc cG cP.out cQ.out dT;unfold bg at cE;obtain⟨cC,cN,et,eu,er,cV,cX⟩:=wi cE cG db dc bb ah ai;clear cE cG db dc bb ah ai dT L ar ay az G;go_wp2_with fail;refine cC.out.mono ?_;rintro e F ⟨rfl,S⟩
      by_cases aj:c x1 y1=0
      .have ei:=jh aj;have cU:=jh ((S.block _ (qq.1 cV.out).1 ot).trans cV.out);have cW:=jh ((S.block _ (qq.1 cX.out).1 ot).trans cX.out);have bc:=jh (aJ cN.out S);have cR:=jh (yq er.out S (.inr oT));clear S cC x0 fr x2 x3 x4 x5 x6 y0 fs y2 y3 y4 y5 y6 g0 g1 ff;rw[aj];clear aj;obtain⟨rfl,cz,W1,cx⟩:=Li cP.out;obtain⟨rfl,cA,W2,cy⟩:=Li cQ.out;have cS:=jh cx;have cT:=jh cy;have ef:=jh cz;have eh:=jh cA;have fx:mW w0.heap.size F.drew (.slice (some ⟨g,0,none⟩) (f.length+1) N) (f++[wC p3 s.length (c3 - 1) p4 t.length (c4 - 1)]):=by
        unfold mW;rw[qT];exact cR.out
       have eo:Hid (∀v' w',mW w0.heap.size w' v' ((f++[wC p3 s.length (c3 - 1) p4 t.length (c4 - 1)])++[wC aa x1.args.length ad ab y1.args.length ae])->w0.grownBy w' none->∃m,m<μ (.slice (some ⟨g,0,none⟩) (f.length+1) N,wr)/\La w0 c res (2*vsizes xs+1) m v' w'):=by
        intro v' w' cj cc;have h1:=HN.out;rw[iQ,jW]at h1;simp only[vsizes]at h1;have h2:=eP x1;refine⟨leftV (B++[(s,t)]++[(x1.args,y1.args)]),?_,_,_,cj,lD.snoc ⟨aa,ad,W1,ab,ae,W2,rfl,⟨ef.out,eh.out⟩,cS.out,cT.out⟩ (lD.snoc ⟨p3,c3 - 1,U3,p4,c4 - 1,U4,rfl,⟨by show s.length<=_;omega,by show t.length<=_;omega⟩,et.out,eu.out⟩ I.out),rfl,?_,?_,cc⟩
        .rw[iQ,iQ,jW,jW];simp only;omega
        .have h3:=au.out;rw[iQ,iQ,jW,jW];simp only;omega
        .rw[<-H.out,RZ c B x1 y1 s t ei.out]
       have eW:w0.heap.size<=F.heap.size:=bc.out.size;have fv:g<F.heap.size:=by have:=cR.out;exact (zp this g rfl).2
       have fl:Q≠g:=od
       have fp:R≠g:=od
       have O:∀d:World,F.grownBy d (some g)->d.heap[Q]?=_:=λd h=>(h.block Q (qq.1 cU.out).1 (by simpa using fl)).trans cU.out;have fW:∀d:World,F.grownBy d (some g)->d.cell? ⟨Q,0,none⟩=some (.i k1):=λd h=>(cO (O d h)).1;have fX:∀d:World,F.grownBy d (some g)->d.cell? ⟨Q,1,none⟩=some (.i n1):=λd h=>(cO (O d h)).2.1;have fY:∀d:World,F.grownBy d (some g)->d.cell? ⟨Q,2,none⟩=some (.i a1):=λd h=>(cO (O d h)).2.2.1;have ga:∀d:World,F.grownBy d (some g)->d.cell? ⟨Q,3,none⟩=some (.string s1):=λd h=>(cO (O d h)).2.2.2.1;have gd:∀d:World,F.grownBy d (some g)->d.cell? ⟨Q,4,none⟩=some (.slice aa x1.args.length ad):=λd h=>(cO (O d h)).2.2.2.2.1;have gf:∀d:World,F.grownBy d (some g)->d.cell? ⟨Q,5,none⟩=some (.slice ct fE cv):=λd h=>(cO (O d h)).2.2.2.2.2.1;have gg:∀d:World,F.grownBy d (some g)->d.cell? ⟨Q,6,none⟩=some (.slice ck cq cn):=λd h=>(cO (O d h)).2.2.2.2.2.2;clear O;have P:∀d:World,F.grownBy d (some g)->d.heap[R]?=_:=λd h=>(h.block R (qq.1 cW.out).1 (by simpa using fp)).trans cW.out;have gh:∀d:World,F.grownBy d (some g)->d.cell? ⟨R,0,none⟩=some (.i k2):=λd h=>(cO (P d h)).1;have gi:∀d:World,F.grownBy d (some g)->d.cell? ⟨R,1,none⟩=some (.i n2):=λd h=>(cO (P d h)).2.1;have gj:∀d:World,F.grownBy d (some g)->d.cell? ⟨R,2,none⟩=some (.i a2):=λd h=>(cO (P d h)).2.2.1;have gl:∀d:World,F.grownBy d (some g)->d.cell? ⟨R,3,none⟩=some (.string s2):=λd h=>(cO (P d h)).2.2.2.1;have gn:∀d:World,F.grownBy d (some g)->d.cell? ⟨R,4,none⟩=some (.slice ab y1.args.length ae):=λd h=>(cO (P d h)).2.2.2.2.1;have gp:∀d:World,F.grownBy d (some g)->d.cell? ⟨R,5,none⟩=some (.slice cu sM cw):=λd h=>(cO (P d h)).2.2.2.2.2.1;have gq:∀d:World,F.grownBy d (some g)->d.cell? ⟨R,6,none⟩=some (.slice cl cr cp):=λd h=>(cO (P d h)).2.2.2.2.2.2;clear P;have ba:(f++[wC p3 s.length (c3 - 1) p4 t.length (c4 - 1)]).length<=100000000:=oB
       have en:=jh ba;clear cx cy cz cA ba;go_wp2_with fail;go_region_held3 (λw'=>F.grownBy w' (some g)) (first|assumption|exact fK (bM _ _)|exact fF oS (kL (aK _))) (first
        | (go_at_call 36;refine (OM _ _ _ _ _ _ _ _ _ _ _ _ _ _).mono ?_;rintro e w' ⟨rfl,hg⟩;have hS:=fF (r:=some g) oS (kL hg);have hO:mW w0.heap.size w' (.slice (some ⟨g,0,none⟩) (f.length+1) N) (f++[wC p3 s.length (c3 - 1) p4 t.length (c4 - 1)]):=yq oS hg (.inr oT))
        | (refine XL w0.heap.size (f++[wC p3 s.length (c3 - 1) p4 t.length (c4 - 1)]) _ _ _ _ _ _ _ (.slice (some ⟨g,0,none⟩) (f.length+1) N) rfl (.tmp 95) (.tmp 103) rfl rfl rfl rfl oS (km eW (show F.grownBy _ (some g) from by assumption).size) en.out ?_;intro v' w9 cj cc;have dd:F.grownBy w9 (some g):=fF oS cc.1;have ep:=jh cj;clear cj cc))
       all_goals
        have ew:=jh (aG bc.out dd J);clear dd;go_wp2_with fail;obtain⟨m,h1,h2⟩:=eo.out _ _ ep.out ew.out;go_roundw
        case rel=>exact⟨m,h2⟩
        case measure=>exact je6 (HM.out _ m h2).2 h1
      .have z5:(c x1 y1==0)=false:=by simpa using aj
       have z6:(c x1 y1 != 0)=true:=by simpa using aj
       have j:c x1 y1=res:=by rw[<-H.out,Vn c _ x1 y1 s t aj]
       have ev:=jh j;have bc:=jh (aJ cN.out S);clear S cC j;go_wp2_with fail;go_ret;exact Lf.lX ev.out bc.out
def wrapN(n:Nat)(h:n<9223372036854775808):IntKind.i64.wrap (n:Int)=(n:Int):=by have e:(n:Int) % 2 ^ 64=n:=Int.emod_eq_of_lt od od;simp only[IntKind.wrap,IntKind.bits,IntKind.signed,e];rw[if_neg];simp;omega
def ent_ord1:∀args w,(callFunc 182 args).run prog w =.ok (.enter 182 args) w:=λargs w=>OK
def aA.up{w W:bx}{x:Va}{v:cg}(h:aA (λ_=>True) w x v)(a:cm w W none):aA (λ_=>True) W x v:=h.same (ni a)
def vF{W:bx}{x:Va}{b:Nat}{k n a:Int}{s:bo}{c:bj}{al ac:Nat}{ta:bj}{tl tc:Nat}{na:bj}{d nc:Nat}{T:TypeId}
 (hb:W.heap[b]?=some (.cells #[.i k,.i n,.i a,.string s,.slice c al ac,.slice ta tl tc,.slice na d nc] T (0,0))) (hL:aA (λ_=>True) W x (bg k n a s c al ac ta tl tc na d nc)):aT (λ_=>True) W [x] (some ⟨b,0,none⟩) (λ_=>bg k n a s c al ac ta tl tc na d nc):=by
 refine⟨ZS,λi e=>?_,λi e=>?_⟩
 .have : i=0:=by simpa using e
  subst this;have⟨f,g,h,j,l,m,o⟩:=cO hb;exact⟨b,0,rfl,trivial,k,n,a,s,c,al,ac,ta,tl,tc,na,d,nc,rfl,f,g,h,j,l,m,o⟩
 .have : i=0:=by simpa using e
  subst this;exact hL
def kH(w:bx)(a b c d:Obj):((((w.alloc a).alloc b).alloc c).alloc d).heap[w.heap.size+1+1]?=some c:=by have h:=CJ ((w.alloc a).alloc b) c d;rwa [show ((w.alloc a).alloc b).heap.size=w.heap.size+1+1 from by simp]at h
def xV(w:bx)(a b d c:Obj):((((w.alloc a).alloc b).alloc d).alloc c).heap[w.heap.size+1+1+1]?=some c:=by have h:=rX ((w.alloc a).alloc b) d c;rwa [show ((w.alloc a).alloc b).heap.size=w.heap.size+1+1 from by simp]at h
def zh{w:bx}{x y:Va}{u v:cg}(j:aA (λ_=>True) w x u)(k:aA (λ_=>True) w y v)(I:x.size<=20000000)(W:bx)(q:cm w W none) :
 Calls prog 136 #[u,v] W λe w'=>e =.returned (.i (gT x y))/\cm W w' none:=by
 obtain⟨V,Y,P,s1,l,p,n,D,fE,F,s,B,z,rfl⟩:=j.bg;obtain⟨X,Z,Q,s2,m,oH,o,E,sM,G,t,C,A,rfl⟩:=k.bg;have⟨L,M,N⟩:=we (aA.up j q) (aA.up k q) I;have H:∀(a:bx) (b c:Nat) (d f:Nat),cm W a none->1<=d->1<=f->a.heap[b]?=some (.cells #[.i V,.i Y,.i P,.string s1,.slice l p n,.slice D fE F,.slice s B z] 36 (0,0))->a.heap[c]?=some (.cells #[.i X,.i Z,.i Q,.string s2,.slice m oH o,.slice E sM G,.slice t C A] 36 (0,0)) ->
  Calls prog 35 #[.o b 1 d,.o c 1 f,.func (.func 36) #[] #[],.func (.func 182) #[] #[]] a λe w'=>e =.returned (.i (gT x y))/\cm a w' none:=by
  intro a b c d f g R S T U;have h:=Im nQ 182 ent_ord1 (w0:=a) (xs:=[x]) (ys:=[y]) (ca:=d) (cb:=f) R S (vF T (aA.up L g)) (vF U (aA.up M g)) (λx y u v O h3 j k _=>Q5 j k O) (by have:=N.out;simp[vsizes];omega);rw[Eg]at h;exact h
 have K:=jh H;clear H j k I q;generalize gT x y=r at *;unfold bg at *;go_enter func136,ntmps136;go_wp2_with fail;refine (K _ _ _ 1 1 (aJ (aJ (aJ (aK _) (aK _)) (aK _)) (aK _)) (qS _) (qS _) (kH _ _ _ _ _) (xV _ _ _ _ _)).mono ?_;rintro e w1 ⟨rfl,g⟩;have J:=jh (aJ (aJ (aJ (aJ (aK _) (aK _)) (aK _)) (aK _)) g);clear g;go_wp2;go_ret;exact⟨rfl,J⟩
def rV(ok:br)(w:bx):aA ok w zeroVa (bg 0 0 0 ⟨#[]⟩ none 0 0 none 0 0 none 0 0) :=
 aA.of (args:=[]) (types:=[]) (code:=[]) (V:=λ_=>.i 0) (VT:=λ_=>.i 0) (VN:=λ_=>.i 0) (zE _) ov (by constructor<;>decide) (by constructor<;>decide) (by constructor<;>decide) (aT.nil _ _ _ _) (dw.nil _ _ _ _) (cK.nil _ _ _ _)
def DI{w:bx}{x:Va}{u:cg}(S:aA (λ_=>True) w x u)(W:bx)(R:cm w W none) :
 Calls prog 137 #[u] W λe w'=>∃kv,e =.returned kv/\aA (λ_=>True) w (fU x) kv/\cm W w' none:=by
 obtain⟨P,y,B,C,z,A,VV,VT,VN,rfl,⟨ik,iN,ia,hs,F⟩,b,E,D⟩:=S.inv;have K:=b.1;unfold maxLen at K
 cases Q:x.args with
 | nil =>
  have hk:fU x=zeroVa:=by unfold fU;rw[Q]
  rw[hk];have HZ:=jh (rV (λ_=>True) w);clear S b E D hk ik iN ia hs F R K;simp only[xT];unfold bg at *;go_enter func137,ntmps137;go_wp2_with fail;have r:=rX W (.cells #[.i x.k,.i x.n,.i x.a,.string x.s,.slice P 0 y,.slice B x.types.length C,.slice z x.code.length A] 36) (.cells #[.i 0,.i 0,.i 0,.string ⟨#[]⟩,.n0,.n0,.n0] 36);have t:cm W ((W.alloc (.cells #[.i x.k,.i x.n,.i x.a,.string x.s,.slice P 0 y,.slice B x.types.length C,.slice z x.code.length A] 36)).alloc (.cells #[.i 0,.i 0,.i 0,.string ⟨#[]⟩,.n0,.n0,.n0] 36)) none:=aJ (aK _) (aK _);generalize (W.alloc (.cells #[.i x.k,.i x.n,.i x.a,.string x.s,.slice P 0 y,.slice B x.types.length C,.slice z x.code.length A] 36)).alloc (.cells #[.i 0,.i 0,.i 0,.string ⟨#[]⟩,.n0,.n0,.n0] 36)=wf at *;have⟨U,H,N,V,X,Y,Z⟩:=cO r;exact yb (v:=bg 0 0 0 ⟨#[]⟩ none 0 0 none 0 0 none 0 0) (by simp[results,results137,go_sem,U,H,N,V,X,Y,Z,bg]) rfl ⟨_,rfl,HZ,t⟩
 | cons p l =>
  have hk:fU x=p:=by unfold fU;rw[Q]
  rw[hk];rw[Q]at b K;have g:=b.2.2 0 ot;simp only[jc2]at g;obtain⟨J,T,rfl,_,L,n1,I,M,c,f,d,o,fE,q,h,m,j,G,e0,e1,e2,e3,e4,e5,e6⟩:=(b.2.1 0 ot).same (ni R);rw[G]at g;rw[jc0,qd3]at e0 e1 e2 e3 e4 e5 e6;have q3:J<W.heap.size:=zv W _ e0;have O:=jh g;have H:¬((l.length:Int)+1=0):=od
  have N:(((l.length:Int)+1)==0)=false:=by rw[qa5];exact H
  clear S b E D hk ik iN ia hs F R g G;simp only[jt]at K|-;unfold bg at *;go_enter func137,ntmps137;go_wp2_with fail;have r:=rX W (.cells #[.i x.k,.i x.n,.i x.a,.string x.s,.slice (some ⟨J,T,none⟩) (l.length+1) y,.slice B x.types.length C,.slice z x.code.length A] 36) (.cells #[.i L,.i n1,.i I,.string M,.slice c f d,.slice o fE q,.slice h m j] 36);have t:cm W ((W.alloc (.cells #[.i x.k,.i x.n,.i x.a,.string x.s,.slice (some ⟨J,T,none⟩) (l.length+1) y,.slice B x.types.length C,.slice z x.code.length A] 36)).alloc (.cells #[.i L,.i n1,.i I,.string M,.slice c f d,.slice o fE q,.slice h m j] 36)) none:=aJ (aK _) (aK _);generalize (W.alloc (.cells #[.i x.k,.i x.n,.i x.a,.string x.s,.slice (some ⟨J,T,none⟩) (l.length+1) y,.slice B x.types.length C,.slice z x.code.length A] 36)).alloc (.cells #[.i L,.i n1,.i I,.string M,.slice c f d,.slice o fE q,.slice h m j] 36)=wf at *;have⟨U,H,N,V,X,Y,Z⟩:=cO r;exact yb (v:=bg L n1 I M c f d o fE q h m j) (by simp[results,results137,go_sem,U,H,N,V,X,Y,Z,bg]) rfl ⟨_,rfl,O,t⟩
def Bu(x:Va):(fU x).size<=x.size:=by
 have h:=eP x;unfold fU
 cases a:x.args with
 | nil=>have:=qZ x;simp[zeroVa,Va.size,vsizes,tysizes,sizes];omega
 | cons p l=>rw[a,vsizes]at h;simp only;omega
def Oi{w:bx}{l:an}{a:bj}{c:Nat}{V:bt}(Y:aT (λ_=>True) w l a V)(hz:vsizes l<=20000000)(W:bx)(hW:cm w W none) :
 Calls prog 88 #[.slice a l.length c] W λe w'=>e =.returned (.bool (risesF l))/\cm W w' none:=by
 have hn:=Y.1;unfold maxLen at hn;have⟨HL,HZ,HW⟩:=we Y hz hW;clear Y hz hW;go_enter func88,ntmps88;go_wp2_with fail;go_loopw [3] (λZ wr=>∃j:Nat,1<=j/\(j<=l.length\/j=1)/\Z =.i j/\(∀i (h:i+1<l.length),i+1<j->gT (fU l[i]) (fU l[i+1])<0)/\cm W wr none) (λZ _=>l.length - (intOf Z).toNat)
 case atStart=>exact⟨1,qS _,.inr rfl,rfl,λi h hi=>od,bM _ _⟩
 case round =>
  obtain⟨j,cb,cc,rfl,f,n⟩:=hrel
  by_cases q:j<l.length
  .obtain⟨m,rfl⟩:∃m,j=m+1:=⟨j - 1,od⟩;have o:=aJ HW n;have G:=HL.out.2.2 m od;have H:=HL.out.2.2 (m+1) q;have⟨d,g,I,_,k1,n1,a1,s1,P,T,R,aj,fE,ar,aa,ah,ad,L,U,e1,e2,e3,e4,e5,e6⟩:=(HL.out.2.1 m od).same (ni o);have⟨bf,of,B,_,k2,n2,a2,s2,Q,oH,S,aq,sM,au,ab,ai,ae,M,f0,f1,f2,f3,f4,f5,f6⟩:=(HL.out.2.1 (m+1) q).same (ni o);rw[I]at B;simp only[qk,qc7,and_true]at B;obtain⟨rfl,rfl⟩:=B;subst I;rw[L]at G;rw[M]at H;unfold bg at G H;have k:d<wr.heap.size:=zv wr _ U;have ax:∀b:bx,cm wr b none->b.cell? ⟨d,g+m*7,none⟩=some (.i k1):=λb h=>(qt (h.block d k ot)).trans U;have ay:∀b:bx,cm wr b none->b.cell? ⟨d,g+m*7+1,none⟩=some (.i n1):=λb h=>(qt (h.block d k ot)).trans e1;have az:∀b:bx,cm wr b none->b.cell? ⟨d,g+m*7+2,none⟩=some (.i a1):=λb h=>(qt (h.block d k ot)).trans e2;have aC:∀b:bx,cm wr b none->b.cell? ⟨d,g+m*7+3,none⟩=some (.string s1):=λb h=>(qt (h.block d k ot)).trans e3;have aO:∀b:bx,cm wr b none->b.cell? ⟨d,g+m*7+4,none⟩=some (.slice P T R):=λb h=>(qt (h.block d k ot)).trans e4;have ba:∀b:bx,cm wr b none->b.cell? ⟨d,g+m*7+5,none⟩=some (.slice aj fE ar):=λb h=>(qt (h.block d k ot)).trans e5;have bb:∀b:bx,cm wr b none->b.cell? ⟨d,g+m*7+6,none⟩=some (.slice aa ah ad):=λb h=>(qt (h.block d k ot)).trans e6;have bc:∀b:bx,cm wr b none->b.cell? ⟨d,g+(m+1)*7,none⟩=some (.i k2):=λb h=>(qt (h.block d k ot)).trans f0;have bh:∀b:bx,cm wr b none->b.cell? ⟨d,g+(m+1)*7+1,none⟩=some (.i n2):=λb h=>(qt (h.block d k ot)).trans f1;have bl:∀b:bx,cm wr b none->b.cell? ⟨d,g+(m+1)*7+2,none⟩=some (.i a2):=λb h=>(qt (h.block d k ot)).trans f2;have bm:∀b:bx,cm wr b none->b.cell? ⟨d,g+(m+1)*7+3,none⟩=some (.string s2):=λb h=>(qt (h.block d k ot)).trans f3;have bp:∀b:bx,cm wr b none->b.cell? ⟨d,g+(m+1)*7+4,none⟩=some (.slice Q oH S):=λb h=>(qt (h.block d k ot)).trans f4;have bq:∀b:bx,cm wr b none->b.cell? ⟨d,g+(m+1)*7+5,none⟩=some (.slice aq sM au):=λb h=>(qt (h.block d k ot)).trans f5;have ca:∀b:bx,cm wr b none->b.cell? ⟨d,g+(m+1)*7+6,none⟩=some (.slice ab ai ae):=λb h=>(qt (h.block d k ot)).trans f6;have s:Hid (∀(x:Va) (u:cg),aA (λ_=>True) w x u->∀b:bx,cm wr b none->Calls prog 137 #[u] b λe w'=>∃N,e =.returned N/\aA (λ_=>True) w (fU x) N/\cm b w' none):=λx u hx b h=>DI hx b (aJ o h);have K:(fU l[m]).size<=20000000:=by
    have h1:(fU l[m]).size<=(l[m]).size:=Bu _;have h2:(l[m]).size<=vsizes l:=fO (zd _);have h3:=HZ.out;omega
   have t:Hid (∀(u v:cg),aA (λ_=>True) w (fU l[m]) u->aA (λ_=>True) w (fU l[m+1]) v->∀b:bx,cm wr b none->Calls prog 136 #[u,v] b λe w'=>e =.returned (.i (gT (fU l[m]) (fU l[m+1])))/\cm b w' none):=λu v hu hv b h=>zh hu hv K b (aJ o h);have p:=jh n;have E:=jh f;have w1:IntKind.i64.wrap (m:Int)=(m:Int):=wrapN m od;have w2:IntKind.i64.wrap ((m:Int)+1 - 1)=(m:Int):=by rw[show (m:Int)+1 - 1=(m:Int) from by omega];exact w1
   have w3:IntKind.i64.wrap ((m:Int)+1)=(m:Int)+1:=by rw[show (m:Int)+1=((m+1:Nat):Int) from by omega];exact wrapN (m+1) od
   have w4:(m:Int)<(l.length:Int):=od
   have w5:(m:Int)+1<(l.length:Int):=od
   have w6:m<l.length:=od
   have w7:m+1<l.length:=q;have w8:(0:Int)<=(m:Int)+1:=od
   clear n f o K L M U e1 e2 e3 e4 e5 e6 f0 f1 f2 f3 f4 f5 f6;generalize hr:gT (fU l[m]) (fU l[m+1])=r at *;have HR:=jh hr;clear hr
   by_cases J:r<0
   .have D:¬0<=r:=by omega
    go_wp2_with fail;go_region_held3 (λw'=>cm wr w' none) (first|assumption|exact fK (bM _ _)) (first
     | (go_at_call 137;refine (s _ _ oS _ oS).mono ?_;rintro e w' ⟨N,rfl,F,C⟩;obtain⟨_,_,_,_,_,_,_,_,_,_,_,_,_,rfl⟩:=F.bg;unfold bg at F|-;have A:=aJ oS C)
     | (go_at_call 136;refine (t _ _ oS oS _ oS).mono ?_;rintro e w' ⟨rfl,C⟩;have A:=aJ oS C))
    have z:=jh (aJ p A);clear A;go_wp2;go_roundw
    case rel =>
     refine⟨m+1+1,od,.inl od,OS,λi h hi=>?_,z⟩
     by_cases X:i+1<m+1
     .exact E i h X
     .obtain rfl:i=m:=by omega
      rw[HR.out];exact J
    case measure=>simp[intOf];omega
   .have D:0<=r:=by omega
    go_wp2_with fail;go_region_held3 (λw'=>cm wr w' none) (first|assumption|exact fK (bM _ _)) (first
     | (go_at_call 137;refine (s _ _ oS _ oS).mono ?_;rintro e w' ⟨N,rfl,F,C⟩;obtain⟨_,_,_,_,_,_,_,_,_,_,_,_,_,rfl⟩:=F.bg;unfold bg at F|-;have A:=aJ oS C)
     | (go_at_call 136;refine (t _ _ oS oS _ oS).mono ?_;rintro e w' ⟨rfl,C⟩;have A:=aJ oS C))
    have z:=jh (aJ p A);clear A;go_wp2;go_ret;exact Lf.kZ (Oh l m q (by rw[HR.out];omega)).symm z
  .have y:risesF l:=(Cb l).2 λi h=>f i h od;have O:=jh y;have p:=jh n;have cd:¬(j:Int)<(l.length:Int):=by omega
   clear y n f;go_wp2;go_ret;exact Lf.kZ O.symm p
def Qv{w:bx}{l:an}{a:bj}{c:Nat}{V:bt}(f:aT (λ_=>True) w l a V)(g:vsizes l<=20000000)(W:bx)(b:cm w W none) :
 Calls prog 87 #[.slice a l.length c] W λe w'=>e =.returned (.bool (!risesF l))/\cm W w' none:=by
 have H:=jh (Oi (c:=c) f g W b);clear f g b;generalize risesF l=r at *;go_enter func87,ntmps87;go_wp2_with fail;refine H.mono ?_;rintro e i ⟨rfl,d⟩;have h:=jh d;clear d;go_wp2;go_ret;exact⟨rfl,h⟩
def ent_has1:∀args w,(callFunc 87 args).run prog w =.ok (.enter 87 args) w:=λargs w=>OK
def I4 (w W:bx) (M:List an) (a:bj):Prop :=
 M.length<=maxLen/\∀i (h:i<M.length),∃b o ai ci V,a=some ⟨b,o,none⟩/\W.cell? ⟨b,o+i,none⟩=some (.slice ai M[i].length ci)/\aT (λ_=>True) w M[i] ai V/\vsizes M[i]<=20000000
def Nz{w W:bx}{M:List an}{a:bj}{c:Nat}(y:I4 w W M a)(E:cm w W none) :
 Calls prog 135 #[.slice a M.length c,.func (.func 87) #[] #[]] W λe w'=>∃r:Int,e =.returned (.i r)/\((0<=r/\M.all risesF=false)\/(r = -1/\M.all risesF))/\cm W w' none:=by
 have K:=y.1;unfold maxLen at K;have HM:=jh y;have F:=jh E;have O:=ent_has1;clear y E;go_enter func135,ntmps135;go_wp2_with fail;go_loopw [8] (λB wr=>∃j:Nat,j<=M.length/\B =.i j/\(∀i (h:i<M.length),i<j->risesF M[i])/\cm W wr none) (λB _=>M.length - (intOf B).toNat)
 case atStart=>exact⟨0,zE _,rfl,λi h z=>od,bM _ _⟩
 case round =>
  obtain⟨j,P,rfl,l,g⟩:=hrel;have k:=jh l;have m:=jh g;clear l
  by_cases q:j<M.length
  .obtain⟨b,o,G,D,V,rfl,d,hR,s⟩:=HM.out.2 j q;have I:wr.cell? ⟨b,o+j,none⟩=some (.slice G M[j].length D):=(qt (g.block b (zv W _ d) ot)).trans d;have t:=jh (Qv (c:=D) hR s wr (aJ F g));have A:=hR.1;unfold maxLen at A;clear d hR s g
   cases n:risesF M[j]with
   | true =>
    rw[n]at t;have v:=jh n;clear n;go_wp2_with fail;refine t.mono ?_;rintro e N ⟨rfl,p⟩;have u:=jh (aJ m p);clear p;go_wp2;go_roundw
    case rel =>
     refine⟨j+1,od,OS,λi h z=>?_,u⟩
     by_cases e:i=j
     .subst e;exact v
     .exact k i h od
    case measure=>simp[intOf];omega
   | false =>
    rw[n]at t;have v:=jh n;clear n;go_wp2_with fail;refine t.mono ?_;rintro e N ⟨rfl,p⟩;have u:=jh (aJ m p);clear p;go_wp2;go_ret;refine⟨_,rfl,.inl ⟨od,?_⟩,u⟩
    cases H:M.all risesF with
    | false=>rfl
    | true=>have:=kB.1 H M[j] (zd q);rw[v.out]at this;cases this
  .have f:M.all risesF:=kB.2 λx L=>by
    obtain⟨i,z,rfl⟩:=ub L;exact k i z od
   have C:=jh f;have J:¬(j:Int)<(M.length:Int):=od
   clear f g;go_wp2;go_ret;refine⟨_,rfl,.inr ⟨rfl,?_⟩,m⟩
   first|exact C|exact kB.1 C
def EP{w W:bx}{M:List an}{a:bj}{c:Nat}(b:I4 w W M a)(d:cm w W none) :
 Calls prog 86 #[.slice a M.length c,.func (.func 87) #[] #[]] W λe w'=>e =.returned (.bool (!M.all risesF))/\cm W w' none:=by
 have H:=jh (Nz (c:=c) b d);clear b d;generalize M.all risesF=q at *;go_enter func86,ntmps86;go_wp2_with fail;refine H.mono ?_;rintro e k ⟨r,rfl,g,f⟩;have h:=jh f;have i:=jh g;clear f g;go_wp2;go_ret;refine Lf.kZ ?_ h;rcases i with⟨j,rfl⟩|⟨rfl,rfl⟩
 .simp[j]
 .rfl
section
def kD (B:Nat) (w:bx) (v:cg) (us:bk):Prop:=w.ownsRow B 28 1 v us.length us
def gM (w:bx):List an->bk->Prop
 | [],[]=>True
 | l::M,u::us=>(∃a c V,u =.slice a l.length c/\aT (λ_=>True) w l a V/\vsizes l<=20000000)/\gM w M us
 | [],_::_=>False
 | _::_,[]=>False
def gM.len{w:bx} : ∀{M:List an}{us:bk},gM w M us->us.length=M.length
 | [],[],_=>rfl
 | _::_,_::_,h=>by simp[gM.len h.2]
 | [],_::_,h=>h.elim
 | _::_,[],h=>h.elim
def gM.snoc{w:bx}{l:an}{u:cg}(b:∃a c V,u =.slice a l.length c/\aT (λ_=>True) w l a V/\vsizes l<=20000000):∀{M:List an}{us:bk},gM w M us->gM w (M++[l]) (us++[u])
 | [],[],_=>⟨b,trivial⟩
 | _::_,_::_,h=>⟨h.1,gM.snoc b h.2⟩
 | [],_::_,h=>h.elim
 | _::_,[],h=>h.elim
def gM.get{w:bx} : ∀{M:List an}{us:bk},gM w M us->∀i (h:i<M.length),∃u,us[i]?=some u/\∃a c V,u =.slice a M[i].length c/\aT (λ_=>True) w M[i] a V/\vsizes M[i]<=20000000
 | [],[],_,i,h=>by simp at h
 | _::_,_::_,b,0,h=>⟨_,rfl,b.1⟩
 | _::_,_::_,b,i+1,h=>by simpa using gM.get b.2 i (by simpa using h)
 | [],_::_,h,_,_=>h.elim
 | _::_,[],h,_,_=>h.elim
def uF{w:bx}{B:Nat}{e:TypeId}{size g cap n:Nat}{xs ys:bk}(h:w.ownsRow B e size (.o g (n+1) cap) (n+1) (xs++ys))(m:xs.length=n*size):w.ownsRow B e size (.o g n cap) n xs:=by
 refine⟨m,?_⟩;rcases h.2 with⟨a,_⟩|⟨o,c,b,a,f,i,p,j,k,l⟩
 .simp at a
 .simp only[kl,qk,qc7,and_true,true_and]at a;obtain⟨rfl,rfl⟩:=a;refine .inr ⟨g,cap,b,rfl,f,i,od,j,k,?_⟩;have d:=congrArg (List.take (n*size)) l;rw[jg7,show min (n*size) ((n+1)*size)=n*size from by rw[ja1];omega]at d;rw[d,jc6 od,qc0 od]
def iJ{w:bx}{B:Nat}{e:TypeId}{a g cap n:Nat}{xs ys:bk}(h:w.ownsRow B e a (.o g (n+1) cap) (n+1) (xs++ys))(c:xs.length=n*a)(j:Nat)(u:cg)(b:ys[j]?=some u):w.cell? ⟨g,n*a+j,none⟩=some u:=by have k:=qb0 h (g:=g) rfl (n*a+j) u (by rw[ju od,c,show n*a+j - n*a=j from by omega];exact b);rw[gI,qa2]at k;exact k
def nL{w:bx}{g:Nat}{T:TypeId}{x0 a b c d e f i j:cg}(h:w.heap[g]?=some (.cells #[x0,a,b,c,d,e,f,i,j] T (0,0))) :
 w.cell? ⟨g,0,none⟩=some x0/\w.cell? ⟨g,1,none⟩=some a/\w.cell? ⟨g,2,none⟩=some b/\w.cell? ⟨g,3,none⟩=some c/\w.cell? ⟨g,4,none⟩=some d/\w.cell? ⟨g,5,none⟩=some e/\w.cell? ⟨g,6,none⟩=some f/\w.cell? ⟨g,7,none⟩=some i/\w.cell? ⟨g,8,none⟩=some j:=by
 simp[World.cell?,h]
end
open Pe
def ug{d:Nat}{T:Ty}(h:j5 d T):(T.args.length:Int)=bT T.t/\∀y∈T.args,j5 (d+1) y:=by have⟨t,args⟩:=T;simp only[j5,qu,kj]at h;refine⟨h.1.2.2,λy a=>?_⟩;have:=h.2;rw[jT,kB]at this;exact this y a
def IL{ts:ao}{l:an}{p:Ty×Va}(h:p∈ts.zip l):p.1∈ts:=(List.of_mem_zip h).1
def yh{T:Ty}{x:Va}{l:List (Ty×Va)}(w:∃d,j5 d T)(g:eX T x)(s:partsOf T x=some l):∀p∈l,∃d,j5 d p.1:=by
 have⟨d,k⟩:=w;have⟨c,b⟩:=ug k;simp only[eX,qu]at g;have⟨⟨⟨⟨⟨_,hN⟩,_⟩,_⟩,j⟩,_⟩:=g;simp only[partsOf,bS,kd]at s;obtain⟨B,a,rfl⟩:=s;intro p r;have f:=IL r;split at a
 .rename_i v;split at a
  .simp only[qk]at a;subst a;unfold eZ at j;rw[if_pos v]at j
   match A:x.types,j with
   | [y],j =>
    rw[A]at f;simp at f;rw[f];exact⟨1,(dE j).1⟩
  .cases a
 .split at a
  .simp only[qk]at a;subst a;simp at f
  .split at a
   .rename_i o;split at a
    .simp only[qk]at a;subst a;have e:=qe1 f;rw[e];have q:T.args.length=1:=by rw[o]at c;simp[bT]at c;omega
     have⟨y,u⟩:=jd7.1 q;rw[show bB T.args 0=y from by simp[bB,u]];exact⟨d+1,b y (by rw[u];simp)⟩
    .cases a
   .split at a
    .rename_i i;split at a
     .simp only[qk]at a;subst a;have e:=qe1 f;rw[e];refine⟨d,?_⟩;have⟨t,args⟩:=T;simp only[Ty.t]at i;subst i;simp only[j5,qu,kj,Ty.args]at k|-;refine⟨⟨k.1.1,ov,?_⟩,k.2⟩;have:=k.1.2.2;simp[bT]at this|-;exact this
     .cases a
    .split at a
     .rename_i h;split at a
      .simp only[qk]at a;subst a;simp at f;rw[f];have z:T.args.length=2:=by rw[h]at c;simp[bT]at c;omega
       have m:x.n=0\/x.n=1:=by unfold bQ at hN;rw[h]at hN;simpa using hN
       rcases m with m|m
       .rw[m];have e:bB T.args ((0:Int).toNat)=T.args[0]:=by show (T.args[0]?).getD _=_;rw[qn od];rfl
        rw[e];exact⟨d+1,b _ (zd _)⟩
       .rw[m];have e:bB T.args ((1:Int).toNat)=T.args[1]:=by show (T.args[1]?).getD _=_;rw[qn od];rfl
        rw[e];exact⟨d+1,b _ (zd _)⟩
      .cases a
     .split at a
      .split at a
       .simp only[qk]at a;subst a;simp at f
       .cases a
      .split at a
       .simp only[qk]at a;subst a;exact⟨d+1,b _ f⟩
       .cases a
def TE{T:Ty}{x:Va}(f:∃d,j5 d T)(a:eX T x):IQ T x:=by have⟨d,e⟩:=f;refine⟨(ug e).1,λb=>?_⟩;simp only[eX,qu]at a;have c:=a.1.1.1.1.2;unfold bQ at c;rw[b]at c;simpa using c
def Ka{T:Ty}{x:Va}{l:List (Ty×Va)}(b:partsOf T x=some l):j6 l=vsizes x.args/\l.length=x.args.length:=by simp only[partsOf,kd]at b;obtain⟨c,a,rfl⟩:=b;have:=rE a;exact⟨leftP_zip c x.args this.symm,oB⟩
def ZQ{l:ao}(h:okTs l)(i:Nat):okT (bB l i):=by
 unfold bB
 cases e:l[i]? with
 | none=>exact⟨⟨ov,ov⟩,trivial⟩
 | some T=>exact okTs_at.1 h T (zj e)
def Uc{T:Ty}{x:Va}{l:List (Ty×Va)}(h:okT T)(f:okV x)(d:partsOf T x=some l):∀p∈l,okT p.1/\okV p.2:=by
 have c:okTs T.args:=by cases T;exact h.2
 have e:okVs x.args/\okTs x.types:=by cases x;exact⟨f.2.1,f.2.2.1⟩
 simp only[partsOf,kd]at d;obtain⟨i,a,rfl⟩:=d;rintro⟨U,y⟩ d;have⟨b,g⟩:=List.of_mem_zip d;refine⟨?_,okVs_at.1 e.1 y g⟩;unfold bS at a;simp only at a
 repeat' split at a
 all_goals first
  | (cases a;done)
  | (simp only[qk]at a
     subst a
     first
      | exact okTs_at.1 e.2 U b
      | exact okTs_at.1 c U b
      | (cases b;done)
      | (rw[qe1 b];exact ZQ c 0)
      | (rw[qe1 b];exact⟨⟨ov,ov⟩,c⟩)
      | (rw[js.1 b];exact ZQ c _))
def bZ (M:List an):List bd:=M.map λl=>[.s 7 (vasD l)]
def ny(M:List an):(bZ M).length=M.length:=by simp[bZ]
def okM (M:List an):Prop:=∀l∈M,okVs l/\vsizes l<=20000000
def Vi{M:List an}{n:Nat}(hn:n=1\/M=[])(r:okM M):Hd ⟨86,[.one (.d (.s n (bZ M))),.one (.d (.v (.func (.func 87) #[] #[])))],aQ (!M.all risesF)⟩:=jM (bK func86) λok w A h=>by
 match A,h with
 | [u,v],⟨p,q,_⟩ =>
  obtain rfl:=bW q;obtain⟨a,c,U,rfl,B,k,C,t⟩:=fH p;rw[ny]at k|-;refine EP (w:=w) ⟨k,λi j=>?_⟩ (bM _ _);obtain rfl:n=1:=hn.resolve_right (λe=>by rw[e]at j;simp at j);obtain⟨⟨b,o,rfl,_,f⟩,g⟩:=t i [.s 7 (vasD M[i])] 0 (.s 7 (vasD M[i])) (by simp[bZ,j]) rfl;have⟨y,z⟩:=r _ (zd j);have⟨l,m,V,e,_,x⟩:=lV y (.inl rfl) g;rw[e,Nat.mul_one,qd3]at f;exact⟨b,o,l,m,V,rfl,f,x.ae λ_ _ _=>trivial,z⟩
def hsQ (c:Nat):List an->St
 | []=>[((0,5),.of nilA)]
 | m::M=>[((0,5),.of (.one (.g 3000056 1 c))),((3000057,0),.vT 28 1 (bZ (m::M)))]
def hsS (k l:Nat) (es:List bd) (c:Nat) (M:List an):St:=[((0,6),.of (.one (.g k 9 l))),((k+1,0),.vT 111 9 es)]++hsQ c M
abbrev hsL (k l:Nat) (es:List bd) (c:Nat) (M:List an) (ex:Nat) (post:St):Prop:=vO prog f56.ntmps ⟨gF f56,hsS k l es c M,ex,post⟩
def aam{es A:List bd}{r:bd}{m n:Nat}(c:A.length=m)(b:∀q∈A,q.length=n)(i:r.length=n)(h:es.take (m+1)=A++[r]):p8 es (m*n) n=some (r.map .d)/\es.take m=A/\m<=es.length:=by
 have f:A.flatten.length=m*n:=by
  subst c;clear h
  induction A with
  | nil=>simp
  | cons a A j=>rw[List.flatten_cons,qT,b a ot,j (λq g=>b q (by simp[g])),jt,ja1];omega
 have e:es.flatten=A.flatten++(r++(es.drop (m+1)).flatten):=by
  conv=>lhs;rw[<-qc4 (m+1) es,h]
  simp
 refine⟨?_,?_,?_⟩
 .unfold p8;rw[e,if_pos (by simp only[qT];omega),<-f,List.drop_left,List.take_left' i]
 .have:=congrArg (List.take m) h;rw[jg7,jd1 od]at this;rw[this,List.take_left' c]
 .have:=congrArg List.length h;simp at this;omega
def Z9{es:List bd}{C:List (Ty×Va)}{T:Ty}{x:Va}{m:Nat}(e:C.length=m)(h:es.take (m+1)=ma (C++[(T,x)])):p8 es (m*9) 9=some ((tyD T++vaD x).map .d):=by
 have b:∀p:Ty×Va,(tyD p.1++vaD p.2).length=9:=by rintro⟨⟨t,a⟩,⟨k,n,i,s,r,u,c⟩⟩;rfl
 exact (aam (A:=ma C) (by rw[qO,e]) (λq f=>by obtain⟨p,_,rfl⟩:=ud.1 f;exact b p) (b (T,x)) (by rw[h];simp[ma])).1
def aa5{k c:Nat}{es:List bd}{M:List an}(hk:k=3000017\/k=3000059):hsL k 0 es c M 2 (hsQ c M):=by rcases hk with rfl|rfl<;>rcases M with _|⟨q,M⟩<;>exact xQ (e:=1) [] [] al0
def hsT (k m:Nat) (T:Ty) (x:Va):Hints:=[(20,bA true),(23,jA m),(26,.one (.q k (m*9))),(27,.agg ((tyD T++vaD x).map .d)),(30,.one (.g k 9 m))]
def hsO (k m:Nat) (es:List bd) (T:Ty) (x:Va):List Prop:=[mD (aQ (decide ((0:Int)<Int.ofNat (m+1)))) (bA true),mD (lW (IntKind.i64.wrap (Int.ofNat (m+1) - 1))) (jA m),(if 9=9/\m<m+1 then some (AV.of (.one (.q k (m*9))))else none)=some (.of (.one (.q k (m*9)))),(p8 es (m*9) 9).bind (mkA true)=some (.of (.agg ((tyD T++vaD x).map .d))),(if 9=9/\m<=m+1 then some (AV.of (.one (.g k 9 m)))else none)=some (.of (.one (.g k 9 m)))]
def aa4{k m:Nat}{es:List bd}{C:List (Ty×Va)}{T:Ty}{x:Va}(a:C.length=m)(h:es.take (m+1)=ma (C++[(T,x)]))(b:m<=50000000):∀p∈hsO k m es T x,p :=
 al (is_lt ot) (al (yY Kf) (al (if_pos ⟨rfl,od⟩) (al (by rw[Z9 a h];rfl) (al (if_pos ⟨rfl,od⟩) al0))))
section
variable {k m c:Nat}{es:List bd}{M:List an}{T:Ty}{x:Va}
def nth(k m:Nat):some (AV.of (.one (.g k 9 m)))=some (.of (.one (.g k 9 m)))/\([]:List bd)=[]/\true:=⟨rfl,rfl,rfl⟩
def aaz(hk:k=3000017\/k=3000059)(b:∀p∈hsO k m es T x,p)(hF:Hd ⟨84,[tyA T,pF x],aQ false⟩):hsL k (m+1) es c M 1 [((0,4),.of fA)]:=by have⟨t,a⟩:=T;have⟨i,j,g,r,l,n,f⟩:=x;have F:=λo d=>(xQ (e:=0) (hsT k m (.nd t a) (.mk i j g r l n f)) [⟨_,hF⟩] b (h:=o) (hc:=d):hsL k (m+1) es c M 1 [((0,4),.of fA)]);rcases hk with rfl|rfl<;>rcases M with _|⟨q,M⟩<;>exact F oA oA
def aaA(hk:k=3000017\/k=3000059)(d:∀p∈hsO k m es T x,p)(hF:Hd ⟨84,[tyA T,pF x],aQ true⟩)(b:Hd ⟨85,[tyA T,pF x],ofA none⟩):hsL k (m+1) es c M 1 [((0,4),.of fA)]:=by have⟨t,a⟩:=T;have⟨j,l,i,s,n,r,g⟩:=x;have F:=λo f=>(xQ (e:=0) (hsT k m (.nd t a) (.mk j l i s n r g)) [⟨_,hF⟩,⟨_,b⟩] d (h:=o) (hc:=f):hsL k (m+1) es c M 1 [((0,4),.of fA)]);rcases hk with rfl|rfl<;>rcases M with _|⟨q,M⟩<;>exact F oA oA
variable {ex:Nat}{post:St}{C:List (Ty×Va)}{p:Ty×Va}{ps:List (Ty×Va)}
def abr(hk:k=3000017\/k=3000059)(b:∀p∈hsO k m es T x,p)(hF:Hd ⟨84,[tyA T,pF x],aQ true⟩)(d:Hd ⟨85,[tyA T,pF x],ofA (some [])⟩)(e:T.t≠13)(hn:hsL k m es c M ex post):hsL k (m+1) es c M ex post:=by have⟨t,a⟩:=T;have⟨l,n,j,u,r,s,i⟩:=x;have b:=oH b (al (show jJ (decide (t=13)) false from eT (qa6 e)) (al (nth k m) al0));have F:=λo f=>LG (hsT k m (.nd t a) (.mk l n j u r s i)++[(50,fA),(59,.one (.g k 9 m))]) [⟨_,hF⟩,⟨_,d⟩] hn b (pre:=hsS k (m+1) es c M) (h:=o) (hc:=f);rcases hk with rfl|rfl<;>rcases M with _|⟨q,M⟩<;>exact F oA oA
def abt(hk:k=3000017\/k=3000059)(b:∀p∈hsO k m es T x,p)(hF:Hd ⟨84,[tyA T,pF x],aQ true⟩)(f:Hd ⟨85,[tyA T,pF x],ofA (some (p::ps))⟩)(g:T.t≠13)(d:rowsLe (es.take m++ma (p::ps)) (ma (C++p::ps)))(e:ZV 144 m es (ma (p::ps)))(hn:hsL 3000059 (m+(ma (p::ps)).length) (ma (C++p::ps)) c M ex post):hsL k (m+1) es c M ex post:=by have⟨t,a⟩:=T;have⟨n,r,l,v,s,u,j⟩:=x;have b:=oH b (al (show jJ (decide (t=13)) false from eT (qa6 g)) (al d (al e al0)));have F:=λo i=>LG (hsT k m (.nd t a) (.mk n r l v s u j)++[(50,fA),(2000059,aaw (C++p::ps))]) [⟨_,hF⟩,⟨_,f⟩] hn b (pre:=hsS k (m+1) es c M) (h:=o) (hc:=i);rcases hk with rfl|rfl<;>rcases M with _|⟨q,M⟩<;>exact F oA oA
def abu(hk:k=3000017\/k=3000059)(j:∀p∈hsO k m es T x,p)(hF:Hd ⟨84,[tyA T,pF x],aQ true⟩)(i:Hd ⟨85,[tyA T,pF x],ofA (some [])⟩)(l:T.t=13)(hc:c=M.length)(e:rowsLe ((bZ M).take c++[[.s 7 (vasD x.args)]]) (bZ (M++[x.args])))(f:ZV 24 c (bZ M) [[.s 7 (vasD x.args)]])(hn:hsL k m es (c+1) (M++[x.args]) ex post):hsL k (m+1) es c M ex post:=by
 have⟨t,a⟩:=T;have⟨v,w,u,z,b,y,r⟩:=x;obtain rfl:t=13:=l;have F:=λo n=>LG (hsT k m (.nd 13 a) (.mk v w u z b y r)++[(2000056,.one (.d (.s 1 (bZ (M++[b]))))),(59,.one (.g k 9 m))]) [⟨_,hF⟩,⟨_,i⟩] hn (oH j (al e (al f (al (nth k m) al0)))) (pre:=hsS k (m+1) es c M) (h:=o) (hc:=n);rcases M with _|⟨q,M⟩
 .obtain rfl:c=0:=hc;rcases hk with rfl|rfl<;>exact F oA oA
 .rcases hk with rfl|rfl<;>exact F oA oA
def abv(hk:k=3000017\/k=3000059)(l:∀p∈hsO k m es T x,p)(hF:Hd ⟨84,[tyA T,pF x],aQ true⟩)(j:Hd ⟨85,[tyA T,pF x],ofA (some (p::ps))⟩)(n:T.t=13)(hc:c=M.length)(g:rowsLe ((bZ M).take c++[[.s 7 (vasD x.args)]]) (bZ (M++[x.args])))(i:ZV 24 c (bZ M) [[.s 7 (vasD x.args)]])(e:rowsLe (es.take m++ma (p::ps)) (ma (C++p::ps)))(f:ZV 144 m es (ma (p::ps)))(hn:hsL 3000059 (m+(ma (p::ps)).length) (ma (C++p::ps)) (c+1) (M++[x.args]) ex post):hsL k (m+1) es c M ex post:=by
 have⟨t,a⟩:=T;have⟨w,y,v,A,b,z,u⟩:=x;obtain rfl:t=13:=n;have F:=λo r=>LG (hsT k m (.nd 13 a) (.mk w y v A b z u)++[(2000056,.one (.d (.s 1 (bZ (M++[b]))))),(2000059,aaw (C++p::ps))]) [⟨_,hF⟩,⟨_,j⟩] hn (oH l (al g (al i (al e (al f al0))))) (pre:=hsS k (m+1) es c M) (h:=o) (hc:=r);rcases M with _|⟨q,M⟩
 .obtain rfl:c=0:=hc;rcases hk with rfl|rfl<;>exact F oA oA
 .rcases hk with rfl|rfl<;>exact F oA oA
end
def LM (C:List (Ty×Va)):Prop:=∀p∈C,okT p.1/\okV p.2/\∃d,j5 d p.1
def HsE (b:Bool) (k l:Nat) (es:List bd) (c:Nat) (M:List an):Prop :=
 (∃c' M',okM M'/\c'=M'.length/\b=M'.all risesF/\hsL k l es c M 2 (hsQ c' M'))\/b=false/\hsL k l es c M 1 [((0,4),.of fA)]
def HsE.imp{b j:Bool}{k l n l2:Nat}{es a:List bd}{c m:Nat}{M i:List an}(h:HsE b k l es c M)(e:b=j)(f:∀ex post,hsL k l es c M ex post->hsL n l2 a m i ex post):HsE j n l2 a m i:=by
 subst e;rcases h with⟨p,o,d,g,q,r⟩|⟨d,g⟩
 .exact .inl ⟨p,o,d,g,q,f _ _ r⟩
 .exact .inr ⟨d,f _ _ g⟩
def has_loop:∀(N:Nat) (C:List (Ty×Va)) (k l:Nat) (es:List bd) (c:Nat) (M:List an),j6 C<=N->(k=3000017\/k=3000059)->C.length=l->es.take l=ma C->c=M.length->LM C->okM M->j6 C+M.length<=20000000->HsE (C.all Bn&&M.all risesF) k l es c M
 | N, C,k,l,es,c,M,W,f,G,n,B,V,F,X=>by
  rcases jh7 C with rfl|⟨a,⟨T,x⟩,rfl⟩
  .obtain rfl:l=0:=G.symm;exact .inl ⟨c,M,F,B,ot,aa5 f⟩
  rw[ka0]at *;rw[lN,DK]at W X;simp only at W X;obtain rfl:l=a.length+1:=by simp at G;omega
  have aa:=NH a;have⟨H,I,Y⟩:=V (T,x) ot;have w:=aa4 (k:=k) rfl n od;have hF:=Tn (T:=T) (x:=x) H I od
  cases o:eX T x with
  | false=>rw[o]at hF;exact .inr ⟨by simp[Bn,Lu,o],aaz f w hF⟩
  | true =>
   have i:=Z5 (T:=T) (x:=x) H (TE Y o) od;rw[o]at hF
   cases g:partsOf T x with
   | none=>rw[g]at i;exact .inr ⟨by simp[Bn,Lu,o,g],aaA f w hF i⟩
   | some ps =>
    rw[g]at i;have⟨r1,r2⟩:=Ka g;have ad:=eP x;have ab:=NH ps;have e:Bn (T,x)=(ps.all Bn&&(!decide (T.t=13)||risesF x.args)):=by simp[Bn,Lu,o,g]
    have b:LM (a++ps):=λp O=>by
     rcases xb.1 O with h|h
     .exact V p (by simp[h])
     .exact⟨(Uc H I g p h).1,(Uc H I g p h).2,yh Y o g p h⟩
    have K:j6 (a++ps)<N:=by rw[lN];omega
    have r:es.take a.length=ma a:=by have:=congrArg (List.take a.length) n;rw[jg7,jd1 od]at this;rw[this];simp[ma]
    have L:a.length<=es.length:=by have:=congrArg List.length n;rw[qc5,qO,qT]at this;simp at this;omega
    have A:T.t=13->okM (M++[x.args]):=λ_ l G=>by
     rcases xb.1 G with h|h
     .exact F l h
     .rw[js.1 h];exact⟨by cases x;exact I.2.1,od⟩
    have S:rowsLe ((bZ M).take c++[[.s 7 (vasD x.args)]]) (bZ (M++[x.args])):=by rw[qc0 (by rw[ny];omega),show bZ (M++[x.args])=bZ M++[[.s 7 (vasD x.args)]] by simp[bZ]];exact rows_refl _
    have U:ZV 24 c (bZ M) [[.s 7 (vasD x.args)]]:=za (by rw[ny];omega) ot rfl oB ov;have j:j6 (a++ps)+(M++[x.args]).length<=20000000:=by rw[lN,qT];simp;omega
    have m:j6 (a++ps)+M.length<=20000000:=by rw[lN];omega
    have Z:(a++[(T,x)]).all Bn=(a.all Bn&&(ps.all Bn&&(!decide (T.t=13)||risesF x.args))):=by rw[qe6];simp[e]
    have P:(M++[x.args]).all risesF=(M.all risesF&&risesF x.args):=by rw[qe6];simp
    have J:(a++ps).all Bn=(a.all Bn&&ps.all Bn):=qe6;rw[Z];rcases ps with _|⟨p,ps⟩
    .rw[qd1]at b K j m J
     by_cases d:T.t=13
     .refine (has_loop (N - 1) a k a.length es (c+1) (M++[x.args]) od f rfl r oB b (A d) j).imp ?_ λex post h=>abu f w hF i d B S U h;rw[P,qg0 d];generalize a.all Bn=u,M.all risesF=v,risesF x.args=z;cases u<;>cases v<;>cases z<;>rfl
     .refine (has_loop (N - 1) a k a.length es c M od f rfl r B b F m).imp ?_ λex post h=>abr f w hF i d h;rw[qa6 d];generalize a.all Bn=u,M.all risesF=v;cases u<;>cases v<;>rfl
    .have Q:rowsLe (es.take a.length++ma (p::ps)) (ma (a++p::ps)):=by
      rw[r,show ma (a++p::ps)=ma a++ma (p::ps) by simp[ma]];exact rows_refl _
     have R:ZV 144 a.length es (ma (p::ps)):=za L (by simp[ma]) (Uh _) (by rw[qO];omega) ov;have q:(a++p::ps).length=a.length+(ma (p::ps)).length:=by rw[qO,qT]
     have E:(ma (a++p::ps)).take (a.length+(ma (p::ps)).length)=ma (a++p::ps):=qc0 (by rw[qO,q];exact qS _)
     by_cases d:T.t=13
     .refine (has_loop (N - 1) _ 3000059 _ _ (c+1) (M++[x.args]) od (.inr rfl) q E oB b (A d) j).imp ?_ λex post h=>abv f w hF i d B S U Q R h;rw[J,P,qg0 d];generalize a.all Bn=u,M.all risesF=v,risesF x.args=z,(p::ps).all Bn=y;cases u<;>cases v<;>cases z<;>cases y<;>rfl
     .refine (has_loop (N - 1) _ 3000059 _ _ c M od (.inr rfl) q E B b F m).imp ?_ λex post h=>abt f w hF i d Q R h;rw[J,qa6 d];generalize a.all Bn=u,M.all risesF=v,(p::ps).all Bn=y;cases u<;>cases v<;>cases y<;>rfl
termination_by N=>N
decreasing_by all_goals omega
def SV{T:Ty}(b:okT T):Hd ⟨45,[tyA T],aQ (bn T)⟩:=jM (bK func45) λok w d h=>by
 match d,h with
 | [u],⟨a,_⟩=>exact nT ((jC b a).ae λ_ c _=>c)
def X4{T:Ty}{x:Va}(s:okT T)(b:okV x)(hz:x.size<=20000000):Hd ⟨56,[tyA T,pF x],aQ (pY T x)⟩:=by
 have d:=SV s;unfold pY
 cases e:bn T with
 | false =>
  rw[e]at d;have⟨t,a⟩:=T;have⟨w,y,v,B,z,A,u⟩:=x;exact aF func56 [⟨_,d⟩]
 | true =>
  rw[e]at d;have r:=has_loop x.size [(T,x)] 3000017 1 (ma [(T,x)]) 0 [] (by rw[DK];exact qS _) (.inl rfl) rfl rfl rfl (λp E=>by rw[js.1 E];exact⟨s,b,1,(dE e).1⟩) (λl h=>by cases h) (by rw[DK];simpa using hz);rw[show ([(T,x)].all Bn&&([]:List an).all risesF)=hasV x T by simp[Bn]]at r;rw[qh5];have j:=wI (S:=hsS 3000017 1 (ma [(T,x)]) 0 []) (q:=gF f56=gF f56) rfl (ps:=[]) al0;rcases r with⟨c,M,f,g,k,m⟩|⟨f,g⟩
  .rw[k];have o:=λ{n:Nat} D=>Vi (M:=M) (n:=n) D f;have i:Hd ⟨56,[tyA T,pF x],aQ (!(!M.all risesF))⟩:=by
    have C:c=(bZ M).length:=by rw[ny];exact g
    clear k e;have⟨t,a⟩:=T;have⟨w,y,v,B,z,A,u⟩:=x;rcases M with _|⟨q,M⟩
    .exact Ce func56 [(17,nilA)] [_] (by intro x b;rw[js]at b;subst b;exact m) [⟨_,d⟩,⟨_,o (n:=0) (.inr rfl)⟩] j
    .exact Ce func56 [(17,nilA)] [_] (by intro x b;rw[js]at b;subst b;exact m) [⟨_,d⟩,⟨_,o (n:=1) (.inl rfl)⟩] (oH j (al C al0))
   rwa [Bool.not_not]at i
  .rw[f];have⟨t,a⟩:=T;have⟨w,y,v,B,z,A,u⟩:=x;exact Ce func56 [(17,nilA)] [_] (by intro x b;rw[js]at b;subst b;exact g) [⟨_,d⟩] j
mutual
def readT_size:∀(t:Tr) (T:Ty) (x:Va),readT t T=some x->x.size<=t.size
 | .nd k n p s d,T,x=>by
  intro h;have g:∀(a b:Int) (c:bo) (e:an),(fM a b c e).size=vsizes e+1:=λa b c e=>by simp[fM,Va.size,tysizes,sizes]
  have i:vsizes []=0:=rfl;rw[Tr.size];rw[readT]at h;split at h
  .split at h
   .simp only[qk]at h;subst h;rw[g,i];omega
   .cases h
  .split at h
   .split at h
    .simp only[qk]at h;subst h;rw[g,i];omega
    .cases h
   .split at h
    .split at h
     .simp only[kd]at h;obtain⟨e,f,rfl⟩:=h;have:=readTs_size d _ e f;rw[g];omega
     .cases h
    .split at h
     .split at h
      .simp only[kd]at h;obtain⟨e,f,rfl⟩:=h;have:=readEs_size d _ e f;rw[g];omega
      .cases h
     .split at h
      .cases h
      .simp only[kd]at h;obtain⟨e,f,rfl⟩:=h;have:=readTs_size d _ e f;rw[g];omega
def readTs_size:∀(l:aE) (ts:ao) (xs:an),readTs l ts=some xs->vsizes xs<=sizes l
 | [],[],xs=>by intro h;simp[readTs]at h;subst h;simp[vsizes,sizes]
 | [],_::_,xs=>by intro h;simp[readTs]at h
 | _::_,[],xs=>by intro h;simp[readTs]at h
 | t::l,T::ts,xs=>by
  intro h;rw[readTs]at h
  cases a:readT t T with
  | none=>rw[a]at h;cases h
  | some x =>
   rw[a]at h;simp only[kd]at h;obtain⟨c,b,rfl⟩:=h;have d:=readT_size t T x a;have e:=readTs_size l ts c b;rw[vsizes,sizes];omega
def readEs_size:∀(l:aE) (ts:ao) (xs:an),readEs l ts=some xs->vsizes xs<=sizes l
 | [],ts,xs=>by intro h;simp[readEs]at h;subst h;simp[vsizes,sizes]
 | .nd k n p s a::l,ts,xs=>by
  intro h;rw[readEs]at h
  cases b:readTs a ts with
  | none=>rw[b]at h;cases h
  | some c =>
   rw[b]at h;simp only at h;split at h
   .simp only[kd]at h;obtain⟨f,d,rfl⟩:=h;have g:=readTs_size a ts c b;have i:=readEs_size l ts f d;have e:(fM 11 0 ⟨#[]⟩ c).size=vsizes c+1:=by simp[fM,Va.size,tysizes,sizes]
    rw[vsizes,sizes,e,Tr.size];omega
   .cases h
end
def jf (T:Ty) (t:Tr):Option Va:=if bn T/\dS t=0 then (match readT t T with
 | none=>none
 | some x=>if pY T x then some x else none)else none
section
mutual
def first_okN:∀(t:Tr) (d:Nat),bC d t=0->okN t
 | .nd k n p s c,d,h=>by
  simp only[bC]at h;split at h
  .cases h
  .split at h
   .rename_i a;exact absurd h a
   .rename_i a;have b:Lf.fD k n p s c.length=0:=by simpa using a
    refine⟨?_,first_okNs c (d+1) h⟩;unfold Lf.fD Lf.rP Lf.gD Lf.qM at b;unfold bD maxLen
    repeat' split at b
    all_goals first
     | (cases b;done)
     | (simp_all<;>omega)
def first_okNs:∀(l:aE) (d:Nat),bG d l=0->okNs l
 | [],_,_=>trivial
 | t::l,d,h=>by
  simp only[bG]at h;split at h
  .rename_i a;exact absurd h a
  .rename_i a;exact⟨first_okN t d (by simpa using a),first_okNs l d h⟩
end
def D5{T:Ty}{t:Tr}{x:Va}(h:jf T t=some x):okV x:=by
 unfold jf at h;split at h
 .rename_i c;split at h
  .cases h
  .rename_i y a;split at h
   .cases h;exact readT_okV _ _ _ (first_okN _ _ (iV c.2).1) a
   .cases h
 .cases h
def K3{t:Tr}(hk:okN t)(hz:t.size<=4611686018427387904):Hd ⟨21,[ndA t],.of (iA (dS t))⟩:=by
 refine⟨rM func21,λok w c h=>?_⟩
 match c,h with
 | [v],⟨a,_⟩ =>
  refine (Bj ((oK hk a).ae (λ_ h _=>h)) hz).mono ?_;rintro e d ⟨rfl,b⟩;exact⟨b,_,rfl,fI.v _⟩
def vaZ:A1:=.agg [.d (.v (.i 0)),.d (.v (.i 0)),.d (.v (.i 0)),.d (.v (.string ⟨#[]⟩)),.d (.s 0 []),.d (.s 0 []),.d (.s 0 [])]
def anyA:A1:=.agg [.d .t,.d .t,.d .t,.d .t,.d .t,.d .t,.d .t]
def parseA:Option Va->AV
 | some x=>.rz [pF x,iA 0]
 | none=>.rz [vaZ,iA 1]
def WI{T:Ty}{t:Tr}(i:okT T)(l:okN t)(hz:t.size<=4611686018427387903):Hd ⟨113,[tyA T,ndA t],parseA (jf T t)⟩:=by
 have a:=SV i;have hN:=K3 l od;unfold jf
 cases j:bn T with
 | false =>
  rw[j]at a;rw[if_neg ot];have⟨u,g⟩:=T;have⟨k,n,p,s,c⟩:=t;exact aF func113 [⟨_,a⟩]
 | true =>
  rw[j]at a
  by_cases b:dS t=0
  .rw[b]at hN;rw[if_pos ⟨rfl,b⟩];have q:=(iV b).2;have⟨o,es,hR⟩:=read_all _ t T 1 (qS _) od l i (dE j).1
   cases f:readT t T with
   | none =>
    rw[f]at hR;have⟨u,g⟩:=T;have⟨k,n,p,s,c⟩:=t;exact aF func113 [⟨_,a⟩,⟨_,hN⟩,⟨_,hR⟩]
   | some x =>
    rw[f]at hR;have d:=X4 (x:=x) i (readT_okV _ _ _ l f) (by have:=readT_size t T x f;omega);simp only
    cases m:pY T x with
    | false =>
     rw[m]at d;have⟨u,g⟩:=T;have⟨k,n,p,s,c⟩:=t;exact aF func113 [⟨_,a⟩,⟨_,hN⟩,⟨_,hR⟩,⟨_,d⟩]
    | true =>
     rw[m]at d;have⟨u,g⟩:=T;have⟨k,n,p,s,c⟩:=t;exact aF func113 [⟨_,a⟩,⟨_,hN⟩,⟨_,hR⟩,⟨_,d⟩]
  .rw[if_neg (λh=>b h.2)];generalize dS t=e at *;have⟨u,g⟩:=T;have⟨k,n,p,s,c⟩:=t;exact runT func113 [(14,bA true)] [⟨_,a⟩,⟨_,hN⟩] (ob:=[jJ (!decide (e=0)) true]) (al (eT (by simpa using b)) al0)
end
