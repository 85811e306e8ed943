import Derived.Test.YtnamdihclpbdfaaGreatKuZau
namespace Go.Proofs.YtnamdihclpbdfaaGreat
set_option linter.all false
open Go.Proofs.Tryz
open Pe
def Xc (en:En):A1:=.agg [.d (.v (.i en.self)),.d (.v (.i en.sender)),.d (.v (.i en.amount)),.d (.v (.i en.balance))]
def YW (r:Rs):A1:=.agg [.d (.v (.i r.code)),.d (.s 7 (vasD r.stack)),.d (.v (.i r.said.k)),.d (.v (.i r.said.n)),.d (.v (.i r.said.a)),.d (.v (.string r.said.s)),.d (.s 7 (vasD r.said.args)),.d (.s 2 (tysD r.said.types)),.d (.s 5 (ndsD r.said.code)),.d (.v (.i r.aC)),.d (.v (.i r.aO))]
def TZ{ok:br}{w:cg}{en:En}{v:cm}(h:gm (λ_=>none) ok w (Xc en) v):v =.agg #[.i en.self,.i en.sender,.i en.amount,.i en.balance]:=by
 obtain⟨j,rfl,h⟩:=h
 match j,h with
 | [a,b,c,d],⟨e,h2,f,g,_⟩ =>
  rw[bW e,bW h2,bW f,bW g]
def XC{ok:br}{w:cg}{r:Rs}{v:cm}(h:WQ ok w r v):iZ (λ_=>none) ok w (.of (YW r)) v:=by obtain⟨D,E,V,k,n,a,s,y,al,z,F,tl,G,A,C,B,rfl,l,j,i⟩:=h;have⟨b,c,u,x,m,o,e,p,q,t⟩:=y9 i;simp only[bg,ja5,jc3,qa5,Value.int.injEq,Value.string.injEq,true_and,and_true]at e;obtain⟨rfl,rfl,rfl,rfl,d,f,g⟩:=e;rw[d,f,g];exact⟨_,rfl,.v _,yu j l,.v _,.v _,.v _,.v _,p,q,t,.v _,.v _,trivial⟩
def VK{en:En}{n:Tr}{s:aw}{l:ao}{aC:Int}(hn:okN n)(Q:n.size<=4611686018427387904)(hs:okTs s)(hl:okVs l)(h6:l.length<=10000000)(P:∀x∈l,x.size<=6000000)(A:bD aC)(J:aC<=50000) :
 Hd ⟨156,[Xc en,ndA n,dZ s,qi l,iA aC],.of (YW (Fy en n s l aC))⟩:=⟨tF func156,λok w vs h=>by
 match vs,h with
 | [ev,nv,sv,lv,gv],⟨he,D,E,B,K,_⟩ =>
  have hM:=(Pn hn Q hs hl P (λe h=>EO h)).runN rfl;have d:∀g,cq w g none->Calls prog 170 #[nv,sv,lv] g λe p=>e =.returned (.bool (rW n s l))/\cq g p none:=λg q=>by have k:zH ok w ok g:=⟨q.size,λb G h=>⟨h,λo=>ke (q.block b G oe)⟩⟩;refine (hM ok g [nv,sv,lv] ⟨D.keep k (λ_ _ h=>h),E.keep k (λ_ _ h=>h),B.keep k (λ_ _ h=>h),trivial⟩).mono ?_;rintro e p ⟨A,v,rfl,hv⟩;exact⟨by rw[bW hv],A⟩
  obtain rfl:=TZ he;obtain rfl:gv =.i aC:=bW K;have hL:=oK hn D;obtain⟨_,nk,nn,np,nz,S,T,t,rfl,j⟩:=qL hL;obtain⟨sa,sc,VS,rfl,ah,ab⟩:=jR hs (.inl rfl) E;obtain⟨la,lc,VL,rfl,ad,I⟩:=lV hl (.inl rfl) B;have⟨R,n1,U,W,az⟩:=n;simp only[Tr.args0,Tr.nd.injEq,and_true]at t j d|-;obtain⟨rfl,rfl,rfl,rfl⟩:=t;have u:∀(r:Rs) (e:Ending) (p:cg),PN w r e p->cq w p none/\∃v,e =.returned v/\iZ (λ_=>none) (λb=>ok b\/w.heap.size<=b) p (.of (YW r)) v:=λr e p ⟨v,e1,hr,A⟩=>by have⟨sa,sc,V,k,n,a,s,aa,al,ac,ta,tl,tc,S,nl,T,e2,y,hV,hS⟩:=hr;exact⟨A,v,e1,XC ⟨sa,sc,V,k,n,a,s,aa,al,ac,ta,tl,tc,S,nl,T,e2,y,hV.ae (λb _ h=>.inr h),hS.ae (λb _ h=>.inr h)⟩⟩
  by_cases H:Ah en/\rW (.nd R n1 U W az) s l
  .unfold Fy;rw[if_pos H];have⟨m,C⟩:=H;have⟨⟨f,x,y⟩,Z⟩:=zb.1 C;have z:=CU m;have hx:=uV y;have Y:x.length<=342:=by omega
   have F:f=false->x=x:=λ_=>rfl;have⟨N,X⟩:=Cg (aC:=aC) z y F Y Z (abM P);rw[xA (uW X)];have⟨M,c⟩:az.length<=T/\∃V,cK ok w az S V:=by have⟨_,h1,V,h2⟩:=rep_rowN _ (jj _) hn.2 j;exact⟨h1,V,h2⟩
   have⟨VR,c⟩:=c;rw[C]at d;exact (RA m z c M Y J (Gg y F Z (abM P)) X d (λg q O hO=>Cy (Src.row ((I.ae (ok':=λb=>¬O b) λb G _ h=>by have:=hO b h;omega).same (λb o _ L=>ke (q.block b L oe)))) od) A).mono (u _)
  .unfold Fy;rw[if_neg H];refine (Vb (b:=Ah en) (s:=s) (l:=l) (az:=az) rfl (λG g q=>?_)).mono (u _);have:=d g q;rw[show rW (.nd R n1 U W az) s l=false by cases h:rW (.nd R n1 U W az) s l with|false=>rfl|true=>exact absurd ⟨G,h⟩ H]at this;exact this⟩
def acN (P S:Ty) (c:aE) (x:Va):Ac:=⟨2,0,0,P.t,P.args,S.t,S.args,c,x.k,x.n,x.a,x.s,x.args,x.types,x.code⟩
def ku (o:lI):Except Int Ac :=
 if fu o.p then (if fu o.s then (if DR (kreadT o.p) (kreadT o.s) o.code=0 then (match jf (kreadT o.s) o.arg with
  | some x=>if yN x then .error 5 else .ok (acN (kreadT o.p) (kreadT o.s) o.code.args0 x)
  | none=>.error 5)else .error (DR (kreadT o.p) (kreadT o.s) o.code))else .error 5)else .error 5
def aaJ (W:Wk) (A:Ac) (i:Nat) (n:Int):Wk×Int :=
 if (moveF (vU W.L i A) W.src i n).2=0 then ({ W with L:=(moveF (vU W.L i A) W.src i n).1,made:=W.made++[(i:Int)] },0)else ({ W with L:=vU W.L i A },(moveF (vU W.L i A) W.src i n).2)
def wy (W:Wk) (o:lI):Wk×Int :=
 match ku o with
 | .error e=>(W,e)
 | .ok A=>if ib W.L 12 0=12 then (W,7)else aaJ W A (ib W.L 12 0) o.lG
def Kk (W:Wk) (i:Nat) (r:Rs):Wk×List Rq×Int :=
 if r.code=0 then (if (addN W.Ze r.aO).2=0 then (match r.stack with
  | [.mk _ _ _ _ [l,s] _ _]=>({ W with paid:=W.paid+r.aC,Ze:=(addN W.Ze r.aO).1,L:=NY W.L i s },l.args.map (Rq.told i),0)
  | _=>(W,[],99))else ({ W with paid:=W.paid+r.aC },[],(addN W.Ze r.aO).2))else ({ W with paid:=W.paid+r.aC },[],r.code)
noncomputable def pK (W:Wk) (i:Nat) (en:En) (x:Va):Wk×List Rq×Int :=
 Kk W i (Fy en (lD (W.L i)) [.nd 11 [(W.L i).par,(W.L i).oh]] [aY x (W.L i).val] (W.aC - W.paid))
noncomputable def Cr (W:Wk) (r:Rq) (i:Nat):Wk×List Rq×Int :=
 match argF r (qO (W.L i))with
 | none=>(W,[],5)
 | some x=>if (W.L i).is=1 then (W,[],0)else pK W i ⟨i,r.fr,r.lG,(W.L i).ji⟩ x
noncomputable def mW (W:Wk) (r:Rq):Wk×List Rq×Int :=
 if (moveF W.L r.fr r.dst r.lG).2=0 then Cr { W with L:=(moveF W.L r.fr r.dst r.lG).1 } r r.dst.toNat else (W,[],(moveF W.L r.fr r.dst r.lG).2)
noncomputable def yS (W:Wk):Rq->Wk×List Rq×Int
 | .told f v=>mW W (.told f v)
 | .op f o=>if o.kind=1 then mW W (.op f o)else if o.kind=2 then ((wy W o).1,[],(wy W o).2)else (W,[],3)
noncomputable def rowF:Nat->Wk->List Rq->Wk×Int
 | 0,W,_=>(W,7)
 | _+1,W,[]=>(W,0)
 | N+1,W,r::rs=>if W.done=24 then (W,7)else
  if (yS W r).2.2=0 then rowF N { (yS W r).1 with done:=(yS W r).1.done+1 } (rs++(yS W r).2.1)else ((yS W r).1,(yS W r).2.2)
noncomputable def doneF:Wk->List lI->Wk×Int
 | W,[]=>(W,0)
 | W,o::os=>if (rowF 26 W [.op W.src o]).2=0 then doneF (rowF 26 W [.op W.src o]).1 os else rowF 26 W [.op W.src o]
def mf (L:Lg) (f:Int) (b:Bt):Int :=
 if yl L f then (if p8 L b.src then (if b.cnt=(L b.src.toNat).cnt+1/\(L b.src.toNat).cnt≠1152921504606846976 then (if 0<=b.eD/\0<=b.aC/\b.aC<=1048576 then
  (if b.ops.length≠0/\b.ops.length<=8 then (if (L b.src.toNat).ji<b.eD then 8 else 0)else 7)else 2)else 9)else 6)else 2
noncomputable def bn (L:Lg) (f:Int) (b:Bt):Lg×Int×Rc :=
 if mf L f b=0 then (if (doneF ⟨jo L b,f+b.eD,b.src,b.aC,0,0,0,[]⟩ b.ops).2=0
  then ((doneF ⟨jo L b,f+b.eD,b.src,b.aC,0,0,0,[]⟩ b.ops).1.L,(doneF ⟨jo L b,f+b.eD,b.src,b.aC,0,0,0,[]⟩ b.ops).1.fe,⟨0,(doneF ⟨jo L b,f+b.eD,b.src,b.aC,0,0,0,[]⟩ b.ops).1.done,(doneF ⟨jo L b,f+b.eD,b.src,b.aC,0,0,0,[]⟩ b.ops).1.paid,(doneF ⟨jo L b,f+b.eD,b.src,b.aC,0,0,0,[]⟩ b.ops).1.Ze,(doneF ⟨jo L b,f+b.eD,b.src,b.aC,0,0,0,[]⟩ b.ops).1.made⟩)
  else (jo L b,f+b.eD,⟨(doneF ⟨jo L b,f+b.eD,b.src,b.aC,0,0,0,[]⟩ b.ops).2,0,(doneF ⟨jo L b,f+b.eD,b.src,b.aC,0,0,0,[]⟩ b.ops).1.paid,0,[]⟩))else (L,f,⟨mf L f b,0,0,0,[]⟩)
def kM{L:Lg}{f:Int}{b:Bt}(h:mf L f b=0):yl L f/\p8 L b.src/\(b.cnt=(L b.src.toNat).cnt+1/\(L b.src.toNat).cnt≠1152921504606846976)/\(0<=b.eD/\0<=b.aC/\b.aC<=1048576)/\(b.ops.length≠0/\b.ops.length<=8)/\b.eD<=(L b.src.toNat).ji:=by
 unfold mf at h;split at h
 .split at h
  .split at h
   .split at h
    .split at h
     .split at h
      .cases h
      .exact⟨oR,oR,oR,oR,oR,od⟩
     .cases h
    .cases h
   .cases h
  .cases h
 .cases h
structure Ch (o:lI):Prop where
 p:okN o.p
 s:okN o.s
 c:okN o.code
 a:okN o.arg
 zc:o.code.size<=3000000
 za:o.arg.size<=4611686018427387903
open Pe Go.ChangeShapes Go.WideShapes Go.ChangeAt Go.RowKit
set_option maxRecDepth 100000
set_option maxHeartbeats 1000000
attribute [local go_sem] Y8
def copC_any:∀(N:Nat) {W:cg}{l:aE}{a:bj}{c:Nat}{V:bt},sizes l<N->N<=20000000->cK (λ_=>True) W l a V->Calls prog 160 #[.slice a l.length c] W (Sv W l):=λN=>by
 induction N with
 | zero=>intro W l a c V Z;exact absurd Z (Nat.not_lt_zero _)
 | succ N ih =>
  intro W l a c V Z bn h;have bc:l.length<=sizes l:=cB l;have HC:=jh (Jl (c:=c) h od);have ah:Hid (∀{W:cg} {l:aE} {a:bj} {c:Nat} {V:bt},sizes l<N->cK (λ_=>True) W l a V->Calls prog 160 #[.slice a l.length c] W (Sv W l)):=λh1 h2=>ih h1 od h2;have HN:=jh Z;have bx:(l.length:Int)<=20000000:=od
  have ak:Hid (l.length<=maxLen):=h.1;clear h ih Z bc;go_enter func160,ntmps160;go_wp2_with ((go_at_call 177;(with_reducible refine HC.out.mono ?_);rintro e w1 ⟨v,H,rfl,hK,hg⟩;obtain⟨a2,c2,rfl⟩:=hK.slice;have U:=jh hK;have HG:=jh hg;clear hg hK));have d:=U.out.own;have R:=U.out.len;rcases d.2 with⟨L,h0⟩|⟨g,bk,bm,L,q,hq,hc⟩
  .simp only[ye]at L;obtain⟨rfl,A,rfl⟩:=L;clear A;have m:H=[]:=jz h0;subst m;have bb:l=[]:=jz (by simpa using R.symm);subst bb;clear d R h0;simp only[qa1];refine wp_loop_rounds 1 ?_;rw[rounds_succ];go_wp2;go_ret;exact⟨none,0,λ_=>.i 0,rfl,jj _,cK.nil _ _ _ _,HG⟩
  .simp only[ye]at L;obtain⟨rfl,A,rfl⟩:=L;clear A;have HB:=jh q;have ad:Hid (Wu W w1 g c2 l 0 H):=⟨d,R,λi x u _ _ h=>od,λi x u w m _=>U.lies i x u w m,HG⟩;have HL:=jh R;clear d hq hc q R U;go_loopw [8] (λiv wr=>∃(j:Nat) (H:bo),j<=l.length/\iv =.i j/\Wu W wr g c2 l j H) (λiv _=>l.length - (intOf iv).toNat)
   case atStart=>exact⟨0,H,yv _,rfl,ad⟩
   case round =>
    obtain⟨j,p,hj,rfl,k⟩:=hrel
    by_cases f:j<l.length
    .have D:j<p.length:=by rw[k.len];exact f
     have B:=k.rest j l[j] p[j] (qu f) (qu D) (jj _);have n:=yy f;have F:=qu f;generalize l[j]=x at B n F;have⟨xk,xn,xp,xs,az⟩:=x;have⟨X,K,Vj,ev,it,C⟩:=B.yX;simp only[Tr.k0,Tr.n0,Tr.p0,Tr.s0,Tr.args0]at ev it C;have E:p[j]?=some (af xk xn xp xs X az.length K):=by rw[qu D,ev]
     have h2:∀u∈p,(nodeCells u).length=5:=λu m=>by
      obtain⟨i,P,rfl⟩:=qc5 m;have Q:i<l.length:=by rw[<-k.len];exact P
      by_cases aO:i<j
      .have⟨_,_,_,e,_⟩:=(k.done i l[i] p[i] (qu Q) (qu P) aO).yX;rw[e];rfl
      .have⟨_,_,_,e,_⟩:=(k.rest i l[i] p[i] (qu Q) (qu P) od).yX;rw[e];rfl
     have d:lh W.heap.size wr (.o g p.length c2) p:=by rw[k.len];exact k.own
     have bq:g<wr.heap.size:=(qb5 d g rfl).2;have cc:wr.cell? ⟨g,j*5+4,none⟩=some (.slice X az.length K):=by have:=qd7 d (g:=g) rfl (j*5+4) (.slice X az.length K) (by rw[flat_get p h2 j 4 _ E od];rfl);rw[gI,qb1]at this;exact this
     have aq:Hid (sizes az<N):=by have h1:=Ei n;have Y:=HN.out;exact (by simp only[Tr.size]at h1;omega:sizes az<N)
     have I:=jh (ah (c:=K) aq ((C.ae (λ_ _ _=>trivial)).same (sameAll k.gr)));have d1:(j:Int)<(l.length:Int):=od
     have d2:(j:Int)<(H.length:Int):=by rw[HL.out];exact d1
     have⟨HI,J,ar,H2,ax,r⟩:=wg k d E h2 F it;have aa:Hid (W.heap.size<=g):=HB.out;clear k d E h2 F it C n B;go_wp2_with ((go_at_call 160;(with_reducible refine I.out.mono ?_);rintro e T ⟨z,G,V3,rfl,O,M,s⟩;have bl:=oG s cc;have fz:=jb7 (qd6 J.out s (.inr Of)) (j*5+4);have an:=jh M;have ab:=jh O;have y:=jh s;clear M s O I));go_roundw
     case rel =>
      have t:cq T (T.setCell ⟨g,j*5+4,none⟩ (.slice z az.length G)) (some g):=aX (au _ _) _ _ _;have S:Same (λb=>b≠g) T (T.setCell ⟨g,j*5+4,none⟩ (.slice z az.length G)):=λb o q f=>ke (t.block b f (by simpa using q));have k:=HI.out;have aC:=aa.out;have bh:=qd6 J y (.inr Of);refine⟨j+1,p.set j (af xk xn xp xs z az.length G),od,by go_num,⟨?_,by simp[k.len],λi x u w m P=>?_,λi x u w m P=>?_,aG (Lf.Zt k.gr y) t aC⟩⟩
      .unfold lh;have:=(bh.stored (j*5+4) (.slice z az.length G)).1;rw[je2,Dv xk xn xp xs X az.length K z az.length G p H2.out j ar.out,<-k.len];exact this
      .by_cases e:i=j
       .subst e;rw[ax.out]at w;simp only[qq]at w;subst w;rw[ja7 D]at m;simp only[qq]at m;subst m;have Y:cK (λb=>W.heap.size<=b/\b≠g) (T.setCell ⟨g,i*5+4,none⟩ (.slice z az.length G)) az z V3:=(an.out.ae (λb _ q=>⟨xo k.gr.size q,od⟩)).same (λb o q f=>S b o q.2 f);exact bI.mk (hk:=ab.out) V3 Y.1 r.2.2.2 r.1 r.2.1 r.2.2.1 Y.2.1 Y.2.2
       .rw[qf5 od]at m;exact ((k.done i x u w m od).same (λb o _ f=>sameAll y b o trivial f)).same (λb o q f=>S b o q.2 f)
      .rw[qf5 od]at m;exact k.rest i x u w m od
     case measure=>simp[intOf];omega
    .have ba:j=l.length:=by omega
     subst ba;have d1:¬(l.length:Int)<(l.length:Int):=od
     have HE:=jh (Gn k ak);clear k;go_wp2;go_ret;have h:=HE.out
     first|exact h|(rw[<-HL.out]at h;exact h)
set_option maxHeartbeats 4000000
def Vd{l:aE}(hk:okNs l)(q:sizes l<=3000000):Hd ⟨160,[CW l],.of (CW l)⟩:=⟨tF func160,λok w m h=>by
 match m,h with
 | [v],⟨g,_⟩ =>
  obtain⟨a,c,V,rfl,p,i⟩:=xU hk (.inl rfl) g;refine (copC_any 20000000 od (jj _) (i.ae λ_ _ _=>trivial)).mono ?_;rintro e r ⟨o,c2,n,rfl,f,d,k⟩;exact⟨k,_,rfl,uI (d.ae λb _ j=>.inr j) f⟩⟩
def acZ:A1:=.agg ((Qt false).map .d)
def contrA:Except Int Ac->AV
 | .ok A=>.rz [UI A,iA 0]
 | .error e=>.rz [acZ,iA e]
def Z4{o:lI}(N:okN o.p)(O:okN o.s)(hc:okN o.code)(T:okN o.arg)(zc:o.code.size<=3000000)(za:o.arg.size<=4611686018427387903):Hd ⟨132,[.one (.d (.e (wO o)))],contrA (ku o)⟩:=by
 have b:=Vi N;have h2:=Vi O;have oP:=okT_read _ N;have m:=okT_read _ O;have c:=JB oP m hc od;have f:=aet m T za;unfold ku;have⟨k,d,a,⟨E,F,G,g,D⟩,⟨r,t,u,v,pa⟩,⟨y,A,B,C,w⟩,⟨J,K,L,cs,h⟩⟩:=o;simp only at b h2 c f oP m hc zc|-;have R:=Vd (l:=h) hc.2 (by simp only[Tr.size]at zc;omega);simp only[Tr.args0]
 cases H:fu (.nd r t u v pa)with
 | false =>
  rw[H]at b;simp only[qd3,if_false]at b|-;exact aF func132 [⟨_,b⟩]
 | true =>
  rw[H]at b;simp only[if_true]at b|-;generalize kreadT (.nd r t u v pa)=P at b c oP|-;have⟨pt,Q⟩:=P
  cases I:fu (.nd y A B C w)with
  | false =>
   rw[I]at h2;simp only[qd3,if_false]at h2|-;exact aF func132 [⟨_,b⟩,⟨_,h2⟩]
  | true =>
   rw[I]at h2;simp only[if_true]at h2|-;generalize kreadT (.nd y A B C w)=S at h2 c f m|-;have⟨st,sz⟩:=S;generalize DR (.nd pt Q) (.nd st sz) (.nd J K L cs h)=e at c|-
   by_cases n:e=0
   .subst n;rw[if_pos rfl]
    cases j:jf (.nd st sz) (.nd E F G g D)with
    | none =>
     rw[j]at f;exact aF func132 [⟨_,b⟩,⟨_,h2⟩,⟨_,c⟩,⟨_,f⟩]
    | some x =>
     rw[j]at f;have i:=Nu (x:=x) (by have:=(vC j).2;omega);clear j;have q:∀z:Int,Hd ⟨56,[pF x],.of (iA z)⟩->Hd ⟨132,[.one (.d (.e (wO ⟨k,d,a,.nd E F G g D,.nd r t u v pa,.nd y A B C w,.nd J K L cs h⟩)))],contrA (if decide (200<z)then .error 5 else .ok (acN (.nd pt Q) (.nd st sz) h x))⟩:=by
      intro z i;have⟨W,X,U,Y,xz,Z,V⟩:=x
      cases M:decide (200<z)with
      | true=>simp only[if_true];exact runT func132 [(58,bA true)] [⟨_,b⟩,⟨_,h2⟩,⟨_,c⟩,⟨_,f⟩,⟨_,i⟩] (al (eT M) al0)
      | false=>simp only[qd3,if_false];exact runT func132 [(58,bA false)] [⟨_,b⟩,⟨_,h2⟩,⟨_,c⟩,⟨_,f⟩,⟨_,i⟩,⟨_,R⟩] (al (eT M) al0)
     exact q _ i
   .rw[if_neg n];exact runT func132 [(41,bA true)] [⟨_,b⟩,⟨_,h2⟩,⟨_,c⟩] (al (show jJ (!decide (e=0)) true from eT (by rw[zE n];rfl)) al0)
set_option maxHeartbeats 40000000
def adu{ok:br}{w:cg}{n:Nat}{es k:List bd}{v:cm}(h:rowsLe es k)(g:fI ok w (.s n es) v):fI ok w (.s n k) v:=by
 have⟨c,e⟩:=L2.get h
 cases g with
 | s U l m hn p g q =>
  rw[c]at l m|-;refine .s U l m (λi r b=>?_) (λi r j x b f=>?_) (λi r j x b f=>?_) q
  .have⟨x,a,h2⟩:=e i r b;rw[<-(L2.get h2).1];exact hn i x a
  .have⟨y,a,h2⟩:=e i r b;have⟨z,d,_⟩:=(L2.get h2).2 j x f;exact p i y j z a d
  .have⟨y,a,h2⟩:=e i r b;have⟨z,d,o⟩:=(L2.get h2).2 j x f;exact Bv o (g i y j z a d)
def adt (A:Ac):List bd:=[[.v (.i 11),.s 2 [tyD A.par,tyD A.oh]]]
def abI (x:Va) (A:Ac):List bd:=[[.v (.i 11),.v (.i 0),.v (.i 0),.v (.string ⟨#[]⟩),.s 7 [vaD x,vaD A.val],.s 0 [],.s 0 []]]
def ads (A:Ac):A1:=.agg [.d (.v (.i 3)),.d (.v (.i 0)),.d (.v (.i 0)),.d (.v (.string ⟨#[]⟩)),.d (.s 5 (ndsD A.co))]
abbrev aaj (A:Ac) (en:En) (x:Va) (aC:Int) (r:Rs):Prop:=Hd ⟨156,[Xc en,ads A,.one (.d (.s 2 (adt A))),.one (.d (.s 7 (abI x A))),iA aC],.of (YW r)⟩
def aaX(x:Va)(A:Ac):rowsLe (abI x A) (vasD [aY x A.val]):=⟨⟨.inl rfl,.inl rfl,.inl rfl,.inl rfl,.inl rfl,.inr ⟨rfl,2,ot,rfl⟩,.inr ⟨rfl,5,ot,rfl⟩,trivial⟩,trivial⟩
def aac{A:Ac}{en:En}{x:Va}{aC:Int}(h:Hd ⟨156,[Xc en,ndA (lD A),dZ [.nd 11 [A.par,A.oh]],qi [aY x A.val],iA aC],.of (YW (Fy en (lD A) [.nd 11 [A.par,A.oh]] [aY x A.val] aC))⟩):aaj A en x aC (Fy en (lD A) [.nd 11 [A.par,A.oh]] [aY x A.val] aC) :=
 h.conv (λok w k h=>by
  match k,h with
  | [a,b,c,d,e],⟨f,h2,g,i,j,_⟩=>exact⟨f,h2,g,adu (aaX x A) i,j,trivial⟩) (λ_ _ _ h=>h)
section
variable {L:Lg}{f s g d p m:Int}{md:Md}{en:En}{x:Va}{i:Nat}{r:Rs}
abbrev ClH (i:Nat) (en:En) (x:Va) (l:List Rq) (e:Int) (H H':Hp):Prop:=HX 131 [wP 0,wP (15*i),Xc en,pF x] (.rz [KN l,iA e]) H H'
def aaq(c:aaj (L i) en x (g - p) r)(hi:i<12)(e:mD (lW (IntKind.i64.wrap (g - p))) (iA (g - p)))(h:mD (lW (IntKind.i64.wrap (p+r.aC))) (iA (p+r.aC)))(b:r.code≠0):ClH i en x [] r.code (dW 2900070 L f s g d p m md) (dW 2900170 L f s g d (p+r.aC) m md):=by
 have i1:jJ (!decide (r.code=0)) true:=eT (by simp[b]);clear b;have⟨z,A,w,B,D,C,y⟩:=x;have⟨k,n,l,a,v⟩:=r;have⟨o,q,t,u⟩:=en;rcases bM hi with rfl|rfl|rfl|rfl|rfl|rfl|rfl|rfl|rfl|rfl|rfl|rfl
 all_goals cases md with
  | no=>exact HX.post (res:=.rz [nilA,iA k]) (H':=dW 2900070 L f s g d (p+a) m .no) (bH func131 [(54,iA (g - p)),(63,iA (p+a)),(69,bA true)] [] [⟨_,c⟩] oe (al e (al h (al i1 al0)))) 2900070 2900170
  | ls j es=>exact HX.post (res:=.rz [nilA,iA k]) (H':=dW 2900070 L f s g d (p+a) m (.ls j es)) (bH func131 [(54,iA (g - p)),(63,iA (p+a)),(69,bA true)] [] [⟨_,c⟩] oe (al e (al h (al i1 al0)))) 2900070 2900170
def aar{a e:Int}(k:aaj (L i) en x (g - p) r)(hi:i<12)(l:mD (lW (IntKind.i64.wrap (g - p))) (iA (g - p)))(n:mD (lW (IntKind.i64.wrap (p+r.aC))) (iA (p+r.aC)))(o:r.code=0)(h:Hd ⟨157,[iA m,iA r.aO],.rz [iA a,iA e]⟩)(c:e≠0) :
 ClH i en x [] e (dW 2900070 L f s g d p m md) (dW 2900170 L f s g d (p+r.aC) m md):=by
 have i1:jJ (!decide (e=0)) true:=eT (by simp[c]);clear c;have⟨C,D,A,E,G,F,B⟩:=x;have⟨q,u,t,b,z⟩:=r;obtain rfl:q=0:=o;have⟨c,v,w,y⟩:=en;rcases bM hi with rfl|rfl|rfl|rfl|rfl|rfl|rfl|rfl|rfl|rfl|rfl|rfl
 all_goals cases md with
  | no=>exact HX.post (res:=.rz [nilA,iA e]) (H':=dW 2900070 L f s g d (p+b) m .no) (bH func131 [(54,iA (g - p)),(63,iA (p+b)),(84,bA true)] [] [⟨_,k⟩,⟨_,h⟩] oe (al l (al n (al i1 al0)))) 2900070 2900170
  | ls j es=>exact HX.post (res:=.rz [nilA,iA e]) (H':=dW 2900070 L f s g d (p+b) m (.ls j es)) (bH func131 [(54,iA (g - p)),(63,iA (p+b)),(84,bA true)] [] [⟨_,k⟩,⟨_,h⟩] oe (al l (al n (al i1 al0)))) 2900070 2900170
def aas{o:Nat}{L2:Lg}{p2 a e:Int}{l:List Rq}(h:HX 131 [wP 0,wP o,Xc en,pF x] (.rz [KN l,iA e]) (dW 2900070 L f s g d p m md) (dW 2900070 L2 f s g d p2 a md)):HX 131 [wP 0,wP o,Xc en,pF x] (.rz [KN l,iA e]) (dW 2900070 L f s g d p m md) (dW 2900170 L2 f s g d p2 a md):=by
 cases md<;>exact h.post 2900070 2900170
def acV{a:Int}{k n q:Int}{z:bp}{b e:Va}{ty:aw}{cd:aE}{l:List Rq}(t:aaj (L i) en x (g - p) r)(hi:i<12)(u:mD (lW (IntKind.i64.wrap (g - p))) (iA (g - p)))(v:mD (lW (IntKind.i64.wrap (p+r.aC))) (iA (p+r.aC)))(h:r.code=0)(o:Hd ⟨157,[iA m,iA r.aO],.rz [iA a,iA 0]⟩)
 (hst:r.stack=[.mk k n q z [b,e] ty cd]) (hen:en.self=(i:Int)) (hQ:Hd ⟨158,[iA en.self,qi b.args],.of (KN l)⟩) :
 ClH i en x l 0 (dW 2900070 L f s g d p m md) (dW 2900170 (NY L i e) f s g d (p+r.aC) a md):=by
 have⟨R,S,P,T,V,U,Q⟩:=x;have⟨w,c,A,y,J⟩:=r;obtain rfl:w=0:=h;obtain rfl:c=_:=hst;have⟨j,B,C,D⟩:=en;obtain rfl:j=(i:Int):=hen;have⟨G,H,E,ls,I,lt,F⟩:=b;have⟨M,N,sa,O,sz,st,K⟩:=e;simp only[Va.args]at hQ;rcases bM hi with rfl|rfl|rfl|rfl|rfl|rfl|rfl|rfl|rfl|rfl|rfl|rfl
 all_goals (cases md<;>exact aas (bH func131 [(54,iA (g - p)),(63,iA (p+y))] [] [⟨_,t⟩,⟨_,o⟩,⟨_,hQ⟩] oe (al u (al v al0))))
end
section
variable {L L2 L3:Lg}{f s g d p m p3 m3:Int}{md:Md}{r:Rq}{T:Ty}{x:Va}{i:Nat}{e:Int}{l:List Rq}
abbrev UH (r:Rq) (l:List Rq) (e:Int) (H H':Hp):Prop:=HX 105 [wP 0,Y1 r] (.rz [KN l,iA e]) H H'
abbrev MvH (L:Lg) (f fr dn n:Int) (L2:Lg) (e:Int):Prop:=Hd ⟨128,[lC L f,iA fr,iA dn,iA n],.rz [lC L2 f,iA e]⟩
abbrev TgH (r:Rq) (dst lG:Int):Prop:=Hd ⟨127,[Y1 r],.rz [iA dst,iA lG]⟩
abbrev ArH (r:Rq) (T:Ty) (v:AV):Prop:=Hd ⟨129,[Y1 r,tyA T],v⟩
abbrev WaH (L:Lg) (f s g d p m:Int) (md:Md) (i:Nat) (T:Ty):Prop:=HX 130 [wP (15*i)] (.of (tyA T)) (dW 2900070 L f s g d p m md) (dW 2900170 L f s g d p m md)
def aa4{dst lG:Int}(b:TgH r dst lG)(hm:MvH L f r.fr dst lG L2 e)(a:e≠0):UH r [] e (dW 2900070 L f s g d p m md) (dW 2900170 L f s g d p m md):=by
 have i1:jJ (!decide (e=0)) true:=eT (by simp[a]);clear a
 cases r<;>cases md with
  | no=>exact HX.post (res:=.rz [nilA,iA e]) (H':=dW 2900070 L f s g d p m .no) (bH func105 [(31,bA true)] [] [⟨_,b⟩,⟨_,hm⟩] oe (al i1 al0)) 2900070 2900170
  | ls j es=>exact HX.post (res:=.rz [nilA,iA e]) (H':=dW 2900070 L f s g d p m (.ls j es)) (bH func105 [(31,bA true)] [] [⟨_,b⟩,⟨_,hm⟩] oe (al i1 al0)) 2900070 2900170
variable {fr:Int}{o:lI}{v:Va}
def abj{en:En}(h:ClH i en x l e (dW 2900070 L2 f s g d p m md) (dW 2900170 L3 f s g d p3 m3 md)):ClH i en x l e (dW 2900170 L2 f s g d p m md) (dW 2900172 L3 f s g d p3 m3 md):=by
 cases md<;>exact (h.to 2900070 2900170).post 2900070 2900172
def Ri(h:UH r l e (dW 2900070 L f s g d p m md) (dW 2900172 L3 f s g d p3 m3 md)):UH r l e (dW 2900070 L f s g d p m md) (dW 2900170 L3 f s g d p3 m3 md):=by
 cases md<;>exact h.post 2900172 2900170
end
section
variable {L L2 L3:Lg}{f s g d p m p3 m3:Int}{md:Md}{r:Rq}{T:Ty}{x:Va}{i:Nat}{e:Int}{l:List Rq}{fr:Int}{o:lI}{v:Va}
def Zq{lG:Int}(hi:i<12)(a:TgH (.op fr o) (Int.ofNat i) lG)(hm:MvH L f (Rq.fr (.op fr o)) (Int.ofNat i) lG L2 0)(c:WaH L2 f s g d p m md i T)(b:ArH (.op fr o) T (argA none)):UH (.op fr o) [] 5 (dW 2900070 L f s g d p m md) (dW 2900170 L2 f s g d p m md):=by
 have⟨t,e⟩:=T;rcases bM hi with rfl|rfl|rfl|rfl|rfl|rfl|rfl|rfl|rfl|rfl|rfl|rfl
 all_goals (cases md<;>exact bH func105 [] [] [⟨_,a⟩,⟨_,hm⟩,⟨_,c⟩,⟨_,b⟩] oe al0)
def Uy{lG:Int}(hi:i<12)(a:TgH (.op fr o) (Int.ofNat i) lG)(hm:MvH L f (Rq.fr (.op fr o)) (Int.ofNat i) lG L2 0)(c:WaH L2 f s g d p m md i T)(b:ArH (.op fr o) T (argA (some x)))(e:jJ (decide ((L2 i).is=1)) true):UH (.op fr o) [] 0 (dW 2900070 L f s g d p m md) (dW 2900170 L2 f s g d p m md):=by
 have⟨t,h⟩:=T;have⟨l,n,j,q,u,r,k⟩:=x;rcases bM hi with rfl|rfl|rfl|rfl|rfl|rfl|rfl|rfl|rfl|rfl|rfl|rfl
 all_goals (cases md<;>exact bH func105 [(57,bA true)] [] [⟨_,a⟩,⟨_,hm⟩,⟨_,c⟩,⟨_,b⟩] oe (al e al0))
end
section
variable {L L2 L3:Lg}{f s g d p m p3 m3:Int}{md:Md}{r:Rq}{T:Ty}{x:Va}{i:Nat}{e:Int}{l:List Rq}{fr:Int}{o:lI}{v:Va}
def Zr{lG:Int}(hi:i<12)(a:TgH (.told fr v) (Int.ofNat i) lG)(hm:MvH L f (Rq.fr (.told fr v)) (Int.ofNat i) lG L2 0)(c:WaH L2 f s g d p m md i T)(b:ArH (.told fr v) T (argA none)):UH (.told fr v) [] 5 (dW 2900070 L f s g d p m md) (dW 2900170 L2 f s g d p m md):=by
 have⟨t,e⟩:=T;rcases bM hi with rfl|rfl|rfl|rfl|rfl|rfl|rfl|rfl|rfl|rfl|rfl|rfl
 all_goals (cases md<;>exact bH func105 [] [] [⟨_,a⟩,⟨_,hm⟩,⟨_,c⟩,⟨_,b⟩] oe al0)
def UB{lG:Int}(hi:i<12)(a:TgH (.told fr v) (Int.ofNat i) lG)(hm:MvH L f (Rq.fr (.told fr v)) (Int.ofNat i) lG L2 0)(c:WaH L2 f s g d p m md i T)(b:ArH (.told fr v) T (argA (some x)))(e:jJ (decide ((L2 i).is=1)) true):UH (.told fr v) [] 0 (dW 2900070 L f s g d p m md) (dW 2900170 L2 f s g d p m md):=by
 have⟨t,h⟩:=T;have⟨l,n,j,o,r,q,k⟩:=x;rcases bM hi with rfl|rfl|rfl|rfl|rfl|rfl|rfl|rfl|rfl|rfl|rfl|rfl
 all_goals (cases md<;>exact bH func105 [(57,bA true)] [] [⟨_,a⟩,⟨_,hm⟩,⟨_,c⟩,⟨_,b⟩] oe (al e al0))
end
section
variable {L L2 L3:Lg}{f s g d p m p3 m3:Int}{md:Md}{r:Rq}{T:Ty}{x:Va}{i:Nat}{e:Int}{l:List Rq}{fr:Int}{o:lI}{v:Va}
def Uv{lG:Int}(hi:i<12)(a:TgH (.op fr o) (Int.ofNat i) lG)(hm:MvH L f (Rq.fr (.op fr o)) (Int.ofNat i) lG L2 0)(c:WaH L2 f s g d p m md i T)(b:ArH (.op fr o) T (argA (some x)))(h:jJ (decide ((L2 i).is=1)) false)
 (hc:ClH i ⟨i,Rq.fr (.op fr o),lG,(L2 i).ji⟩ x l e (dW 2900070 L2 f s g d p m md) (dW 2900170 L3 f s g d p3 m3 md)):UH (.op fr o) l e (dW 2900070 L f s g d p m md) (dW 2900170 L3 f s g d p3 m3 md):=by
 have⟨t,j⟩:=T;have⟨q,r,k,u,w,v,n⟩:=x;have hc:=abj hc;rcases bM hi with rfl|rfl|rfl|rfl|rfl|rfl|rfl|rfl|rfl|rfl|rfl|rfl
 all_goals (cases md<;>exact Ri (bH func105 [(57,bA false)] [] [⟨_,a⟩,⟨_,hm⟩,⟨_,c⟩,⟨_,b⟩,⟨_,hc⟩] oe (al h al0)))
end
section
variable {L L2 L3:Lg}{f s g d p m p3 m3:Int}{md:Md}{r:Rq}{T:Ty}{x:Va}{i:Nat}{e:Int}{l:List Rq}{fr:Int}{o:lI}{v:Va}
def Uw{lG:Int}(hi:i<12)(a:TgH (.told fr v) (Int.ofNat i) lG)(hm:MvH L f (Rq.fr (.told fr v)) (Int.ofNat i) lG L2 0)(c:WaH L2 f s g d p m md i T)(b:ArH (.told fr v) T (argA (some x)))(h:jJ (decide ((L2 i).is=1)) false)
 (hc:ClH i ⟨i,Rq.fr (.told fr v),lG,(L2 i).ji⟩ x l e (dW 2900070 L2 f s g d p m md) (dW 2900170 L3 f s g d p3 m3 md)):UH (.told fr v) l e (dW 2900070 L f s g d p m md) (dW 2900170 L3 f s g d p3 m3 md):=by
 have⟨t,j⟩:=T;have⟨o,q,k,r,w,u,n⟩:=x;have hc:=abj hc;rcases bM hi with rfl|rfl|rfl|rfl|rfl|rfl|rfl|rfl|rfl|rfl|rfl|rfl
 all_goals (cases md<;>exact Ri (bH func105 [(57,bA false)] [] [⟨_,a⟩,⟨_,hm⟩,⟨_,c⟩,⟨_,b⟩,⟨_,hc⟩] oe (al h al0)))
end
def aaK(l:List Int)(i:Int):mdOf (l++[i]) =.ls (l.length+1) (mkD (l++[i])):=by
 cases l with
 | nil=>rfl
 | cons x l=>simp[mdOf]
def Xw{o:lI}{e:Int}(h:ku o =.error e):e≠0:=by
 unfold ku at h;split at h
 .split at h
  .split at h
   .split at h
    .split at h<;>cases h;decide
    .cases h;decide
   .rename_i a;cases h;exact a
  .cases h;decide
 .cases h;decide
def R7{o:lI}{A:Ac}(h:ku o =.ok A):A.ji=0:=by
 unfold ku at h;split at h
 .split at h
  .split at h
   .split at h
    .split at h<;>cases h;rfl
    .cases h
   .cases h
  .cases h
 .cases h
def NW{L:Lg}{i:Nat}{A:Ac}(h:qX L)(hb:A.ji=0):qX (vU L i A):=λj a=>by
 unfold vU;split
 .rw[hb];omega
 .exact h j a
section
variable {L L2:Lg}{f s g d p m:Int}{md:Md}{o:lI}{A:Ac}{e:Int}{i:Nat}
abbrev OrH (o:lI) (e:Int) (H H':Hp):Prop:=HX 106 [wP 0,.one (.d (.e (wO o)))] (.of (iA e)) H H'
def acv(h:Hd ⟨132,[.one (.d (.e (wO o)))],.rz [acZ,iA e]⟩)(b:e≠0):OrH o e (dW 2900070 L f s g d p m md) (dW 2900170 L f s g d p m md):=by
 have i1:jJ (!decide (e=0)) true:=eT (by simp[b]);clear b;have⟨k,d,a,⟨_,_,_,_,_⟩,⟨_,_,_,_,_⟩,⟨_,_,_,_,_⟩,⟨_,_,_,_,_⟩⟩:=o
 cases md with
 | no=>exact HX.post (res:=.of (iA e)) (H':=dW 2900070 L f s g _ p m .no) (bH func106 [(15,bA true)] [] [⟨_,h⟩] oe (al i1 al0)) 2900070 2900170
 | ls j es=>exact HX.post (res:=.of (iA e)) (H':=dW 2900070 L f s g _ p m (.ls j es)) (bH func106 [(15,bA true)] [] [⟨_,h⟩] oe (al i1 al0)) 2900070 2900170
def aaM(h:Hd ⟨132,[.one (.d (.e (wO o)))],.rz [UI A,iA 0]⟩)(b:HX 133 [wP 0] (.of (jA 12)) (dW 2900070 L f s g d p m md) (dW 2900170 L f s g d p m md)):OrH o 7 (dW 2900070 L f s g d p m md) (dW 2900170 L f s g d p m md):=by have⟨k,d,a,⟨_,_,_,_,_⟩,⟨_,_,_,_,_⟩,⟨_,_,_,_,_⟩,⟨_,_,_,_,_⟩⟩:=o;cases md<;>exact bH func106 [] [] [⟨_,h⟩,⟨_,b⟩] oe al0
def aaN(h:Hd ⟨132,[.one (.d (.e (wO o)))],.rz [UI A,iA 0]⟩)(hi:i<12)(b:HX 133 [wP 0] (.of (jA i)) (dW 2900070 L f s g d p m md) (dW 2900170 L f s g d p m md))
 (hm:Hd ⟨128,[lC (vU L i A) f,iA s,jA i,iA o.lG],.rz [lC L2 f,iA e]⟩) (e0:e≠0):OrH o e (dW 2900070 L f s g d p m md) (dW 2900170 (vU L i A) f s g d p m md):=by
 have i1:jJ (!decide (e=0)) true:=eT (by simp[e0]);clear e0;have⟨k,d,a,⟨_,_,_,_,_⟩,⟨_,_,_,_,_⟩,⟨_,_,_,_,_⟩,⟨_,_,_,_,_⟩⟩:=o;rcases bM hi with rfl|rfl|rfl|rfl|rfl|rfl|rfl|rfl|rfl|rfl|rfl|rfl
 all_goals (cases md<;>exact bH func106 [(48,bA true)] [] [⟨_,h⟩,⟨_,b⟩,⟨_,hm⟩] oe (al i1 al0))
def or_nil(h:Hd ⟨132,[.one (.d (.e (wO o)))],.rz [UI A,iA 0]⟩)(hi:i<12)(b:HX 133 [wP 0] (.of (jA i)) (dW 2900070 L f s g d p m .no) (dW 2900170 L f s g d p m .no))
 (hm:Hd ⟨128,[lC (vU L i A) f,iA s,jA i,iA o.lG],.rz [lC L2 f,iA 0]⟩):OrH o 0 (dW 2900070 L f s g d p m .no) (dW 2900170 L2 f s g d p m (.ls 1 (mkD [(i:Int)]))):=by
 have⟨k,d,a,⟨_,_,_,_,_⟩,⟨_,_,_,_,_⟩,⟨_,_,_,_,_⟩,⟨_,_,_,_,_⟩⟩:=o;have j:zV 8 0 [] [[.v (.i (Int.ofNat i))]]:=iL (jj _) oe rfl oe ot;have c:=rows_refl [[D.v (.i (Int.ofNat i))]];rcases bM hi with rfl|rfl|rfl|rfl|rfl|rfl|rfl|rfl|rfl|rfl|rfl|rfl
 all_goals exact HX.post (res:=.of (iA 0)) (H':=dW 2000062 L2 f s g _ p m (.ls 1 (mkD [_]))) (bH func106 [] [] [⟨_,h⟩,⟨_,b⟩,⟨_,hm⟩] oe (al c (al j al0))) 2000062 2900170
def or_cons{j:Nat}{es b:List bd}(h:Hd ⟨132,[.one (.d (.e (wO o)))],.rz [UI A,iA 0]⟩)(hi:i<12)(c:HX 133 [wP 0] (.of (jA i)) (dW 2900070 L f s g d p m (.ls j es)) (dW 2900170 L f s g d p m (.ls j es)))
 (hm:Hd ⟨128,[lC (vU L i A) f,iA s,jA i,iA o.lG],.rz [lC L2 f,iA 0]⟩) (he:es.length=j) (hj:j<=100) (hfs:b=es++[[.v (.i (Int.ofNat i))]]):OrH o 0 (dW 2900070 L f s g d p m (.ls j es)) (dW 2900170 L2 f s g d p m (.ls (j+1) b)):=by
 have⟨k,d,a,⟨_,_,_,_,_⟩,⟨_,_,_,_,_⟩,⟨_,_,_,_,_⟩,⟨_,_,_,_,_⟩⟩:=o;have n:zV 8 j es [[.v (.i (Int.ofNat i))]]:=iL od oe rfl ov ot;have l:rowsLe (es.take j++[[.v (.i (Int.ofNat i))]]) b:=by rw[ux od,hfs];exact rows_refl _
 clear he hj hfs;rcases bM hi with rfl|rfl|rfl|rfl|rfl|rfl|rfl|rfl|rfl|rfl|rfl|rfl
 all_goals exact HX.post (res:=.of (iA 0)) (H':=dW 2000062 L2 f s g _ p m (.ls (j+1) b)) (bH func106 [(2000062,.one (.d (.s 1 b)))] [] [⟨_,h⟩,⟨_,c⟩,⟨_,hm⟩] oe (al l (al n al0))) 2000062 2900170
end
def free_le:∀(L:Lg) (n j:Nat),j+n=12->ib L n j<=12
 | L,0,j,h=>by simp only[ib];omega
 | L,n+1,j,h=>by
  simp only[ib];split
  .omega
  .exact free_le L n (j+1) od
def ab2{W:Wk}{o:lI}(k:Ch o)(z:qX W.L)(y:W.made.length<=100):OrH o (wy W o).2 (I4 2900070 W) (I4 2900170 (wy W o).1):=by
 have h:=Z4 k.p k.s k.c k.a k.zc k.za;have j:=H_free (L:=W.L) (f:=W.fe) (s:=W.src) (g:=W.aC) (d:=W.done) (p:=W.paid) (m:=W.Ze) (md:=mdOf W.made);have w:=free_le W.L 12 0 rfl;unfold wy
 cases u:ku o with
 | error e=>rw[u]at h;exact acv h (Xw u)
 | ok A =>
  rw[u]at h;dsimp only
  by_cases b:ib W.L 12 0=12
  .rw[if_pos b];rw[b]at j;exact aaM h j
  .rw[if_neg b];generalize ib W.L 12 0=i at j w b;have v:i<12:=by omega
   have q:=Vq (f:=W.fe) (fr:=W.src) (dn:=Int.ofNat i) (n:=o.lG) (NW (i:=i) z (R7 u));unfold aaJ;rw[show ((i:Nat):Int)=Int.ofNat i from rfl];generalize moveF (vU W.L i A) W.src (Int.ofNat i) o.lG=r at q|-;have⟨L2,e⟩:=r;dsimp only at q|-
   by_cases t:e=0
   .rw[if_pos t];subst t;have⟨L,f,s,g,d,p,m,made⟩:=W;unfold I4;dsimp only at j y|-;rw[aaK]
    cases made with
    | nil=>exact or_nil h v j q
    | cons x l=>exact or_cons h v j q (by simp[mkD]) (by simpa using y) (by simp[mkD])
   .rw[if_neg t];exact aaN h v j q t
section
variable {L L2 L3:Lg}{f s g d p m p3 m3:Int}{md:Md}{r:Rq}{T:Ty}{x:Va}{i:Nat}{e:Int}{l:List Rq}{fr:Int}{o:lI}{v:Va}
abbrev UU (r:Rq) (l:List Rq) (e:Int) (H H':Hp):Prop:=HX 79 [wP 0,Y1 r] (.rz [KN l,iA e]) H H'
variable {md3:Md}{f3 s3 g3 d3:Int}
def aay(h:UH (.told fr v) l e (dW 2900070 L f s g d p m md) (dW 2900170 L3 f3 s3 g3 d3 p3 m3 md3)):UU (.told fr v) l e (dW 2900070 L f s g d p m md) (dW 2900170 L3 f3 s3 g3 d3 p3 m3 md3):=by
 cases md<;>cases md3<;>exact bH func79 [] [] [⟨_,h⟩] oe al0
def aaz(h:UH (.op fr o) l e (dW 2900070 L f s g d p m md) (dW 2900170 L3 f3 s3 g3 d3 p3 m3 md3))(b:o.kind=1):UU (.op fr o) l e (dW 2900070 L f s g d p m md) (dW 2900170 L3 f3 s3 g3 d3 p3 m3 md3):=by have⟨k,c,a,⟨_,_,_,_,_⟩,⟨_,_,_,_,_⟩,⟨_,_,_,_,_⟩,⟨_,_,_,_,_⟩⟩:=o;obtain rfl:k=1:=b;cases md<;>cases md3<;>exact bH func79 [] [] [⟨_,h⟩] oe al0
def aax(h:OrH o e (dW 2900070 L f s g d p m md) (dW 2900170 L3 f3 s3 g3 d3 p3 m3 md3))(b:o.kind=2):UU (.op fr o) [] e (dW 2900070 L f s g d p m md) (dW 2900170 L3 f3 s3 g3 d3 p3 m3 md3):=by have⟨k,c,a,⟨_,_,_,_,_⟩,⟨_,_,_,_,_⟩,⟨_,_,_,_,_⟩,⟨_,_,_,_,_⟩⟩:=o;obtain rfl:k=2:=b;cases md<;>cases md3<;>exact bH func79 [] [] [⟨_,h⟩] oe al0
def aaw(b:o.kind≠1)(c:o.kind≠2):UU (.op fr o) [] 3 (dW 2900070 L f s g d p m md) (dW 2900170 L f s g d p m md):=by
 have⟨k,e,a,⟨_,_,_,_,_⟩,⟨_,_,_,_,_⟩,⟨_,_,_,_,_⟩,⟨_,_,_,_,_⟩⟩:=o;have i1:jJ (decide (k=1)) false:=eT (zE b);have i2:jJ (decide (k=2)) false:=eT (zE c);clear b c
 cases md with
 | no=>exact HX.post (res:=.rz [nilA,iA 3]) (H':=dW 2900070 L f s g d p m .no) (bH func79 [(16,bA false),(29,bA false)] [] [] oe (al i1 (al i2 al0))) 2900070 2900170
 | ls j es=>exact HX.post (res:=.rz [nilA,iA 3]) (H':=dW 2900070 L f s g d p m (.ls j es)) (bH func79 [(16,bA false),(29,bA false)] [] [] oe (al i1 (al i2 al0))) 2900070 2900170
end
abbrev UM (β:Nat->Option Nat) (S:St) (ex:Nat) (q:St):Prop:=@vO (qh β) prog f54.ntmps ⟨gF f54,S,ex,q⟩
def Su (k:Nat) (L:Lg) (f s g d p m:Int) (md:Md) (es:List bd) (n i:Nat):St:=[((0,0),.of (wP 0)),((0,5),.of (.one (.g k 3 n))),((k+1,0),.kv 101 3 es),((0,6),.of (jA i))]++WE 818800 3900070 L f s g d p m md
def cwE (e:Int) (S:St):St:=((0,4),.of (iA e))::S
def adS(k m:Nat):some (AV.of (.one (.g k 3 m)))=some (.of (.one (.g k 3 m)))/\([]:List bd)=[]/\true:=⟨rfl,rfl,rfl⟩
section
variable {β:Nat->Option Nat}{k n i:Nat}{L L2:Lg}{f s g d p m f2 s2 g2 d2 p2 m2:Int}{md md2:Md}{es es2:List bd}{r y:Rq}{ys:List Rq}{e:Int}{ex:Nat}{q:St}
def acg(hk:k=3000010\/k=3000046):UM β (Su k L f s g d p m md es n n) 2 (WE 818800 3900070 L f s g d p m md):=by have i1:mD (aQ (decide (Int.ofNat n<Int.ofNat n))) (bA false):=wH od;rcases hk with rfl|rfl<;>cases md<;>exact fF (e:=1) [(14,bA false)] [] (al i1 al0)
def aav(hk:k=3000010\/k=3000046)(hi:i<n)(a:d=24):UM β (Su k L f s g d p m md es n i) 1 (cwE 7 (WE 818800 3900070 L f s g d p m md)):=by have i1:mD (aQ (decide (Int.ofNat i<Int.ofNat n))) (bA true):=is_lt ov;subst a;rcases hk with rfl|rfl<;>cases md<;>exact fF (e:=0) [(14,bA true)] [] (al i1 al0)
def cwT (k i:Nat) (r:Rq):Hints:=[(14,bA true),(22,bA false),(27,.one (.q k (i*3))),(28,Y1 r)]
def cwO (k n i:Nat) (d:Int) (es:List bd) (r:Rq):List Prop:=[mD (aQ (decide (Int.ofNat i<Int.ofNat n))) (bA true),jJ (decide (d=24)) false,(if 3=3/\i<n then some (AV.of (.one (.q k (i*3))))else none)=some (.of (.one (.q k (i*3)))),(dY es (i*3) 3).bind (mkA true)=some (.of (Y1 r))]
def acf(hi:i<n)(a:d≠24)(hc:dY es (i*3) 3=some ((rqD r).map .d)):∀p∈cwO k n i d es r,p :=
 al (is_lt ov) (al (eT (zE a)) (al (if_pos ⟨rfl,hi⟩) (al (by rw[hc];cases r<;>rfl) al0)))
def XG{l:List Rq}(h:UU r l e (dW 2900070 L f s g d p m md) (dW 2900170 L2 f2 s2 g2 d2 p2 m2 md2)):UU r l e (dW 3900070 L f s g d p m md) (dW 2900070 L2 f2 s2 g2 d2 p2 m2 md2):=by
 cases r<;>cases md<;>cases md2<;>exact (h.to 2900070 3900070).post 2900170 2900070
def ach(hk:k=3000010\/k=3000046)(c:∀p∈cwO k n i d es r,p)(b:UU r [] e (dW 2900070 L f s g d p m md) (dW 2900170 L2 f2 s2 g2 d2 p2 m2 md2))(a:e≠0):UM β (Su k L f s g d p m md es n i) 1 (cwE e (WE 818800 3900070 L2 f2 s2 g2 d2 p2 m2 md2)):=by have o:=jX c (al (show jJ (!decide (e=0)) true from eT (by simp[a])) al0);have h:=XG b;clear b a;have F:=λj l q=>(fF (β:=β) (e:=0) (cwT k i r++[(33,bA true)]) [⟨_,h⟩] o (h:=j) (hc:=l) (hm:=q):UM β (Su k L f s g d p m md es n i) 1 (cwE e (WE 818800 3900070 L2 f2 s2 g2 d2 p2 m2 md2)));rcases hk with rfl|rfl<;>cases r<;>cases md<;>cases md2<;>exact F oA oA oA
def XF(hk:k=3000010\/k=3000046)(b:∀p∈cwO k n i d es r,p)(a:UU r [] 0 (dW 2900070 L f s g d p m md) (dW 2900170 L2 f2 s2 g2 d2 p2 m2 md2))(c:mD (lW (IntKind.i64.wrap (d2+1))) (iA (d2+1)))(e:mD (lW (IntKind.i64.wrap (Int.ofNat i+1))) (jA (i+1)))
 (hn:UM β (Su k L2 f2 s2 g2 (d2+1) p2 m2 md2 es n (i+1)) ex q):UM β (Su k L f s g d p m md es n i) ex q:=by
 have o:=jX b (al c (al (adS k n) (al e al0)));have h:=XG a;clear a;have F:=λj l t=>(jC (β:=β) (cwT k i r++[(40,iA (d2+1)),(46,.one (.g k 3 n)),(16,jA (i+1))]) [⟨_,h⟩] hn o (h:=j) (hc:=l) (hm:=t):UM β (Su k L f s g d p m md es n i) ex q);rcases hk with rfl|rfl<;>cases r<;>cases md<;>cases md2<;>exact F oA oA oA
def Pg(hk:k=3000010\/k=3000046)(b:∀p∈cwO k n i d es r,p)(a:UU r (y::ys) 0 (dW 2900070 L f s g d p m md) (dW 2900170 L2 f2 s2 g2 d2 p2 m2 md2))(c:mD (lW (IntKind.i64.wrap (d2+1))) (iA (d2+1)))(e:mD (lW (IntKind.i64.wrap (Int.ofNat i+1))) (jA (i+1)))
 (h1:rowsLe (es.take n++kH (y::ys)) es2) (h2:zV 24 n es (kH (y::ys))) (hn:UM β (Su 3000046 L2 f2 s2 g2 (d2+1) p2 m2 md2 es2 (n+(kH (y::ys)).length) (i+1)) ex q):UM β (Su k L f s g d p m md es n i) ex q:=by
 have o:=jX b (al c (al h1 (al h2 (al e al0))));have h:=XG a;clear a;have F:=λj l t=>(jC (β:=β) (cwT k i r++[(40,iA (d2+1)),(2000046,.one (.d (.s 3 es2))),(16,jA (i+1))]) [⟨_,h⟩] hn o (h:=j) (hc:=l) (hm:=t):UM β (Su k L f s g d p m md es n i) ex q);rcases hk with rfl|rfl<;>cases r<;>cases md<;>cases md2<;>exact F oA oA oA
end
def BN{F:FuncId}{az:List A1}{L L2:Lg}{f s g d p m f2 i g2 b p2 c e:Int}{md a:Md}(h:HX F az (.of (iA e)) (dW 2900070 L f s g d p m md) (dW 3900070 L2 f2 i g2 b p2 c a)):HX F az (.of (iA e)) (dW 2900070 L f s g d p m md) (dW 2900170 L2 f2 i g2 b p2 c a):=by
 cases md<;>cases a<;>exact h.post 3900070 2900170
structure Way (P:Wk->List Rq->Prop):Prop where
 dos:∀{W:Wk} {r:Rq} {rs:List Rq},P W (r::rs)->W.done≠24->UU r (yS W r).2.1 (yS W r).2.2 (I4 2900070 W) (I4 2900170 (yS W r).1)
 err:∀{W:Wk} {r:Rq} {rs:List Rq},P W (r::rs)->(yS W r).2.2≠0->(yS W r).2.1=[]
 few:∀{W:Wk} {r:Rq} {rs:List Rq},P W (r::rs)->(yS W r).2.1.length<=24
 next:∀{W:Wk} {r:Rq} {rs:List Rq},P W (r::rs)->W.done≠24->(yS W r).2.2=0->P { (yS W r).1 with done:=(yS W r).1.done+1 } (rs++(yS W r).2.1)
 done:∀{W:Wk} {r:Rq} {rs:List Rq},P W (r::rs)->(yS W r).1.done=W.done
def T9(l:List Rq):jl (kH l):=by unfold jl kH;rw[List.all_map,kd];intro r _;cases r<;>rfl
def abF(r:Rq):(rqD r).length=3:=by cases r<;>rfl
def wkS (K:Nat) (W:Wk):St:=WE 818800 K W.L W.fe W.src W.aC W.done W.paid W.Ze (mdOf W.made)
def XE{P:Wk->List Rq->Prop}(f:Way P):∀(N:Nat) (W:Wk) (a:List Rq) (i k:Nat),P W (a.drop i)->i<=a.length->(0<=W.done/\W.done<=24)->(24 - W.done).toNat+2<=N->a.length<=1+24*W.done.toNat->(k=3000010\/k=3000046) ->
 ((rowF N W (a.drop i)).2=0/\(∀β,UM β (Su k W.L W.fe W.src W.aC W.done W.paid W.Ze (mdOf W.made) (kH a) a.length i) 2 (wkS 3900070 (rowF N W (a.drop i)).1)) \/
   (∀β,UM β (Su k W.L W.fe W.src W.aC W.done W.paid W.Ze (mdOf W.made) (kH a) a.length i) 1 (cwE (rowF N W (a.drop i)).2 (wkS 3900070 (rowF N W (a.drop i)).1))))
 | 0,W,a,i,k,_,_,h0,F,_,_=>od
 | N+1,W,a,i,k,m,J,h0,F,E,hk=>by
  cases x:a.drop i with
  | nil =>
   have : a.length<=i:=by have:=congrArg List.length x;simp at this;omega
   obtain rfl:i=a.length:=od
   refine .inl ⟨rfl,λβ=>?_⟩;exact acg hk
  | cons r I =>
   have⟨o,H,g⟩:=kX x;simp only[rowF]
   by_cases b:W.done=24
   .rw[if_pos b];exact .inr λβ=>aav hk o b
   .rw[if_neg b];rw[x]at m;have c:=f.dos m b;have w:=f.err m;have hF:=f.few m;have u:=f.next m b
    have D:=f.done m;have G:dY (kH a) (i*3) 3=some ((rqD r).map .d):=(DI (A:=kH (a.take i)) (by rw[mg,qc1];omega) (λq E=>by obtain⟨r,_,rfl⟩:=kB.1 E;exact abF r) (abF r) (by unfold kH;rw[<-List.map_take,jc1,H,qa0];rfl)).1;have s:∀p∈cwO k a.length i W.done (kH a) r,p:=acf o b G;generalize yS W r=z at c w hF u D|-;have⟨j,l,e⟩:=z;dsimp only at c w hF u D|-
    by_cases v:e=0
    .subst v;rw[if_pos rfl];have i1:mD (lW (IntKind.i64.wrap (j.done+1))) (iA (j.done+1)):=yY (zF rfl od od);have i2:mD (lW (IntKind.i64.wrap (Int.ofNat i+1))) (jA (i+1)):=yY (zF oe ov ov);have n:(a++l).drop (i+1)=I++l:=by rw[List.drop_append_of_le_length od,g]
     cases l with
     | nil =>
      have t:=XE f N { j with done:=j.done+1 } a (i+1) k (by rw[g];simpa using u rfl) od Kf Kf Kf hk;rw[g]at t;simp only[qc4];rcases t with h|h
      .exact .inl ⟨h.1,λβ=>XF hk s c i1 i2 (h.2 β)⟩
      .exact .inr λβ=>XF hk s c i1 i2 (h β)
     | cons y ys =>
      have B:(a++(y::ys)).length=a.length+(kH (y::ys)).length:=by rw[mg,jx]
      have t:=XE f N { j with done:=j.done+1 } (a++(y::ys)) (i+1) 3000046 (by rw[n];exact u rfl) (by rw[List.length_append];omega) Kf Kf (by dsimp only;rw[List.length_append];omega) (.inr rfl);rw[n,B]at t;have C:rowsLe ((kH a).take a.length++kH (y::ys)) (kH (a++(y::ys))):=by rw[ux vA];unfold kH;rw[qa0];exact rows_refl _
      have h2:zV 24 a.length (kH a) (kH (y::ys)):=iL vA (by simp[kH]) (T9 _) vA ot;rcases t with h|h
      .exact .inl ⟨h.1,λβ=>Pg hk s c i1 i2 C h2 (h.2 β)⟩
      .exact .inr λβ=>Pg hk s c i1 i2 C h2 (h β)
    .rw[if_neg v];obtain rfl:=w v;exact .inr λβ=>ach hk s c v
def ab4{P:Wk->List Rq->Prop}(k:Way P){W:Wk}{r:Rq}(n:P W [r])(l:0<=W.done/\W.done<=24):HX 54 [wP 0,Y1 r] (.of (iA (rowF 26 W [r]).2)) (I4 2900070 W) (I4 2900170 (rowF 26 W [r]).1):=by
 have b:=XE k 26 W [r] 0 3000010 n oe l od oe (.inl rfl);rw[ja4]at b;generalize rowF 26 W [r]=z at b|-;have⟨⟨L2,f2,s2,g2,d2,p2,m2,a⟩,e⟩:=z;have⟨L,f,s,g,d,p,m,made⟩:=W;simp only[wkS,I4]at b|-;generalize mdOf made=md at b|-;generalize mdOf a=md2 at b|-;have i:=wI (S:=Su 3000010 L f s g d p m md (kH [r]) [r].length 0) (q:=gF f54=gF f54) rfl (ps:=[]) al0;rcases b with⟨j,h⟩|h
 .subst j;cases r<;>cases md<;>cases md2
  all_goals exact BN (bH func54 [(10,bA true)] [_] [] (λβ x c=>by rw[qv]at c;subst c;exact h β) i)
 .cases r<;>cases md<;>cases md2
  all_goals exact BN (bH func54 [(10,bA true)] [_] [] (λβ x c=>by rw[qv]at c;subst c;exact h β) i)
abbrev cmL (β:Nat->Option Nat) (S:St) (ex:Nat) (q:St):Prop:=@vO (qh β) prog f35.ntmps ⟨gF f35,S,ex,q⟩
def osA (os:List lI):A1:=.one (.d (.s 23 (os.map wO)))
def cmS (L:Lg) (f s g d p m:Int) (md:Md) (os:List lI) (j:Nat):St:=[((0,0),.of (wP 0)),((0,1),.of (osA os)),((0,8),lW (os.map wO).length),((0,9),.of (jA j))]++WE 818800 3900070 L f s g d p m md
def atO (os:List lI) (j:Nat) (o:lI):Prop:=Bp 23 23 (os.map wO) j=some (.of (.one (.e (wO o) 0)))
def aaL(o:lI):(wO o).length=23:=by have⟨k,d,a,⟨_,_,_,_,_⟩,⟨_,_,_,_,_⟩,⟨_,_,_,_,_⟩,⟨_,_,_,_,_⟩⟩:=o;rfl
def Wj{os:List lI}{j:Nat}{o:lI}(h:os[j]?=some o):atO os j o:=by unfold atO Bp;rw[qb0,h];have⟨k,d,a,⟨_,_,_,_,_⟩,⟨_,_,_,_,_⟩,⟨_,_,_,_,_⟩,⟨_,_,_,_,_⟩⟩:=o;rfl
abbrev ab6 (r:Rq) (e:Int) (H H':Hp):Prop:=HX 54 [wP 0,Y1 r] (.of (iA e)) H H'
section
variable {β:Nat->Option Nat}{j:Nat}{L L2:Lg}{f s g d p m f2 s2 g2 d2 p2 m2:Int}{md md2:Md}{os:List lI}{o:lI}{e:Int}{ex:Nat}{q:St}
def acd(a:j=os.length):cmL β (cmS L f s g d p m md os j) 2 (WE 818800 3900070 L f s g d p m md):=by have i1:mD (aQ (decide (Int.ofNat j<((os.map wO).length:Int)))) (bA false):=wH (by rw[qc3];simp;omega);cases md<;>exact fF (e:=1) [(10,bA false)] [] (al i1 al0)
def ace(a:os[j]?=some o)(c:ab6 (.op s o) e (dW 2900070 L f s g d p m md) (dW 2900170 L2 f2 s2 g2 d2 p2 m2 md2))(b:e≠0):cmL β (cmS L f s g d p m md os j) 1 (cwE e (WE 818800 3900070 L2 f2 s2 g2 d2 p2 m2 md2)):=by have i1:mD (aQ (decide (Int.ofNat j<((os.map wO).length:Int)))) (bA true):=is_lt (by have:=(qT.1 a).1;rw[qc3];simp;omega);have i2:=Wj a;have i3:jJ (!decide (e=0)) true:=eT (by simp[b]);cases md<;>cases md2<;>(have h:=(c.to 2900070 3900070).post 2900170 2900070)<;>exact fF (e:=0) [(10,bA true),(19,.one (.e (wO o) 0)),(23,bA true)] [⟨_,h⟩] (al i1 (al i2 (al i3 al0)))
def abl(a:os[j]?=some o)(b:ab6 (.op s o) 0 (dW 2900070 L f s g d p m md) (dW 2900170 L2 f2 s2 g2 d2 p2 m2 md2))(c:mD (lW (IntKind.i64.wrap (Int.ofNat j+1))) (jA (j+1)))(hn:cmL β (cmS L2 f2 s2 g2 d2 p2 m2 md2 os (j+1)) ex q):cmL β (cmS L f s g d p m md os j) ex q:=by have i1:mD (aQ (decide (Int.ofNat j<((os.map wO).length:Int)))) (bA true):=is_lt (by have:=(qT.1 a).1;rw[qc3];simp;omega);have i2:=Wj a;cases md<;>cases md2<;>(have h:=(b.to 2900070 3900070).post 2900170 2900070)<;>exact jC [(10,bA true),(19,.one (.e (wO o) 0)),(25,jA (j+1))] [⟨_,h⟩] hn (al i1 (al i2 (al c al0)))
end
structure aak (Q:Wk->List lI->Prop):Prop where
 row:∀{W:Wk} {o:lI} {os:List lI},Q W (o::os)->ab6 (.op W.src o) (rowF 26 W [.op W.src o]).2 (I4 2900070 W) (I4 2900170 (rowF 26 W [.op W.src o]).1)
 next:∀{W:Wk} {o:lI} {os:List lI},Q W (o::os)->(rowF 26 W [.op W.src o]).2=0->Q (rowF 26 W [.op W.src o]).1 os
def abk{Q:Wk->List lI->Prop}(c:aak Q){os:List lI}(m:os.length<=1000):∀(u:List lI) (j:Nat) (W:Wk),j<=os.length->os.drop j=u->Q W u ->
 ((doneF W u).2=0/\(∀β,cmL β (cmS W.L W.fe W.src W.aC W.done W.paid W.Ze (mdOf W.made) os j) 2 (wkS 3900070 (doneF W u).1)) \/
   (∀β,cmL β (cmS W.L W.fe W.src W.aC W.done W.paid W.Ze (mdOf W.made) os j) 1 (cwE (doneF W u).2 (wkS 3900070 (doneF W u).1))))
 | [],j,W,p,k,i=>.inl ⟨rfl,λβ=>acd (by have:=congrArg List.length k;simp at this;omega)⟩
 | o::u,j,W,p,k,i=>by
  have⟨f,g,n⟩:=kX k;have a:=c.row i;have b:=c.next i
  have i3:mD (lW (IntKind.i64.wrap (Int.ofNat j+1))) (jA (j+1)):=yY (zF oe ov ov);simp only[doneF];generalize rowF 26 W [.op W.src o]=z at a b|-;have⟨l,e⟩:=z;dsimp only at a b|-
  by_cases d:e=0
  .subst d;rw[if_pos rfl];rcases abk c m u (j+1) l f n (b rfl)with h|h
   .exact .inl ⟨h.1,λβ=>abl g a i3 (h.2 β)⟩
   .exact .inr λβ=>abl g a i3 (h β)
  .rw[if_neg d];exact .inr λβ=>ace g a d
def abU{Q:Wk->List lI->Prop}(l:aak Q){W:Wk}{os:List lI}(k:os.length<=1000)(n:Q W os):HX 35 [wP 0,osA os] (.of (iA (doneF W os).2)) (I4 2900070 W) (I4 2900170 (doneF W os).1):=by
 have b:=abk l k os 0 W (yv _) rfl n;generalize doneF W os=z at b|-;have⟨⟨L2,f2,s2,g2,d2,p2,m2,a⟩,e⟩:=z;have⟨L,f,s,g,d,p,m,made⟩:=W;simp only[wkS,I4]at b|-;generalize mdOf made=md at b|-;generalize mdOf a=md2 at b|-;have i:=wI (S:=cmS L f s g d p m md os 0) (q:=gF f35=gF f35) rfl (ps:=[]) al0;rcases b with⟨j,h⟩|h
 .subst j;cases md<;>cases md2
  all_goals exact BN (bH func35 [] [_] [] (λβ x c=>by rw[qv]at c;subst c;exact h β) i)
 .cases md<;>cases md2
  all_goals exact BN (bH func35 [] [_] [] (λβ x c=>by rw[qv]at c;subst c;exact h β) i)
section
variable {L:Lg}{f s c eD aC c1 e:Int}{os:List lI}{n:Nat}
abbrev L6 (L:Lg) (f:Int) (b:Bt) (e:Int):Prop:=Hd ⟨33,[lC L f,btA b],.of (iA e)⟩
abbrev GoH (L:Lg) (f:Int) (b:Bool):Prop:=Hd ⟨13,[lC L f],aQ b⟩
abbrev PsH (L:Lg) (f n:Int) (b:Bool):Prop:=Hd ⟨53,[lC L f,iA n],aQ b⟩
def four{n:Nat}(h:n<4):n=0\/n=1\/n=2\/n=3:=od
def aaQ(b:Bt)(h:GoH L f false):L6 L f b 2:=by have⟨s,c,eD,aC,os⟩:=b;exact aF func33 [⟨_,h⟩]
def aaT{b:Bt}(h:GoH L f true)(a:PsH L f b.src false):L6 L f b 6:=by have⟨s,c,eD,aC,os⟩:=b;exact aF func33 [⟨_,h⟩,⟨_,a⟩]
variable (h:GoH L f true) (h2:PsH L f (Int.ofNat n) true) (hn:n<4) (i0:mD (lW (IntKind.i64.wrap ((L n).cnt+1))) (iA c1))
include h h2 hn i0
def aaR(a:jJ (!decide (c=c1)) true):L6 L f ⟨Int.ofNat n,c,eD,aC,os⟩ 9:=by rcases four hn with rfl|rfl|rfl|rfl<;>exact runT func33 [(26,iA c1),(27,bA true)] [⟨_,h⟩,⟨_,h2⟩] (al i0 (al a al0))
def aaS(a:jJ (!decide (c=c1)) false)(b:jJ (decide ((L n).cnt=1152921504606846976)) true):L6 L f ⟨Int.ofNat n,c,eD,aC,os⟩ 9:=by rcases four hn with rfl|rfl|rfl|rfl<;>exact runT func33 [(26,iA c1),(27,bA false),(31,bA true)] [⟨_,h⟩,⟨_,h2⟩] (al i0 (al a (al b al0)))
variable (i1:jJ (!decide (c=c1)) false) (i2:jJ (decide ((L n).cnt=1152921504606846976)) false)
include i1 i2
def ado(a:jJ (decide (eD<0)) true):L6 L f ⟨Int.ofNat n,c,eD,aC,os⟩ 2:=by rcases four hn with rfl|rfl|rfl|rfl<;>exact runT func33 [(26,iA c1),(27,bA false),(31,bA false),(36,bA true)] [⟨_,h⟩,⟨_,h2⟩] (al i0 (al i1 (al i2 (al a al0))))
variable (i3:jJ (decide (eD<0)) false)
include i3
def adp(a:jJ (decide (aC<0)) true):L6 L f ⟨Int.ofNat n,c,eD,aC,os⟩ 2:=by rcases four hn with rfl|rfl|rfl|rfl<;>exact runT func33 [(26,iA c1),(27,bA false),(31,bA false),(36,bA false),(40,bA true)] [⟨_,h⟩,⟨_,h2⟩] (al i0 (al i1 (al i2 (al i3 (al a al0)))))
variable (i4:jJ (decide (aC<0)) false)
include i4
def adq(a:jJ (decide ((1048576:Int)<aC)) true):L6 L f ⟨Int.ofNat n,c,eD,aC,os⟩ 2:=by rcases four hn with rfl|rfl|rfl|rfl<;>exact runT func33 [(26,iA c1),(27,bA false),(31,bA false),(36,bA false),(40,bA false),(45,bA true)] [⟨_,h⟩,⟨_,h2⟩] (al i0 (al i1 (al i2 (al i3 (al i4 (al a al0))))))
variable (i5:jJ (decide ((1048576:Int)<aC)) false)
include i5
def adl(a:jJ (decide (((os.map wO).length:Int)=0)) true):L6 L f ⟨Int.ofNat n,c,eD,aC,os⟩ 7:=by rcases four hn with rfl|rfl|rfl|rfl<;>exact runT func33 [(26,iA c1),(27,bA false),(31,bA false),(36,bA false),(40,bA false),(45,bA false),(51,bA true)] [⟨_,h⟩,⟨_,h2⟩] (al i0 (al i1 (al i2 (al i3 (al i4 (al i5 (al a al0)))))))
variable (i6:jJ (decide (((os.map wO).length:Int)=0)) false)
include i6
def adm(a:jJ (decide ((8:Int)<((os.map wO).length:Int))) true):L6 L f ⟨Int.ofNat n,c,eD,aC,os⟩ 7:=by rcases four hn with rfl|rfl|rfl|rfl<;>exact runT func33 [(26,iA c1),(27,bA false),(31,bA false),(36,bA false),(40,bA false),(45,bA false),(51,bA false),(56,bA true)] [⟨_,h⟩,⟨_,h2⟩] (al i0 (al i1 (al i2 (al i3 (al i4 (al i5 (al i6 (al a al0))))))))
variable (i7:jJ (decide ((8:Int)<((os.map wO).length:Int))) false)
include i7
def adV(a:jJ (decide ((L n).ji<eD)) true):L6 L f ⟨Int.ofNat n,c,eD,aC,os⟩ 8:=by rcases four hn with rfl|rfl|rfl|rfl<;>exact runT func33 [(26,iA c1),(27,bA false),(31,bA false),(36,bA false),(40,bA false),(45,bA false),(51,bA false),(56,bA false),(63,bA true)] [⟨_,h⟩,⟨_,h2⟩] (al i0 (al i1 (al i2 (al i3 (al i4 (al i5 (al i6 (al i7 (al a al0)))))))))
def adn(a:jJ (decide ((L n).ji<eD)) false):L6 L f ⟨Int.ofNat n,c,eD,aC,os⟩ 0:=by rcases four hn with rfl|rfl|rfl|rfl<;>exact runT func33 [(26,iA c1),(27,bA false),(31,bA false),(36,bA false),(40,bA false),(45,bA false),(51,bA false),(56,bA false),(63,bA false)] [⟨_,h⟩,⟨_,h2⟩] (al i0 (al i1 (al i2 (al i3 (al i4 (al i5 (al i6 (al i7 (al a al0)))))))))
end
def N8{L:Lg} : ∀d j,ZK L d j->∀i,j<=i->i<j+d->((decide ((L i).is=1))==decide (i<4))/\iR (L i)
 | 0,j,_,i,a,h2=>od
 | d+1,j,h,i,a,h2=>by
  simp only[ZK,qt]at h
  by_cases e:i=j
  .rw[e];exact h.1
  .exact N8 d (j+1) h.2 i od od
def Rz{L:Lg}{f:Int}{b:Bt}(y:∀i,i<12->JI (L i)):L6 L f b (mf L f b):=by
 have d:=Oc (f:=f) y;have e:=ab3 L f b.src;unfold mf
 cases m:yl L f with
 | false=>rw[m]at d;rw[if_neg oe];exact aaQ b d
 | true =>
  rw[m]at d;rw[if_pos rfl]
  cases o:p8 L b.src with
  | false=>rw[o]at e;rw[if_neg oe];exact aaT d e
  | true =>
   rw[o]at e;rw[if_pos rfl];have⟨s,c,eD,aC,os⟩:=b;dsimp only at e o|-;simp only[p8,qt,jt]at o;have⟨⟨h0,t⟩,r⟩:=o;obtain⟨n,rfl⟩:∃n:Nat,s=Int.ofNat n:=⟨s.toNat,ov⟩;simp only[Int.ofNat_eq_natCast,Int.toNat_natCast]at h0 t r|-;unfold yl at m;rw[qt]at m;have⟨z,v⟩:=N8 12 0 m.2 n od od;have hn:n<4:=by simpa[r]using z
   have B:0<=(L n).cnt/\(L n).cnt<=1152921504606846976:=by unfold iR at v;rw[oa,if_pos r,qt]at v;simpa[rf]using v.1
   have i0:mD (lW (IntKind.i64.wrap ((L n).cnt+1))) (iA ((L n).cnt+1)):=yY vl;have a:∀{p:Prop} [Decidable p],¬p->jJ (decide p) false:=λh=>eT (zE h);have j:∀{p:Prop} [Decidable p],p->jJ (decide p) true:=λh=>eT (xb h)
   by_cases c1:c=(L n).cnt+1
   .have i1:jJ (!decide (c=(L n).cnt+1)) false:=eT (by simp[c1])
    by_cases c2:(L n).cnt=1152921504606846976
    .rw[if_neg (by simp[c2])];exact aaS d e hn i0 i1 (j c2)
    .rw[if_pos ⟨c1,c2⟩]
     by_cases g:eD<0
     .rw[oa];exact ado d e hn i0 i1 (a c2) (j g)
     by_cases k:aC<0
     .rw[oa];exact adp d e hn i0 i1 (a c2) (a g) (j k)
     by_cases l:1048576<aC
     .rw[oa];exact adq d e hn i0 i1 (a c2) (a g) (a k) (j l)
     rw[if_pos ⟨od,od,od⟩]
     by_cases x:os.length=0
     .rw[oa];exact adl d e hn i0 i1 (a c2) (a g) (a k) (a l) (j (by rw[qc3];omega))
     have u:jJ (decide (((os.map wO).length:Int)=0)) false:=a (by rw[qc3];omega)
     by_cases A:8<os.length
     .rw[oa];exact adm d e hn i0 i1 (a c2) (a g) (a k) (a l) u (j (by rw[qc3];omega))
     have w:jJ (decide ((8:Int)<((os.map wO).length:Int))) false:=a (by rw[qc3];omega);rw[if_pos ⟨x,od⟩]
     by_cases q:(L n).ji<eD
     .rw[if_pos q];exact adV d e hn i0 i1 (a c2) (a g) (a k) (a l) u w (j q)
     .rw[if_neg q];exact adn d e hn i0 i1 (a c2) (a g) (a k) (a l) u w (a q)
   .rw[if_neg (λh=>c1 h.1)];exact aaR d e hn i0 (eT (by simp[c1]))
def NV (L:Lg) (n:Nat) (v c:Int):Lg:=λj=>if j=n then { L j with ji:=v,cnt:=c } else L j
section
variable {L L1 L2:Lg}{f f1 f2 s c eD aC c2 e s2 g2 d2 p2 m2:Int}{os:List lI}{n:Nat}{b:Bt}
def adH(hn:n<4)(a:mD (lW (IntKind.i64.wrap ((L n).ji - eD))) (iA c2))(b:mD (lW (IntKind.i64.wrap (f+eD))) (iA f2)):Hd ⟨34,[lC L f,btA ⟨Int.ofNat n,c,eD,aC,os⟩],.of (lC (NV L n c2 c) f2)⟩:=by rcases four hn with rfl|rfl|rfl|rfl<;>exact runT func34 [(16,iA c2),(28,iA f2)] [] (al a (al b al0))
def YI (e d g m:Int):List X:=[.d (.v (.i e)),.d (.v (.i d)),.d (.v (.i g)),.d (.v (.i m)),.d (.s 0 [])]
def acz{a:A1}{e d g m:Int}{β:Nat->Option Nat}{ok:br}{w:cg}{v:cm}(h:iZ β ok w (.rz [a,.agg (YI e d g m)]) v):iZ β ok w (.rz [a,.agg (Me ⟨e,d,g,m,[]⟩)]) v:=by
 have⟨s,f,k⟩:=h
 match s,k with
 | [u1,u2],⟨j,⟨r,i,h2⟩,_⟩ =>
  match r,h2 with
  | [a,b,c,d,m],⟨l,n,o,p,q,_⟩=>exact⟨_,f,j,⟨_,i,l,n,o,p,gG q,trivial⟩,trivial⟩
abbrev Mg (L:Lg) (f:Int) (b:Bt) (L2:Lg) (f2:Int) (r:List X):Prop:=Hd ⟨20,[lC L f,btA b],.rz [lC L2 f2,.agg r]⟩
def Mg.nil{e d g m:Int}(h:Mg L f b L2 f2 (YI e d g m)):Mg L f b L2 f2 (Me ⟨e,d,g,m,[]⟩):=Holds.conv h (λ_ _ _ h=>h) (λ_ _ _ h=>acz h)
abbrev CgH (L:Lg) (f:Int) (b:Bt) (L2:Lg) (f2:Int):Prop:=Hd ⟨34,[lC L f,btA b],.of (lC L2 f2)⟩
abbrev AlH (os:List lI) (e:Int) (H H':Hp):Prop:=HX 35 [wP 0,osA os] (.of (iA e)) H H'
def ab8(h:L6 L f b e)(a:e≠0):Mg L f b L f (YI e 0 0 0):=by have i1:jJ (!decide (e=0)) true:=eT (by simp[a]);have⟨s,c,eD,aC,os⟩:=b;exact runT func20 [(14,bA true)] [⟨_,h⟩] (al i1 al0)
def aan{a:Md}(h:L6 L f b 0)(i:CgH L f b L1 f1)(d:AlH b.ops e (dW 2900070 L1 f1 b.src b.aC 0 0 0 .no) (dW 2900170 L2 f2 s2 g2 d2 p2 m2 a))(g:e≠0):Mg L f b L1 f1 (YI e 0 p2 0):=by have i1:jJ (!decide (e=0)) true:=eT (by simp[g]);have⟨s,c,eD,aC,os⟩:=b;cases a<;>(have d:=d.to 818800 8)<;>exact runT func20 [(31,bA true)] [⟨_,h⟩,⟨_,i⟩,⟨_,d⟩] (al i1 al0)
def acU(h:L6 L f b 0)(d:CgH L f b L1 f1)(a:AlH b.ops 0 (dW 2900070 L1 f1 b.src b.aC 0 0 0 .no) (dW 2900170 L2 f2 s2 g2 d2 p2 m2 .no)):Mg L f b L2 f2 (YI 0 d2 p2 m2):=by have⟨s,c,eD,aC,os⟩:=b;have a:=a.to 818800 8;exact runT func20 [] [⟨_,h⟩,⟨_,d⟩,⟨_,a⟩] al0
def acT{j:Nat}{es:List bd}(h:L6 L f b 0)(e:CgH L f b L1 f1)(a:AlH b.ops 0 (dW 2900070 L1 f1 b.src b.aC 0 0 0 .no) (dW 2900170 L2 f2 s2 g2 d2 p2 m2 (.ls j es)))(g:j=es.length):Mg L f b L2 f2 [.d (.v (.i 0)),.d (.v (.i d2)),.d (.v (.i p2)),.d (.v (.i m2)),.d (.s 1 es)]:=by have⟨s,c,eD,aC,os⟩:=b;have a:=a.to 818800 8;exact runT func20 [] [⟨_,h⟩,⟨_,e⟩,⟨_,a⟩] (al g al0)
end
def ZZ{Q:Wk->List lI->Prop}(r:aak Q){L:Lg}{f:Int}{b:Bt}(q:∀i,i<12->JI (L i))(t:mf L f b=0->Q ⟨jo L b,f+b.eD,b.src,b.aC,0,0,0,[]⟩ b.ops):Mg L f b (bn L f b).1 (bn L f b).2.1 (Me (bn L f b).2.2):=by
 have g:=Rz (f:=f) (b:=b) q;unfold bn
 by_cases h0:mf L f b=0
 .rw[if_pos h0];rw[h0]at g;have d:=abU r (W:=⟨jo L b,f+b.eD,b.src,b.aC,0,0,0,[]⟩) (os:=b.ops) (by have:=(kM h0).2.2.2.2.1;omega) (t h0);have h:CgH L f b (jo L b) (f+b.eD):=by
   have⟨g1,g2,g3,D,E,p⟩:=kM h0;have⟨s,c,eD,aC,os⟩:=b;simp only[p8,qt,jt]at g2;have⟨⟨u,m⟩,o⟩:=g2;dsimp only at *;obtain⟨n,rfl⟩:∃n:Nat,s=Int.ofNat n:=⟨s.toNat,ov⟩;simp only[Int.ofNat_eq_natCast,Int.toNat_natCast]at u m o p;unfold yl zo at g1;simp only[qt]at g1;have⟨⟨⟨v,w⟩,F⟩,y⟩:=g1;have⟨A,G⟩:=N8 12 0 y n od od;have hn:n<4:=by simpa[o]using A
   have B:=GU w n od;have C:=Ea v;rw[show jo L ⟨Int.ofNat n,c,eD,aC,os⟩=NV L n ((L n).ji - eD) c by
    funext j
    unfold jo NV
    by_cases e:j=n
    .subst e;rw[if_pos oe,if_pos rfl]
    .rw[if_neg (by simpa using e),if_neg e]]
   exact adH (c2:=(L n).ji - eD) (f2:=f+eD) hn (yY (zF rfl od od)) (yY (zF rfl od od))
  generalize doneF ⟨jo L b,f+b.eD,b.src,b.aC,0,0,0,[]⟩ b.ops=z at d|-;have⟨⟨L2,f2,s2,g2,d2,p2,m2,a⟩,e⟩:=z;dsimp only at d|-
  by_cases k:e=0
  .subst k;rw[if_pos rfl];dsimp only
   cases a with
   | nil=>exact (acU g h d).nil
   | cons x l=>exact acT g h d (by simp[mkD])
  .rw[if_neg k];dsimp only;exact (aan g h d k).nil
 .rw[if_neg h0];dsimp only;exact (ab8 g h0).nil
def Qc{n:Tr}{s x:aw}{f:Bool}(h:codeF n s =.ok f x):okN n:=by
 unfold codeF at h;split at h
 .cases h
 .rename_i a;exact first_okN n 1 (iV (by simpa using a)).1
def fit_ok:∀(N:Nat) {T:Ty}{v:Va},v.size<=N->Fit T v->okV v:=λN=>by
 induction N with
 | zero=>intro T v z;have:=eP v;omega
 | succ N A =>
  intro T v z h;have⟨w,l,⟨B,q,y⟩,m,e⟩:=iO h;have j:=oM w;have d:∀x∈v.args,okV x:=λx f=>by have⟨U,_,p⟩:=fitS_mem y x f;exact A (by have:=IK f;have:=fO f;have:=eP v;omega) p
  have⟨k,n,a,s,args,types,code⟩:=v;simp only[eX,qt,qe2,jt]at l;have⟨⟨⟨⟨⟨hk,hn⟩,i⟩,o⟩,b⟩,c⟩:=l;simp only[Va.k,Va.n,Va.a,Va.s,Va.types,Va.code,Va.args]at hk hn i o b c d e q;have⟨t,g⟩:=T;simp only[Ty.t,Ty.args]at *;refine⟨⟨hk ▸ j.1,?_,?_,?_⟩,okVs_at.2 d,?_,?_⟩
  .unfold bQ kE gN lY at hn;unfold bD
   repeat' split at hn
   all_goals simp at hn;omega
  .simp only[lY,jt]at i;unfold bD;omega
  .unfold maxLen;omega
  .unfold eZ at b;split at b
   .match types,b with
    | [u],b=>exact⟨oM b,trivial⟩
   .split at b
    .rw[sameTs_eq _ _ b];exact j.2
    .have : types=[]:=jz (by simpa using b);rw[this];trivial
  .rcases c with c|c
   .rw[jz c];trivial
   .have d:=e (hk.trans c);unfold jG at d;split at d
    .cases d
    .rename_i r;exact (Qc r).2
def WB{T:Ty}{p:Int}{r:Int×aw}(h:dL T p=some r):T.t≠14:=by intro e;unfold dL at h;simp[e]at h
def nu{t m:Int}{s:bp}{l:ao}(a:t≠14)(b:lamsFs l):lamsF (fM t m s l):=by simp[fM,lamsF,a,b]
mutual
def readT_lams:∀(t:Tr) (T:Ty) (x:Va),readT t T=some x->lamsF x
 | .nd k n p s a,T,x=>by
  intro h;rw[readT]at h;split at h
  .rename_i c;split at h
   .simp only[qq]at h;subst h;exact nu od rfl
   .cases h
  .split at h
   .split at h
    .simp only[qq]at h;subst h;exact nu ot rfl
    .cases h
   .split at h
    .split at h
     .simp only[qS]at h;obtain⟨ys,b,rfl⟩:=h;exact nu ot (readTs_lams a _ ys b)
     .cases h
    .split at h
     .split at h
      .simp only[qS]at h;obtain⟨ys,b,rfl⟩:=h;exact nu ot (readEs_lams a _ ys b)
      .cases h
     .split at h
      .cases h
      .rename_i m e d;simp only[qS]at h;obtain⟨ys,b,rfl⟩:=h;exact nu (WB d) (readTs_lams a _ ys b)
def readTs_lams:∀(l:aE) (ts:aw) (xs:ao),readTs l ts=some xs->lamsFs xs
 | [],[],xs=>by intro h;simp[readTs]at h;subst h;rfl
 | [],_::_,xs=>by intro h;simp[readTs]at h
 | _::_,[],xs=>by intro h;simp[readTs]at h
 | t::l,T::ts,xs=>by
  intro h;rw[readTs]at h
  cases a:readT t T with
  | none=>rw[a]at h;cases h
  | some x =>
   rw[a]at h;simp only[qS]at h;obtain⟨ys,b,rfl⟩:=h;rw[lamsFs,readT_lams t T x a,readTs_lams l ts ys b];rfl
def readEs_lams:∀(l:aE) (ts:aw) (xs:ao),readEs l ts=some xs->lamsFs xs
 | [],ts,xs=>by intro h;simp[readEs]at h;subst h;rfl
 | .nd k n p s a::l,ts,xs=>by
  intro h;rw[readEs]at h
  cases b:readTs a ts with
  | none=>rw[b]at h;cases h
  | some ys =>
   rw[b]at h;simp only at h;split at h
   .simp only[qS]at h;obtain⟨d,c,rfl⟩:=h;rw[lamsFs,nu ot (readTs_lams a ts ys b),readEs_lams l ts d c];rfl
   .cases h
end
def Gq{T:Ty}{t:Tr}{x:Va}(h:jf T t=some x):Fit T x/\x.size<=300:=by
 have⟨b,h2⟩:=vC h;refine⟨?_,h2⟩;unfold Fit qC;rw[b,qa7];unfold jf at h;split at h
 .cases a:readT t T with
  | none=>rw[a]at h;cases h
  | some y =>
   rw[a]at h;simp only at h;split at h
   .simp only[qq]at h;subst h;exact readT_lams t T y a
   .cases h
 .cases h
structure Mon (L:Lg) (f:Int):Prop where
 ge:∀i,i<12->0<=(L i).ji
 fe:0<=f
 sum:f+fQ L 12=4000000
def rA{L:Lg}{i:Nat}{v:Int} : ∀n,fQ (gY L i v) n=fQ L n+(if i<n then v - (L i).ji else 0)
 | 0=>by simp[fQ]
 | n+1=>by
  simp only[fQ];rw[rA n];unfold gY
  by_cases e:n=i
  .subst e;simp;omega
  .rw[if_neg e]
   by_cases h:i<n
   .rw[if_pos h,oc];omega
   .rw[if_neg h,oa];omega
def Ib{L:Lg}(h:∀i,i<12->0<=(L i).ji):∀n,n<=12->0<=fQ L n/\∀i,i<n->(L i).ji<=fQ L n
 | 0,_=>⟨qf0 0,λi a=>od⟩
 | n+1,hn=>by
  have⟨b,h2⟩:=Ib h n od;have c:=h n od;simp only[fQ];refine⟨od,λi a=>?_⟩
  by_cases e:i=n
  .subst e;omega
  .have:=h2 i od;omega
def Mon.shares{L:Lg}{f:Int}(h:Mon L f):qX L:=λi a=>by have b:=(Ib h.ge 12 (jj _)).2 i a;have h2:=h.sum;have c:=h.fe;exact⟨h.ge i a,od⟩
def Mon.fe4{L:Lg}{f:Int}(h:Mon L f):f<=4000000:=by have a:=(Ib h.ge 12 (jj _)).1;have h2:=h.sum;omega
def Mon.mov{L:Lg}{f n:Int}{i j:Nat}(h:Mon L f)(hi:i<12)(a:j<12)(e:0<=n)(g:n<=(L i).ji):Mon (mV L i j n) f:=by
 have c:=h.ge i hi;have d:=h.ge j a;refine⟨λk b=>?_,h.fe,?_⟩
 .have gk:=h.ge k b;unfold mV gY;dsimp only
  repeat' split
  all_goals (try dsimp only)
  all_goals omega
 .unfold mV;rw[rA,rA,if_pos hi,if_pos a];have:=h.sum;omega
def Mon.move{L:Lg}{f fr dn n:Int}(h:Mon L f):Mon (moveF L fr dn n).1 f:=by
 unfold moveF;split
 .rename_i a;rw[qt]at a;have⟨c,d⟩:=u6 a.1;have⟨e,g⟩:=u6 a.2;split
  .rename_i b;simp only[rf,jt]at b;split
   .exact h
   .exact h.mov od od b.1 od
  .exact h
 .exact h
def Mon.of{L a:Lg}{f:Int}(h:Mon L f)(e:∀i,i<12->(a i).ji=(L i).ji):Mon a f:=by
 have : ∀n,n<=12->fQ a n=fQ L n:=λn=>by
  induction n with
  | zero=>intro _;rfl
  | succ n c=>intro hn;simp only[fQ];rw[c od,e n od]
 exact⟨λi b=>by rw[e i b];exact h.ge i b,h.fe,by rw[this 12 (jj _)];exact h.sum⟩
structure GA (i:Nat) (A:Ac):Prop where
 per:A.is=1 ↔ i<4
 whole:iR A
 ok:JI A
 sm:A.is=2->vsum A.val<=200
structure GL (L:Lg) (f:Int):Prop where
 ac:∀i,i<12->GA i (L i)
 EX:Mon L f
def GL.good{L:Lg}{f:Int}(h:GL L f):yl L f:=by
 have e:=h.EX.shares;unfold yl zo;rw[qt,qt,qt];refine⟨⟨⟨?_,?_⟩,xb h.EX.sum⟩,?_⟩
 .simp only[ll,jt];exact⟨h.EX.fe,h.EX.fe4⟩
 .have : ∀d j,j+d<=12->UN L d j:=λd=>by
   induction d with
   | zero=>intro _ _;rfl
   | succ d a =>
    intro j c;rw[UN,a (j+1) od,ka1];simp only[ll,jt];exact e j od
  exact this 12 0 od
 .have : ∀d j,j+d<=12->ZK L d j:=λd=>by
   induction d with
   | zero=>intro _ _;rfl
   | succ d a =>
    intro j c;have b:=h.ac j od;rw[ZK,a (j+1) od,ka1,b.whole,ka1,jg3,qg7];exact b.per
  exact this 12 0 od
def GL.oks{L:Lg}{f:Int}(h:GL L f):∀i,i<12->JI (L i):=λi a=>(h.ac i a).ok
def JI.ji{A:Ac}(h:JI A)(v c:Int):JI { A with ji:=v,cnt:=c }:=⟨h.par,h.oh,h.co,h.val,h.zp,h.zs,h.zc,h.zv⟩
def Eh{A:Ac}(h:iR A):A.is=0\/A.is=1\/A.is=2:=by
 unfold iR at h;split at h
 .left;assumption
 .split at h
  .right;left;assumption
  .split at h
   .right;right;assumption
   .cases h
def GA.ji{i:Nat}{A:Ac}(h:GA i A)(h0:A.is≠0)(v:Int):GA i { A with ji:=v }:=by refine⟨h.per,?_,h.ok.ji v A.cnt,h.sm⟩;have a:=h.whole;unfold iR at a|-;rw[if_neg h0]at a|-;exact a
def GA.chg{i:Nat}{A:Ac}(h:GA i A)(b:A.is=1)(v:Int){c:Int}(hc:rf c):GA i { A with ji:=v,cnt:=c }:=by refine⟨h.per,?_,h.ok.ji v c,h.sm⟩;have a:=h.whole;unfold iR at a|-;rw[oa,if_pos b,qt]at a;rw[if_neg (by show ¬A.is=0;omega),if_pos b,qt];exact⟨hc,a.2⟩
def Ik{L:Lg}{n:Int}(h:ou L n):(L n.toNat).is≠0:=by simp only[ou,qt,qg1,qe1]at h;exact h.2
def GL.move{L:Lg}{f fr dn n:Int}(h:GL L f):GL (moveF L fr dn n).1 f:=by
 refine⟨λk b=>?_,h.EX.move⟩;unfold moveF;split
 .rename_i c;rw[qt]at c;have g:=Ik c.1;have d:=Ik c.2;split
  .split
   .exact h.ac k b
   .unfold mV gY;dsimp only;have a:=h.ac k b;split
    .rename_i e;subst e;split
     .exact a.ji d _
     .exact a.ji d _
    .split
     .rename_i e;subst e;exact a.ji g _
     .exact a
  .exact h.ac k b
 .exact h.ac k b
def GL.Br{L:Lg}{f:Int}{b:Bt}(h:GL L f)(j:mf L f b=0):GL (jo L b) (f+b.eD)/\b.src.toNat<4/\0<=b.src:=by
 have⟨g1,g2,g3,r,s,t⟩:=kM j;simp only[p8,qt,jt]at g2;have⟨⟨p,q⟩,d⟩:=g2;have hn:b.src.toNat<12:=od
 have a:=h.ac _ hn;have l:=a.per.1 d;refine⟨⟨λk n=>?_,?_⟩,l,p⟩
 .unfold jo;split
  .rename_i e;subst e;have c:=a.whole;unfold iR at c;rw[oa,if_pos d,qt]at c;have m:=c.1;simp only[rf,jt]at m;exact a.chg d _ (by simp only[rf,jt];omega)
  .exact h.ac k n
 .have o:Mon (gY L b.src.toNat ((L b.src.toNat).ji - b.eD)) (f+b.eD):=by
   refine⟨λi g=>?_,by have:=h.EX.fe;omega,?_⟩
   .have:=h.EX.ge i g;unfold gY;split
    .rename_i e;subst e;dsimp only;omega
    .exact this
   .rw[rA,if_pos hn];have:=h.EX.sum;omega
  refine o.of λi g=>?_;unfold jo gY;split
  .rename_i e;subst e;rfl
  .rfl
mutual
def same_n:∀t:Tr,Ot uK t t=0
 | .nd k n p s a=>by
  have h:uK (.nd k n p s a) (.nd k n p s a)=0:=by simp[uK]
  rw[Ot,if_neg (by rw[h];simp)];exact same_ns a
def same_ns:∀l:aE,jk uK l l=0
 | []=>by simp[jk]
 | t::l=>by rw[jk,if_neg (by rw[same_n t];simp)];exact same_ns l
end
mutual
def same_v:∀x:Va,qg uL x x=0
 | .mk k n a s b d c=>by
  have h:uL (.mk k n a s b d c) (.mk k n a s b d c)=0:=by simp[uL,sameTs_refl,same_ns]
  rw[qg,if_neg (by rw[h];simp)];exact same_vs b
def same_vs:∀l:ao,eO uL l l=0
 | []=>by simp[eO]
 | x::l=>by rw[eO,if_neg (by rw[same_v x];simp)];exact same_vs l
end
def ada(i:Nat)(p:Bool)(h:p=decide (i<4)):GA i (AB p):=by
 subst h;have c:okV (AB (decide (i<4))).val:=by simp[Ac.val,AB,okV,okVs,okTs,okNs,bD,maxLen,ByteArray.size]
 have a:okT (.nd 0 []):=by simp[okT,okTs,bD]
 have b:CJ (AB (decide (i<4))):=by unfold CJ;rw[show (AB (decide (i<4))).val=zeroVa from rfl,same_v];simp[AB,Ac.par,Ac.oh,sameT_refl]
 refine⟨?_,?_,⟨a,a,by simp[AB,okNs],c,?_,?_,?_,?_⟩,?_⟩
 .by_cases h:i<4<;>simp[AB,h]
 .unfold iR;rw[b]
  by_cases h:i<4<;>simp[AB,h,rf]
 .simp[AB,Ac.par,Ty.size,tysizes]
 .simp[AB,Ac.oh,Ty.size,tysizes]
 .simp[AB,sizes]
 .simp[AB,Ac.val,Va.size,vsizes,tysizes,sizes]
 .intro h2;by_cases h:i<4<;>simp[AB,h]at h2
def new_GL:GL newL 0:=by
 refine⟨λi a=>ada i _ rfl,⟨λi a=>?_,qf0 0,?_⟩⟩
 .unfold newL AB;by_cases h:i<4<;>simp[h]
 .simp[fQ,newL,AB]
