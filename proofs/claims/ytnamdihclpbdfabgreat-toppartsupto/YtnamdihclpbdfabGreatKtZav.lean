import Derived.Test.YtnamdihclpbdfabGreatKtZau
import Derived.Deep.Slices
import Derived.Lib.SmallJoins
import Derived.OpenShut
namespace Go.Proofs.YtnamdihclpbdfabGreat
set_option linter.all false
open Go.Proofs.Tryz
set_option maxRecDepth 100000
set_option maxHeartbeats 4000000
open Pe
def wo (b:Bt):bd:=[.v (.i b.src),.v (.i b.cnt),.v (.i b.eD),.v (.i b.aC),.s 23 (b.ops.map wO)]
def vT (l:List Bt):A1:=.one (.d (.s 5 (l.map wo)))
def ZP (f:FuncId):A1:=.one (.d (.v (.func (.func f) #[] #[])))
def atB (l:List Bt) (j:Nat) (b:Bt):Prop:=Bp 5 5 (l.map wo) j=some (.of (.one (.e (wo b) 0)))
def Cm{l:List Bt}{j:Nat}{b:Bt}(h:l[j]?=some b):atB l j b:=by unfold atB Bp;rw[qa5,h];rfl
def rM (b:Bt):Bt:=if 3000<b.aC then { b with aC:=3000 } else b
def alO:lI:=⟨1,2,7,.nd 2 0 20 ⟨#[]⟩ [],.nd 0 0 0 ⟨#[]⟩ [],.nd 0 0 0 ⟨#[]⟩ [],.nd 0 0 0 ⟨#[]⟩ []⟩
def alB:Bt:=⟨0,1,3,0,[alO]⟩
def zN:bd:=[.v (.i 0),.v (.i 0),.v (.i 0),.v (.string ⟨#[]⟩),.s 0 []]
def alR:bd:=[.v (.i 1),.v (.i 2),.v (.i 7),.v (.i 2),.v (.i 0),.v (.i 20),.v (.string ⟨#[]⟩),.s 0 []]++(zN++(zN++zN))
def alR_le:rowsLe [alR] ([alO].map wO):=by have z:Ja (.s 0 []) (.s 5 []):=.inr ⟨rfl,5,ov,rfl⟩;exact⟨⟨.inl rfl,.inl rfl,.inl rfl,.inl rfl,.inl rfl,.inl rfl,.inl rfl,z,.inl rfl,.inl rfl,.inl rfl,.inl rfl,z,.inl rfl,.inl rfl,.inl rfl,.inl rfl,z,.inl rfl,.inl rfl,.inl rfl,.inl rfl,z,trivial⟩,trivial⟩
def alB_ok:pg alB:=by
 have z:okN (.nd 0 0 0 ⟨#[]⟩ []):=by simp[okN,okNs,bD,maxLen,ByteArray.size]
 refine⟨λo a=>?_,by show (0:Int)<=50000;decide⟩;rw[show alB.ops=[alO] from rfl,qu]at a;subst a;exact⟨z,z,z,by simp[alO,okN,okNs,bD,maxLen,ByteArray.size],by simp[alO,Tr.size,sizes],by simp[alO,Tr.size,sizes]⟩
def al_refu:mf newL 0 alB=0:=by unfold mf;rw[if_pos new_GL.good,if_pos (by simp[p8,alB,newL,AB]),if_pos (by simp[alB,newL,AB]),if_pos (by simp[alB]),if_pos (by simp[alB]),if_neg (by simp[alB,newL,AB])]
def alL1:Lg:=jo newL alB
def al_mov:moveF alL1 0 2 7=(mV alL1 0 2 7,0):=by unfold moveF;rw[if_pos (by simp[ou,alL1,jo,alB,newL,AB]),if_pos (by simp[rf]),if_neg (by simp[alL1,jo,alB,newL,AB])];rfl
def al_parse:∃x,jf (.nd 1 []) alO.arg=some x:=⟨fM 1 0 ⟨#[]⟩ [],by rfl⟩
def al_back:Cr ⟨mV alL1 0 2 7,3,0,0,0,0,0,[]⟩ (.op 0 alO) 2=(⟨mV alL1 0 2 7,3,0,0,0,0,0,[]⟩,[],0):=by
 have⟨x,c⟩:=al_parse;have a:(mV alL1 0 2 7 2).is=1:=by simp[mV,gY,alL1,jo,alB,newL,AB]
 unfold Cr;have b:qO (mV alL1 0 2 7 2) =.nd 1 []:=by unfold qO;rw[if_pos a]
 rw[b];rw[show argF (.op 0 alO) (.nd 1 [])=some x from c];dsimp only;rw[if_pos a]
def al_tran:mW ⟨alL1,3,0,0,0,0,0,[]⟩ (.op 0 alO)=(⟨mV alL1 0 2 7,3,0,0,0,0,0,[]⟩,[],0):=by unfold mW;show (if (moveF alL1 0 2 7).2=0 then Cr ⟨(moveF alL1 0 2 7).1,3,0,0,0,0,0,[]⟩ (.op 0 alO) 2 else _)=_;rw[al_mov,if_pos rfl];exact al_back
def al_done:doneF ⟨alL1,3,0,0,0,0,0,[]⟩ alB.ops=(⟨mV alL1 0 2 7,3,0,0,1,0,0,[]⟩,0):=by
 have a:yS ⟨alL1,3,0,0,0,0,0,[]⟩ (.op 0 alO)=(⟨mV alL1 0 2 7,3,0,0,0,0,0,[]⟩,[],0):=by simp only[yS];rw[if_pos (show alO.kind=1 from rfl)];exact al_tran
 have b:rowF 26 ⟨alL1,3,0,0,0,0,0,[]⟩ [.op 0 alO]=(⟨mV alL1 0 2 7,3,0,0,1,0,0,[]⟩,0):=by simp[rowF,a]
 rw[show alB.ops=[alO] from rfl,doneF];dsimp only;rw[b,if_pos rfl,doneF]
def al_app:bn newL 0 alB=(mV alL1 0 2 7,3,⟨0,1,0,0,[]⟩):=by unfold bn;rw[if_pos al_refu];rw[show (⟨jo newL alB,0+alB.eD,alB.src,alB.aC,0,0,0,[]⟩:Wk)=⟨alL1,3,0,0,0,0,0,[]⟩ from rfl,al_done,if_pos rfl]
def H_alive:Hd ⟨17,[],aQ true⟩:=by
 have l:=H_new;have c:=BV new_GL alB_ok;rw[al_app]at c;dsimp only at c;have f:(mV alL1 0 2 7 2).ji=1000007:=by simp[mV,gY,alL1,jo,alB,newL,AB]
 have hA2:Hd ⟨15,[lC newL 0,.agg [.d (.v (.i 0)),.d (.v (.i 1)),.d (.v (.i 3)),.d (.v (.i 0)),.d (.s 23 [alR])]],.rz [lC (mV alL1 0 2 7) 3,.agg (Me ⟨0,1,0,0,[]⟩)]⟩ :=
  Holds.conv c (λx w u h=>by
   match u,h with
   | [a,b],⟨j,⟨t,e,k⟩,_⟩ =>
    match t,k with
    | [u1,u2,u3,u4,u5],⟨n,o,p,q,r,_⟩=>exact⟨j,⟨_,e,n,o,p,q,adu alR_le r,trivial⟩,trivial⟩) (λ_ _ _ h=>h)
 generalize mV alL1 0 2 7=g at hA2 f;have m:jJ (decide ((g 2).ji=1000007)) true:=eT (zj f);exact runT func17 [(25,bA true)] [⟨_,l⟩,⟨_,hA2⟩] (al m al0)
noncomputable def playF:Nat->List Bt->Lg->Int->Lg×Int
 | 0,_,L,f=>(L,f)
 | _+1,[],L,f=>(L,f)
 | n+1,b::bs,L,f=>playF n bs (bn L f (rM b)).1 (bn L f (rM b)).2.1
def su (l:List Bt):Prop:=∀b∈l,∀o∈b.ops,Ch o
def su.cap{l:List Bt}{b:Bt}(h:su l)(hb:b∈l):pg (rM b):=by
 unfold rM;split
 .exact⟨h b hb,by show (3000:Int)<=50000;decide⟩
 .exact⟨h b hb,od⟩
abbrev snL (S:St) (ex:Nat) (q:St):Prop:=vO prog f57.ntmps ⟨gF f57,S,ex,q⟩
def snX (k n p:Int) (s:bp) (l:aE):St:=[((0,2),.of (.one (.p 2 0))),((0,3),.of (.one (.p 3 0)))]++(oC 2 0 [.d (.v (.i k)),.d (.v (.i n)),.d (.v (.i p)),.d (.v (.string s)),.d (.s 5 (ndsD l))]++oC 3 0 [.d (.v (.i k)),.d (.v (.i n)),.d (.v (.i p)),.d (.v (.string s)),.d (.s 5 (ndsD l))])
def snS (k n p:Int) (s:bp) (l:aE) (j:Nat):St:=[((0,43),lW (ndsD l).length),((0,44),.of (jA j))]++snX k n p s l
def abL{k n p:Int}{s:bp}{l:aE}(q:l.length<=50000000)(H:∀x∈l,Hd ⟨57,[ndA x,ndA x],aQ true⟩):∀(u:aE) (j:Nat),j<=l.length->l.drop j=u->snL (snS k n p s l j) 2 (snX k n p s l)
 | [],j,a,b=>by
  have c:l.length<=j:=by have:=congrArg List.length b;simp at this;omega
  exact xQ (e:=1) [(45,bA false)] [] (al (show mD (aQ (decide (Int.ofNat j<((ndsD l).length:Int)))) (bA false) from wH OR) al0)
 | .nd h i m o g::u,j,a,b=>by have⟨c,d,t⟩:=kX b;have r:=H _ (jz d);have y:=abL (k:=k) (n:=n) (p:=p) (s:=s) q H u (j+1) c t;have v:mD (aQ (decide (Int.ofNat j<((ndsD l).length:Int)))) (bA true):=is_lt OR;have f:=WV d;have w:mD (lW (IntKind.i64.wrap (Int.ofNat j+1))) (jA (j+1)):=yY (zF oe ot ot);exact LG [(45,bA true),(50,.one (.e (ndD (.nd h i m o g)) 0)),(55,.one (.e (ndD (.nd h i m o g)) 0)),(59,jA (j+1))] [⟨_,r⟩] y (al v (al f (al f (al w al0))))
def ady{k n p:Int}{s:bp}{l:aE}(c:l.length<=50000000)(H:∀x∈l,Hd ⟨57,[ndA x,ndA x],aQ true⟩):Hd ⟨57,[ndA (.nd k n p s l),ndA (.nd k n p s l)],aQ true⟩:=by have d:=abL (k:=k) (n:=n) (p:=p) (s:=s) c H l 0 (yb _) rfl;have e:=wI (S:=snS k n p s l 0) (q:=gF f57=gF f57) rfl (ps:=[]) al0;have tk:∀a:Int,jJ (!decide (a=a)) false:=λa=>eT oe;exact Ce func57 [(10,bA false),(16,bA false),(23,bA false),(30,bA false),(39,bA false)] [_] (λx b=>by rw[qu]at b;subst b;exact d) [] (jX (al (tk k) (al (tk n) (al (tk p) (al (show jJ (!(s.toList==s.toList)) false from eT oe) (al (tk ((ndsD l).length:Int)) al0))))) e)
mutual
def H_sn:∀t:Tr,t.size<=50000000->Hd ⟨57,[ndA t,ndA t],aQ true⟩
 | .nd k n p s l,h=>by simp only[Tr.size]at h;exact ady (by have:=cB l;omega) (λx a=>H_sns l od x a)
def H_sns:∀l:aE,sizes l<=50000000->∀x∈l,Hd ⟨57,[ndA x,ndA x],aQ true⟩
 | [],_,_,h=>by cases h
 | t::l,a,x,h=>by
  simp only[sizes]at a
  by_cases e:x=t
  .rw[e];exact H_sn t od
  .exact H_sns l od x (by rcases ke.1 h with h|h;exact absurd h e;exact h)
end
structure rT (A B:Ac):Prop where
 is:A.is=B.is
 pt:A.pt=B.pt
 pa:A.pa=B.pa
 st:A.st=B.st
 sa:A.sa=B.sa
 co:A.co=B.co
structure sQ (A B:Ac):Prop extends rT A B where
 k:A.k=B.k
 n:A.n=B.n
 a:A.a=B.a
 s:A.s=B.s
 az:A.az=B.az
 ty:A.ty=B.ty
 cd:A.cd=B.cd
def sQ.rfl'(A:Ac):sQ A A:=⟨⟨rfl,rfl,rfl,rfl,rfl,rfl⟩,rfl,rfl,rfl,rfl,rfl,rfl,rfl⟩
def Jy{T:Ty}(a:T.size<=50000000):Hd ⟨52,[tyA T,tyA T],aQ true⟩:=by have h:=BR (U:=T) a;rw[sameT_refl]at h;exact h
def Fz{A B:Ac}(h:rT A B)(k:JI A):Hd ⟨39,[UI A,UI B],aQ true⟩:=by have⟨b,l,m,e,c,g,f,a,P,Q,O,R,x,z,y⟩:=A;have⟨F,n,o,H,G,J,I,E,U,V,S,W,C,K,D⟩:=B;have⟨p,q,r,t,u,w⟩:=h;dsimp only at p q r t u w;subst p;subst q;subst r;subst t;subst u;subst w;have L:=Jy (T:=.nd e c) (by have:=k.zp;simp only[Ac.par]at this;omega);have M:=Jy (T:=.nd g f) (by have:=k.zs;simp only[Ac.oh]at this;omega);have N:=H_sn (.nd 0 0 0 ⟨#[]⟩ a) (by have:=k.zc;simp only[Tr.size]at this|-;omega);have j:Hd ⟨57,[.agg [.d (.v (.i 0)),.d (.v (.i 0)),.d (.v (.i 0)),.d (.v (.string ⟨#[]⟩)),.d (.s 5 (ndsD a))],.agg [.d (.v (.i 0)),.d (.v (.i 0)),.d (.v (.i 0)),.d (.v (.string ⟨#[]⟩)),.d (.s 5 (ndsD a))]],aQ true⟩:=N;exact runT func39 [(9,bA true)] [⟨_,L⟩,⟨_,M⟩,⟨_,j⟩] (al (show jJ (decide (b=b)) true from eT oe) al0)
def Nq{A B:Ac}(h:sQ A B)(e:JI A):Hd ⟨27,[UI A,UI B],aQ (decide (A.ji=B.ji)&&decide (A.cnt=B.cnt))⟩:=by
 have f:=Fz h.torT e;have p:=Te (y:=A.val) e.val e.val (by have:=e.zv;omega);rw[same_v]at p;have⟨u,a,b,w,v,z,x,t,N,O,M,P,r,C,s⟩:=A;have⟨G,c,d,I,H,K,J,F,R,S,Q,T,D,L,E⟩:=B;have⟨_,i,j,k,l,m,n,o⟩:=h;dsimp only at i j k l m n o;subst i;subst j;subst k;subst l;subst m;subst n;subst o;dsimp only
 cases g:decide (a=c)with
 | false=>rw[qf3];exact runT func27 [(13,bA false)] [⟨_,f⟩] (al (eT g) al0)
 | true =>
  rw[qa3]
  cases q:decide (b=d)with
  | false=>exact runT func27 [(13,bA true),(20,bA false)] [⟨_,f⟩] (al (eT g) (al (eT q) al0))
  | true=>exact runT func27 [(13,bA true),(20,bA true)] [⟨_,f⟩,⟨_,p⟩] (al (eT g) (al (eT q) al0))
def qj (L L':Lg):Nat->Nat->Bool
 | 0,_=>true
 | d+1,j=>(decide ((L j).ji=(L' j).ji)&&decide ((L j).cnt=(L' j).cnt))&&qj L L' d (j+1)
abbrev slL (S:St) (ex:Nat) (q:St):Prop:=vO prog f16.ntmps ⟨gF f16,S,ex,q⟩
def slX (L L':Lg) (f f':Int):St:=[((0,2),.of (.one (.p 2 0))),((0,3),.of (.one (.p 3 0)))]++(oC 2 0 (Tp L f)++oC 3 0 (Tp L' f'))
def slS (L L':Lg) (f f':Int) (j:Nat):St:=((0,6),.of (jA j))::slX L L' f f'
def abJ{L L':Lg}{f f':Int}(h:∀i,i<12->sQ (L i) (L' i))(g:∀i,i<12->JI (L i)):∀(d j:Nat),j+d=12->(qj L L' d j->slL (slS L L' f f' j) 2 (slX L L' f f'))/\(qj L L' d j=false->slL (slS L L' f f' j) 1 [((0,4),aQ false)])
 | 0,j,e=>by
  obtain rfl:j=12:=od
  exact⟨λ_=>xQ (e:=1) [] [] al0,λh=>by simp[qj]at h⟩
 | d+1,j,e=>by
  have c:=abJ (f:=f) (f':=f') h g d (j+1) od;have a:=Nq (h j od) (g j od);clear h g;simp only[qj]
  cases b:(decide ((L j).ji=(L' j).ji)&&decide ((L j).cnt=(L' j).cnt))with
  | false =>
   rw[b]at a;refine⟨λh=>by simp at h,λ_=>?_⟩;clear c b;rcases bM (show j<12 by omega)with rfl|rfl|rfl|rfl|rfl|rfl|rfl|rfl|rfl|rfl|rfl|rfl
   all_goals exact xQ (e:=0) [] [⟨_,a⟩] al0
  | true =>
   rw[b]at a;rw[qa3];have F:∀{ex:Nat} {q:St},slL (slS L L' f f' (j+1)) ex q->slL (slS L L' f f' j) ex q:=λh=>by
    clear c b;rcases bM (show j<12 by omega)with rfl|rfl|rfl|rfl|rfl|rfl|rfl|rfl|rfl|rfl|rfl|rfl
    all_goals exact LG [] [⟨_,a⟩] h al0
   exact⟨λh=>F (c.1 h),λh=>F (c.2 h)⟩
def uY{L L':Lg}{f f':Int}(h:∀i,i<12->sQ (L i) (L' i))(j:∀i,i<12->JI (L i)):Hd ⟨16,[lC L f,lC L' f'],aQ (qj L L' 12 0&&decide (f=f'))⟩:=by
 have⟨d,g⟩:=abJ (f:=f) (f':=f') h j 12 0 rfl;have c:=wI (S:=slS L L' f f' 0) (q:=gF f16=gF f16) rfl (ps:=[]) al0
 cases b:qj L L' 12 0 with
 | false=>rw[qf3];exact Ce func16 [] [_] (λx a=>by rw[qu]at a;subst a;exact g b) [] c
 | true =>
  rw[qa3]
  cases e:decide (f=f')with
  | false=>exact Ce func16 [(24,bA false)] [_] (λx a=>by rw[qu]at a;subst a;exact d b) [] (jX c (al (eT e) al0))
  | true=>exact Ce func16 [(24,bA true)] [_] (λx a=>by rw[qu]at a;subst a;exact d b) [] (jX c (al (eT e) al0))
def wS(L:Lg):∀d j,qj L L d j
 | 0,_=>rfl
 | d+1,j=>by simp[qj,wS L d (j+1)]
def Kp (L L':Lg):Prop:=∀i,i<12->(L' i).cnt=(L i).cnt/\((L i).is≠0->rT (L i) (L' i))
def rT.refl(A:Ac):rT A A:=⟨rfl,rfl,rfl,rfl,rfl,rfl⟩
def rT.trans{A B C:Ac}(h:rT A B)(k:rT B C):rT A C:=⟨h.is.trans k.is,h.pt.trans k.pt,h.pa.trans k.pa,h.st.trans k.st,h.sa.trans k.sa,h.co.trans k.co⟩
def Kp.refl(L:Lg):Kp L L:=λi _=>⟨rfl,λ_=>.refl _⟩
def Kp.trans{L M N:Lg}(h:Kp L M)(k:Kp M N):Kp L N:=λi a=>⟨(k i a).1.trans (h i a).1,λb=>by have c:=(h i a).2 b;exact c.trans ((k i a).2 (by rw[<-c.is];exact b))⟩
def XO{L:Lg}{i:Nat}{v:Int} : Kp L (gY L i v):=λk _=>by
 unfold gY;split
 .rename_i e;subst e;exact⟨rfl,λ_=>⟨rfl,rfl,rfl,rfl,rfl,rfl⟩⟩
 .exact⟨rfl,λ_=>.refl _⟩
def BA{L:Lg}{fr dn n:Int} : Kp L (moveF L fr dn n).1:=by
 unfold moveF;split
 .split
  .split
   .exact .refl L
   .exact XO.trans XO
  .exact .refl L
 .exact .refl L
def acp{L:Lg}{i:Nat}{s:Va} : Kp L (NY L i s):=λk _=>by
 unfold NY;split
 .rename_i e;subst e;exact⟨rfl,λ_=>⟨rfl,rfl,rfl,rfl,rfl,rfl⟩⟩
 .exact⟨rfl,λ_=>.refl _⟩
def GA.cnt{i:Nat}{A:Ac}(h:GA i A):0<=A.cnt/\A.cnt<=1152921504606846976/\(A.is≠1->A.cnt=0):=by
 have a:=h.whole;rcases Eh a with h0|b|c
 .unfold iR at a;rw[if_pos h0,qv,qv,jt,jt]at a;rw[a.1.2];exact⟨ov,ov,λ_=>rfl⟩
 .unfold iR at a;rw[oa,if_pos b,qv]at a;have:=a.1;simp only[rf,jt]at this;exact⟨this.1,this.2,λh=>absurd b h⟩
 .unfold iR at a;rw[oa,oa,if_pos c,qv,jt]at a;rw[a.1];exact⟨ov,ov,λ_=>rfl⟩
def aco{L:Lg}{f:Int}{i:Nat}{A:Ac}(h:GL L f)(hi:i<12)(a:(L i).is=0)(hc:A.cnt=0):Kp L (vU L i A):=λk b=>by
 unfold vU;split
 .rename_i e;subst e;exact⟨by rw[hc];exact ((h.ac k b).cnt.2.2 od).symm,λh=>absurd a h⟩
 .exact⟨rfl,λ_=>.refl _⟩
def aaH{W:Wk}{i:Nat}{en:En}{x:Va} : Kp W.L (pK W i en x).1.L:=by
 unfold pK Kk
 repeat' split
 all_goals first|exact .refl _|exact acp
def PR{W:Wk}{r:Rq} : Kp W.L (mW W r).1.L:=by
 unfold mW;split
 .unfold Cr;split
  .exact BA
  .split
   .exact BA
   .exact BA.trans (aaH (W:={ W with L:=(moveF W.L r.fr r.dst r.lG).1 }))
 .exact .refl _
def R8{o:lI}{A:Ac}(h:ku o =.ok A):A.cnt=0:=by
 unfold ku at h;split at h
 .split at h
  .split at h
   .split at h
    .split at h<;>cases h;rfl
    .cases h
   .cases h
  .cases h
 .cases h
def SF{L:Lg} : ib L 12 0<=12:=by
 have : ∀n j,j+n=12->ib L n j<=12:=λn=>by
  induction n with
  | zero=>intro j h;simp only[ib];omega
  | succ n a=>intro j h;simp only[ib];split;omega;exact a (j+1) od
 exact this 12 0 rfl
def aaI{W:Wk}{o:lI}(hW:WI W):Kp W.L (wy W o).1.L:=by
 unfold wy
 cases c:ku o with
 | error e=>exact .refl _
 | ok A =>
  dsimp only;split
  .exact .refl _
  .rename_i b;have d:=SF (L:=W.L);have h0:=Im 12 0 rfl (show ib W.L 12 0<12 by omega);have a:=aco hW.gl (show ib W.L 12 0<12 by omega) h0 (R8 c);unfold aaJ;split
   .exact a.trans BA
   .exact a
def acY{W:Wk}{r:Rq}(hW:WI W):Kp W.L (yS W r).1.L:=by
 cases r with
 | told f v=>exact PR
 | op f o =>
  simp only[yS];split
  .exact PR
  .split
   .exact aaI hW
   .exact .refl _
def kp_row:∀(N:Nat) (W:Wk) (rs:List Rq),PW W rs->Kp W.L (rowF N W rs).1.L
 | 0,W,rs,_=>.refl _
 | N+1,W,[],_=>.refl _
 | N+1,W,r::rs,c=>by
  have d:=@Way.next _ way W r rs c
  have b:=acY (r:=r) c.1.toWI;simp only[rowF];split
  .exact .refl _
  .rename_i a;split
   .rename_i e;exact b.trans (kp_row N _ _ (d a e))
   .exact b
def kp_all:∀(os:List lI) (W:Wk),QW W os->Kp W.L (doneF W os).1.L
 | [],W,_=>.refl _
 | o::os,W,a=>by
  have e:PW W [.op W.src o]:=⟨a.1,λr c=>by rw[qu]at c;subst c;exact a.2 o oe⟩;have b:=kp_row 26 W _ e;simp only[doneF];split
  .rename_i d;exact b.trans (kp_all os _ (wayC.next a d))
  .exact b
def JJ{L:Lg}{f:Int}{b:Bt}(h:GL L f)(hb:pg b):∀i,i<12->((L i).is≠0->rT (L i) ((bn L f b).1 i))/\(((bn L f b).1 i).cnt=(L i).cnt\/b.src=Int.ofNat i/\((bn L f b).1 i).cnt=(L i).cnt+1/\((bn L f b).1 i).cnt=b.cnt):=λi k=>by
 unfold bn;split
 .rename_i c;have⟨g1,g2,j,l,m,n⟩:=kM c;have o:=h.Br c;have g:=kp_all b.ops _ (qF h hb c) i k;have a:((L i).is≠0->rT (L i) (jo L b i))/\((jo L b i).cnt=(L i).cnt\/b.src=Int.ofNat i/\(jo L b i).cnt=(L i).cnt+1/\(jo L b i).cnt=b.cnt):=by
   unfold jo;split
   .rename_i e;subst e;exact⟨λ_=>⟨rfl,rfl,rfl,rfl,rfl,rfl⟩,.inr ⟨ot,j.1,rfl⟩⟩
   .exact⟨λ_=>.refl _,.inl rfl⟩
  split
  .dsimp only;refine⟨λc=>?_,?_⟩
   .have d:=a.1 c;exact d.trans (g.2 (by dsimp only;rw[<-d.is];exact c))
   .have d:=g.1;dsimp only at d;rw[d];exact a.2
  .exact a
 .exact⟨λ_=>.refl _,.inl rfl⟩
open Go.ChangeShapes Go.WideShapes Go.ChangeAt Go.RowKit
def cells24:prog.cellsOf 51=5:=oA
def cells3:prog.cellsOf 3=1:=oA
def cells9:prog.cellsOf 9=1:=oA
def cells22:prog.cellsOf 27=1:=oA
def l9{n:Int}(h:(Lit.int .i64 n).wf):bD n:=by simpa[Lit.wf,IntKind.min,IntKind.max,IntKind.signed,IntKind.bits,bD]using h
def uM{H:Type}(T:Nat->Tr)(D:Nat->DataW H):∀(n:Nat),(∀i,i<n->(T i).size<=Rows.uptoBulk (D i))->sizes ((List.range n).map T)<=Rows.uptoBulkAll ((List.range n).map D)
 | 0,_=>by simp[sizes,Rows.uptoBulkAll]
 | n+1,h=>by
  have d:=uM T D n (λi b=>h i od);have c:=h n od;have e:∀(l:List (DataW H)) (x:DataW H),Rows.uptoBulkAll (l++[x])=Rows.uptoBulkAll l+Rows.uptoBulk x:=by
   intro l x
   induction l with
   | nil=>simp[Rows.uptoBulkAll]
   | cons y l a=>simp[Rows.uptoBulkAll,a];omega
  rw[List.range_succ,ux,ux,sK,List.map_singleton,List.map_singleton,e];simp only[sizes];omega
def Dg{H:Type}(D:Nat->DataW H)(n i:Nat)(h:i<n):Rows.uptoBulk (D i)<=Rows.uptoBulkAll ((List.range n).map D):=by
 induction n with
 | zero=>omega
 | succ n c =>
  have e:∀(l:List (DataW H)) (x:DataW H),Rows.uptoBulkAll (l++[x])=Rows.uptoBulkAll l+Rows.uptoBulk x:=by
   intro l x
   induction l with
   | nil=>simp[Rows.uptoBulkAll]
   | cons y l a=>simp[Rows.uptoBulkAll,a];omega
  rw[List.range_succ,ux,List.map_singleton,e]
  by_cases b:i=n
  .subst b;omega
  .have:=c od;omega
def JN{ok:br}{w:cg}{k n p:Int}{s:bp}(c:s.size<=maxLen)(hk:bD k)(hn:bD n)(b:bD p):bI ok w (.nd k n p s []) (af k n p s none 0 0) :=
 bI.mk (hk:=yb _) (args:=[]) (λ_=>.i 0) oe c hk hn b (λi a=>by simp at a) (λi a=>by simp at a)
def D6{H:Type}{enc:TypeId×cm->H}{W:cg}(N:Nat):∀(j:Nat) (cs:bo) (d:DataW H) (ps:List MemPlace),Rows.uptoBulk d<=N->DataW.trod enc prog W 0 (λ_=>true) true j 51 cs=some (d,ps) ->
 ∃k n p s a l c t,cs=[.i k,.i n,.i p,.string s,.slice a l c]/\bI (λ_=>True) W t (af k n p s a l c)/\t.size<=Rows.uptoBulk d:=by
 haveI:Inhabited Tr:=⟨.nd 0 0 0 ⟨#[]⟩ []⟩
 induction N with
 | zero =>
  intro j cs d ps J h;have⟨xs,n,_,G,_⟩:=DataW.trod_struct underlying51 h;simp only[js]at G;rw[G.1]at J;simp[Rows.uptoBulk]at J
 | succ N ih =>
  intro j cs d ps J h;have⟨xs,f,_,G,v,P,E⟩:=DataW.trod_struct underlying51 h;rw[cells24]at v
  match xs,P,cs,v with
  | [y0,y1,y2,y3,y4],_,[v0,v1,v2,v3,v4],_ =>
   have U:=E 0 _ rfl;have g1:=E 1 _ rfl;have g2:=E 2 _ rfl;have V:=E 3 _ rfl;have X:=E 4 _ rfl;simp[cells3,cells9,cells22]at U g1 g2 V X;have⟨k,Q,x0,Y⟩:=jc2 underlying3 U;have⟨n,R,x1,Z⟩:=jc2 underlying3 g1;have⟨p,S,x2,i2⟩:=jc2 underlying3 g2;have⟨s,T,x3,i3⟩:=DataW.trod_string underlying9 V;simp only[qb6,and_true]at Q R S T;subst Q;subst R;subst S;subst T;subst x0;subst x1;subst x2;subst x3;simp only[js]at G;obtain⟨rfl,_⟩:=G;rcases Go.Deep.open_slice underlying27 X with⟨z,x4⟩|⟨a,len,aa,m,nf,D,Pl,z,_,hl,hm,F,x4,C⟩
   .simp only[qb6,and_true]at z;subst z;refine⟨k,n,p,s,none,0,0,.nd k n p s [],rfl,JN i3 (l9 Y) (l9 Z) (l9 i2),?_⟩;simp[Tr.size,sizes,Rows.uptoBulk]
   .simp only[qb6,and_true]at z;subst z;subst x4;simp only[if_true]at F;subst F;rw[cells24]at C;simp only[qb2,qg6,Rows.uptoBulk,Rows.uptoBulkAll]at J|-;have M:∀i,i<len->Rows.uptoBulk (D i)<=N:=λi r=>by have:=Dg D len i r;omega
    have⟨q,K⟩:=Go.Deep.choose_lt (α:=Tr×cm) (n:=len) (p:=λi x=>bI (λ_=>True) W x.1 x.2/\x.1.size<=Rows.uptoBulk (D i) /\
     ∃k n p s y l c,x.2=af k n p s y l c/\W.cells? 0 (a.add (i*5)) 5=some [.i k,.i n,.i p,.string s,.slice y l c]) (λi r=>by
     have⟨L,h1,h2⟩:=C i od;obtain⟨k,n,p,s,y,l,c,t,rfl,I,hs⟩:=ih nf L (D i) (Pl i) (M i r) h2;exact⟨(t,af k n p s y l c),I,hs,k,n,p,s,y,l,c,rfl,h1⟩)
    have g:((List.range len).map λi=>(q i).1).length=len:=oe
    have I:=bI.mk (hk:=by rw[g];omega) (ok:=λ_=>True) (w:=W) (k:=k) (n:=n) (p:=p) (s:=s) (args:=(List.range len).map λi=>(q i).1) (a:=some a) (c:=m) (λi=>(q i).2) (by rw[g];omega) i3 (l9 Y) (l9 Z) (l9 i2)
     (λi r=>by
      rw[g]at r;have⟨_,_,k',n',p',s',y,l',c',hv,O⟩:=K i r;have⟨_,_,e⟩:=World.cells?_some O;have⟨b,o,sp⟩:=a;have h0:sp=none:=by have⟨_,_,k0,n0,p0,s0,a0,l0,c0,_,B⟩:=K 0 od;have⟨_,_,u⟩:=World.cells?_some B;have:=u 0 od;simp[Addr.add]at this;exact World.cell?_spot this
      subst h0;have A:∀x,(⟨b,o,none⟩:Addr).add x=⟨b,o+x,none⟩:=λx=>ZS
      rw[A]at e;refine⟨b,o,rfl,trivial,k',n',p',s',y,l',c',hv,?_,?_,?_,?_,?_⟩
      .have:=e 0 od;simpa[Addr.add]using this
      .have:=e 1 od;simpa[Addr.add]using this
      .have:=e 2 od;simpa[Addr.add]using this
      .have:=e 3 od;simpa[Addr.add]using this
      .have:=e 4 od;simpa[Addr.add]using this)
     (λi r=>by rw[g]at r;simpa using (K i r).1)
    rw[g]at I;refine⟨k,n,p,s,some a,len,m,_,rfl,I,?_⟩;have ab:=uM (λi=>(q i).1) D len (λi r=>(K i r).2.1);rw[Tr.size];omega
open Pe (fI gm dU jm D)
def cells_op:prog.cellsOf 54=23:=oA
def cells_batch:prog.cellsOf 39=5:=oA
def cells_two:prog.cellsOf 52=10:=oA
def cells_ops:prog.cellsOf 37=1:=oA
def DF{α:Type}{R:α->cm->Prop} : ∀{xs:List α}{us:bo},dU R xs us->∀(j:Nat) (x:α),xs[j]?=some x->∃u,us[j]?=some u/\R x u
 | x::xs,u::us,⟨a,b⟩,0,y,e=>by simp only[km,qq]at e;subst e;exact⟨u,rfl,a⟩
 | x::xs,u::us,⟨a,b⟩,j+1,y,e=>by simpa using DF b j y (by simpa using e)
def uj{α:Type}{R:α->cm->Prop} : ∀{a:List α}{x:bo}{b:List α}{y:bo},dU R a x->dU R b y->dU R (a++b) (x++y)
 | [],[],_,_,_,h=>h
 | _::_,_::_,_,_,⟨c,d⟩,h=>⟨c,uj d h⟩
section
variable {H:Type}{enc:TypeId×cm->H}{W:cg}
def yO{b:Nat}{cs:bo}{d:DataW H}{ps:List MemPlace}(h:DataW.trod enc prog W 0 (λ_=>true) true b 51 cs=some (d,ps)):∃t,okN t/\dU (fI (λ_=>True) W) (ndD t) cs/\t.size<=Rows.uptoBulk d:=by
 obtain⟨k,n,p,s,a,l,c,t,rfl,q,r⟩:=D6 _ b cs d ps (jn _) h;have⟨hk,f⟩:=LH q;refine⟨t,hk,?_,r⟩;have⟨tk,w,x,y,v⟩:=t;have⟨u,e,f⟩:=f
 match u,f with
 | [u1,u2,u3,u4,u5],⟨g,i,j,m,o,_⟩ =>
  simp only[af,ja4,jc3,qb6,and_true]at e;obtain⟨rfl,rfl,rfl,rfl,rfl⟩:=e;exact⟨g,i,j,m,o,trivial⟩
def GJ{α:Type}[Inhabited α]{T E:TypeId}{n B:Nat}{f:α->List D}{P:α->Prop}(hT:prog.underlying T=some (.slice E))(hE:prog.cellsOf E=n)(hn:0<n)(hf:∀x,(f x).length=n)
 (conv:∀(k:Nat) (cs:List Value) (d:DataW H) (ps:List MemPlace),Rows.uptoBulk d<=B->DataW.trod enc prog W 0 (λ_=>true) true k E cs=some (d,ps)->∃x,P x/\dU (fI (λ_=>True) W) (f x) cs)
 {k:Nat} {v:Value} {d:DataW H} {ps:List MemPlace} (hd:Rows.uptoBulk d<=B) (h:DataW.trod enc prog W 0 (λ_=>true) true k T [v]=some (d,ps)):∃l:List α,(∀x∈l,P x)/\fI (λ_=>True) W (.s n (l.map f)) v:=by
 rcases Go.Deep.open_slice hT h with⟨J,x4⟩|⟨aa,len,ad,m,nf,D,Pl,J,_,hl,hm,O,x4,N⟩
 .simp only[qb6,and_true]at J;subst J;exact⟨[],oe,fI.s (es:=[]) (a:=none) (c:=0) (λ_ _=>Value.i 0) (jn _) (yb _) oe oe oe (λe=>od)⟩
 .simp only[qb6,and_true]at J;subst J;simp only[js]at x4;obtain⟨rfl,_⟩:=x4;simp only[if_true]at O;subst O;rw[hE]at N;simp only[Rows.uptoBulk]at hd;obtain⟨q,U⟩:=Go.Deep.choose_lt (α:=α×List Value) (n:=len) (p:=λi x=>P x.1/\dU (fI (λ_=>True) W) (f x.1) x.2/\W.cells? 0 (aa.add (i*n)) n=some x.2) (λi b=>by
   obtain⟨I,h1,h2⟩:=N i od;obtain⟨x,Z,Q⟩:=conv nf I (D i) (Pl i) (by have:=Dg D len i b;omega) h2
   exact⟨(x,I),Z,Q,h1⟩)
  have ab:((List.range len).map λi=>(q i).1).length=len:=oe
  have C:(((List.range len).map λi=>(q i).1).map f).length=len:=oe
  refine⟨(List.range len).map λi=>(q i).1,λx Z=>?_,?_⟩
  .obtain⟨i,b,rfl⟩:=kl.1 Z;exact (U i (List.mem_range.1 b)).1
  .have z:∀(i:Nat) (r:List Pe.D),(((List.range len).map λi=>(q i).1).map f)[i]?=some r->i<len/\r=f (q i).1:=λi r b=>by
    have g:i<len:=by have:=(qS.1 b).1;simpa using this
    refine⟨g,?_⟩;rw[qa5,qa5,List.getElem?_range g]at b;simpa using b.symm
   obtain⟨F,G,sp⟩:=aa;have X:0<len->sp=none:=λh0=>by obtain⟨_,_,M⟩:=U 0 h0;obtain⟨_,ae,o⟩:=World.cells?_some M;have:=o 0 hn;rw[qt od]at this;simp[Addr.add]at this;exact World.cell?_spot this
   have hs:=fI.s (ok:=λ_=>True) (w:=W) (n:=n) (es:=((List.range len).map λi=>(q i).1).map f) (a:=some ⟨F,G,sp⟩) (c:=m) (λi j=>((q i).2[j]?).getD (Value.i 0)) (by rw[C];exact hl) (by rw[C];omega) (λi r b=>by rw[(z i r b).2];exact hf _) (λi r j x b S=>?_) (λi r j x b S=>?_) (λe=>od)
   .rw[C]at hs;exact hs
   .obtain⟨g,rfl⟩:=z i r b;obtain⟨_,Q,L⟩:=U i g;obtain⟨u,Y,R⟩:=DF Q j x S;obtain⟨_,_,A⟩:=World.cells?_some L;have V:j<n:=by have:=(qS.1 S).1;rw[hf]at this;exact this
    obtain rfl:=X od;refine⟨F,G,rfl,trivial,?_⟩;have K:∀x,(⟨F,G,none⟩:Addr).add x=⟨F,G+x,none⟩:=λx=>ZS
    have t:∀x y,(⟨F,G+x,none⟩:Addr).add y=⟨F,G+(x+y),none⟩:=λx y=>by rw[<-qg2];unfold Addr.add;split<;>simp_all
    have:=A j V;rw[K,t]at this;rw[this,Y];rfl
   .obtain⟨g,rfl⟩:=z i r b;obtain⟨_,Q,L⟩:=U i g;obtain⟨u,Y,R⟩:=DF Q j x S;rw[Y];exact R
instance:Inhabited lI:=⟨alO⟩
instance:Inhabited Bt:=⟨alB⟩
def acH(e:Nat)(cs:bo)(d:DataW H)(ps:List MemPlace)(w:Rows.uptoBulk d<=2000000)(h:DataW.trod enc prog W 0 (λ_=>true) true e 54 cs=some (d,ps)):∃o,Ch o/\dU (fI (λ_=>True) W) (wO o) cs:=by
 have⟨Q,f,_,z,b,g,c⟩:=DataW.trod_struct underlying54 h;rw[cells_op]at b
 match Q,g,cs,b with
 | [(d0,p0),(d1,p1),(d2,p2),(d3,p3),(d4,p4),(d5,p5)],_,[v0,v1,v2,v3,v4,v5,v6,v7,v8,v9,v10,v11,v12,v13,v14,v15,v16,v17,v18,v19,v20,v21,v22],_ =>
  have r:=c 0 _ rfl;have g1:=c 1 _ rfl;have g2:=c 2 _ rfl;have s:=c 3 _ rfl;have t:=c 4 _ rfl;have u:=c 5 _ rfl;simp[cells3,cells24,cells_two]at r g1 g2 s t u;have⟨k,l,x0,U⟩:=jc2 underlying3 r;have⟨n,p,x1,V⟩:=jc2 underlying3 g1;have⟨a,q,x2,X⟩:=jc2 underlying3 g2;have⟨B,F,K,s3⟩:=yO s;have⟨C,G,L,s5⟩:=yO u;have⟨R,m,_,A,_,j,y⟩:=DataW.trod_array underlying52 t
  match R,j with
  | [(S,Y),(T,Z)],_ =>
   have D:=y 0 ov;have E:=y 1 ov;simp[cells24]at D E;have⟨O,I,M,s6⟩:=yO D;have⟨P,J,N,s7⟩:=yO E;simp only[js]at z A;rw[z.1]at w;simp only[qb2,qg6,Rows.uptoBulk,Rows.uptoBulkAll,A.1]at w;simp only[qb6,and_true]at l p q;subst l;subst p;subst q;refine⟨⟨k,n,a,B,O,P,C⟩,⟨I,J,G,F,by show C.size<=3000000;omega,by show B.size<=4611686018427387903;omega⟩,?_⟩;exact uj (x:=[.i k,.i n,.i a]) ⟨.v _,.v _,.v _,trivial⟩ (uj K (uj M (uj N L)))
def Ug(e:Nat)(cs:bo)(d:DataW H)(ps:List MemPlace)(t:Rows.uptoBulk d<=2000000)(h:DataW.trod enc prog W 0 (λ_=>true) true e 39 cs=some (d,ps)):∃b:Bt,(∀o∈b.ops,Ch o)/\dU (fI (λ_=>True) W) (wo b) cs:=by
 have⟨B,f,_,u,a,i,g⟩:=DataW.trod_struct underlying39 h;rw[cells_batch]at a
 match B,i,cs,a with
 | [(C,M),(D,N),(F,p2),(G,O),(x,Q)],_,[R,S,U,V,X],_ =>
  have p:=g 0 _ rfl;have g1:=g 1 _ rfl;have g2:=g 2 _ rfl;have q:=g 3 _ rfl;have r:=g 4 _ rfl;simp[cells3,cells_ops]at p g1 g2 q r;have⟨s,j,Y,I⟩:=jc2 underlying3 p;have⟨c,k,Z,J⟩:=jc2 underlying3 g1;have⟨y,m,x2,K⟩:=jc2 underlying3 g2;have⟨w,n,x3,L⟩:=jc2 underlying3 q;simp only[js]at u;rw[u.1]at t;simp only[qb2,qg6,Rows.uptoBulk,Rows.uptoBulkAll]at t;have⟨l,z,A⟩:=GJ (T:=37) (E:=54) (P:=Ch) (f:=wO) underlying37 cells_op ov aaL acH (show Rows.uptoBulk x<=2000000 by omega) r;simp only[qb6,and_true]at j k m n;subst j;subst k;subst m;subst n;exact⟨⟨s,c,y,w,l⟩,z,.v _,.v _,.v _,.v _,A,trivial⟩
def aap(b:Bt):(wo b).length=5:=rfl
def nS{r:Reach}{i:Nat}{v:cm}{d:DataW H}{p:List MemPlace}(k:Rows.uptoBulk d<=2000000)(h:DataW.Trod enc prog W 0 (λ_=>true) true 22 v d p)(q:Value.okWide prog W r i 22 v) :
 ∃bs:List Bt,su bs/\gm (λ_=>none) (λ_=>True) W (vT bs) v:=by
 obtain⟨a,l,c,rfl⟩:=okWide_slice underlying22 q;have⟨e,m⟩:=h;have g:DataW.trod enc prog W 0 (λ_=>true) true e 22 [.slice a l c]=some (d,p):=m;have⟨bs,j,n⟩:=GJ (T:=22) (E:=39) (P:=λb:Bt=>∀o∈b.ops,Ch o) (f:=wo) underlying22 cells_batch ov aap Ug k g;exact⟨bs,j,n⟩
end
