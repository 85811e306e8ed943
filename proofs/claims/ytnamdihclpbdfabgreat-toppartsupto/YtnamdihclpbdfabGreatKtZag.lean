import Derived.Test.YtnamdihclpbdfabGreatKtZaf
namespace Go.Proofs.YtnamdihclpbdfabGreat
set_option linter.all false
open Go.Proofs.Tryz
set_option maxRecDepth 100000
set_option maxHeartbeats 4000000
open Pe
def aba(n:Int):Hd ⟨68,[iA n],aQ (kE n)⟩:=by
 by_cases h:-1152921504606846976<=n
 .rw[show kE n=decide (n<=1152921504606846976) by simp[kE,h]];exact runT func68 [(4,bA true)] [] (al (is_le h) al0)
 .rw[show kE n=false by simp[kE,h]];exact runT func68 [(4,bA false)] [] (al (QA h) al0)
def U6(n:Int):Hd ⟨69,[iA n],aQ (gN n)⟩:=by
 by_cases h:0<=n
 .rw[show gN n=kE n by simp only[gN,kE,qh7];omega];exact runT func69 [(4,bA true)] [⟨_,aba n⟩] (al (is_le h) al0)
 .rw[show gN n=false by simp[gN,h]];exact runT func69 [(4,bA false)] [] (al (QA h) al0)
def Y0(n:Int):Hd ⟨45,[iA n],aQ (lY n)⟩:=by
 by_cases h:0<=n
 .rw[show lY n=decide (n<12) by simp[lY,h]];exact runT func45 [(4,bA true)] [] (al (is_le h) al0)
 .rw[show lY n=false by simp[lY,h]];exact runT func45 [(4,bA false)] [] (al (QA h) al0)
def WG(n:Int):Hd ⟨44,[iA n],aQ (decide (n=8\/n=15))⟩:=by
 by_cases h:n=8
 .subst h;exact aF func44 []
 .rw[show decide (n=8\/n=15)=decide (n=15) by simp[h]];exact runT func44 [(4,bA false)] [] (al (show nq n 8 from oL h) al0)
def SL(t n:Int):Hd ⟨43,[iA t,iA n],aQ (bQ t n)⟩:=by
 have d:=aba n;have a:=U6 n;have e:=Y0 n
 by_cases c:t=2\/t=12\/t=3\/t=4\/t=5\/t=8\/t=15\/t=7
 .by_cases b:t=2\/t=12
  .rw[show bQ t n=decide (n=0\/n=1) from if_pos b]
   by_cases h:n=0
   .subst h;rcases b with rfl|rfl<;>exact aF func43 []
   .rw[show decide (n=0\/n=1)=decide (n=1) by simp[h]];rcases b with rfl|rfl<;>exact runT func43 [(10,bA false)] [] (al (show nq n 0 from oL h) al0)
  .rcases c with rfl|rfl|rfl|rfl|rfl|rfl|rfl|rfl
   .omega
   .omega
   .exact aF func43 [⟨_,d⟩]
   .exact aF func43 [⟨_,a⟩]
   .exact aF func43 [⟨_,a⟩]
   .exact aF func43 [⟨_,a⟩]
   .rw[show bQ 15 n=(gN n && !decide (n=0)) by rw[aaA];simp];cases f:gN n<;>rw[f]at a<;>exact aF func43 [⟨_,a⟩]
   .exact aF func43 [⟨_,e⟩]
 .rw[show bQ t n=decide (n=0) by unfold bQ;rw[oa,oa,oa,oa,oa]];exact runT func43 [(7,bA false),(8,bA false),(16,bA false),(20,bA false),(21,bA false),(22,bA false),(26,bA false),(34,bA false)] [] (al (show nq t 2 from oL od) (al (show nq t 12 from oL od) (al (show nq t 3 from oL od) (al (show nq t 4 from oL od) (al (show nq t 5 from oL od) (al (show nq t 8 from oL od) (al (show nq t 15 from oL od) (al (show nq t 7 from oL od) al0))))))))
abbrev eqN (S:St) (ex:Nat) (q:St):Prop:=vO prog f61.ntmps ⟨gF f61,S,ex,q⟩
def XI (x y:aw) (j:Nat):St:=[((0,1),.of (dZ y)),((0,2),.of (.one (Ey 52))),((0,15),.of (dZ x)),((0,16),lW (tysD x).length),((0,17),.of (jA j))]
def XJ{x y:aw}(A:tysizes x<=50000000)(w:x.length=y.length):∀(l m:aw) (j:Nat),x.drop j=l->y.drop j=m->(sameTs l m->eqN (XI x y j) 2 [])/\(sameTs l m=false->eqN (XI x y j) 1 [((0,6),aQ false)])
 | [],m,j,c,hm=>by
  have f:x.length<=j:=by have:=congrArg List.length c;simp at this;omega
  have h0:m=[]:=by rw[<-hm];exact qb7 od
  subst h0;exact⟨λ_=>xQ (e:=1) [(18,bA false)] [] (al (show mD (aQ (decide (Int.ofNat j<((tysD x).length:Int)))) (bA false) from wH Ok) al0),λh=>by simp[sameTs]at h⟩
 | T::l,[],j,c,hm=>by have p:=congrArg List.length c;have r:=congrArg List.length hm;simp at p r;omega
 | .nd t a::l,.nd u b::m,j,c,hm=>by
  have f:j<x.length:=qa4 λh=>by rw[qb7 od]at c;cases c
  have i:x[j]?=some (.nd t a):=by rw[kB f]at c;rw[qt f];exact congrArg some (qe2 c).1
  have s:y[j]?=some (.nd u b):=by rw[kB od]at hm;rw[qt od];exact congrArg some (qe2 hm).1
  have v:x.drop (j+1)=l:=by rw[kB f]at c;exact (qe2 c).2
  have g:y.drop (j+1)=m:=by rw[kB od]at hm;exact (qe2 hm).2
  have z:=len_le x;have hF:=BR (T:=.nd t a) (U:=.nd u b) (by have:=jS (jz i);omega);have n:mD (aQ (decide (Int.ofNat j<((tysD x).length:Int)))) (bA true):=is_lt Ok;have o:=EK i;have d:=EK s;have B:mD (lW (IntKind.i64.wrap (Int.ofNat j+1))) (jA (j+1)):=yY (zF oe ot ot);have e:sameTs (.nd t a::l) (.nd u b::m)=(sameT (.nd t a) (.nd u b)&&sameTs l m):=by simp[sameTs]
  rw[e]
  cases k:sameT (.nd t a) (.nd u b)with
  | false =>
   rw[k]at hF;exact⟨λh=>by simp at h,λ_=>xQ (e:=0) [(18,bA true),(20,.one (.e (tyD (.nd t a)) 0)),(24,.one (.e (tyD (.nd u b)) 0))] [⟨_,hF⟩] (al n (al o (al d al0)))⟩
  | true =>
   rw[k]at hF;have⟨g1,g2⟩:=XJ A w l m (j+1) v g;have F:=λ{ex:Nat} {q:St} (h:eqN (XI x y (j+1)) ex q)=>(LG [(18,bA true),(20,.one (.e (tyD (.nd t a)) 0)),(24,.one (.e (tyD (.nd u b)) 0)),(31,jA (j+1))] [⟨_,hF⟩] h (al n (al o (al d (al B al0)))):eqN (XI x y j) ex q);rw[qa3];exact⟨λh=>F (g1 h),λh=>F (g2 h)⟩
def YZ{x y:aw}(g:tysizes x<=50000000):Hd ⟨61,[dZ x,dZ y,.one (Ey 52)],aQ (sameTs x y)⟩:=by
 by_cases b:x.length=y.length
 .have⟨e,f⟩:=XJ g b x y 0 rfl rfl;have i:jJ (!decide (((tysD x).length:Int)=((tysD y).length:Int))) false:=eT (by simp[eY,b]);have d:=wI (S:=XI x y 0) (q:=gF f61=gF f61) rfl (ps:=[jJ (!decide (((tysD x).length:Int)=((tysD y).length:Int))) false]) (al i al0)
  cases c:sameTs x y with
  | true=>exact Ce func61 [(14,bA false)] [_] (λx a=>by rw[qu]at a;subst a;exact e c) [] d
  | false=>exact Ce func61 [(14,bA false)] [_] (λx a=>by rw[qu]at a;subst a;exact f c) [] d
 .rw[show sameTs x y=false by
   cases h:sameTs x y with
   | false=>rfl
   | true=>exact absurd (sameTs_len h) b]
  exact runT func61 [(14,bA true)] [] (al (show jJ (!decide (((tysD x).length:Int)=((tysD y).length:Int))) true from eT Ok) al0)
def SQ{T:Ty}{l:aw}(g:okT T)(e:okTs l)(f:tysizes l<=50000000):Hd ⟨46,[tyA T,dZ l],aQ (eZ T l)⟩:=by
 have⟨t,a⟩:=T;unfold eZ
 by_cases d:t=8
 .subst d;rw[if_pos (show (Ty.nd 8 a).t=8 from rfl)]
  match l,e with
  | [],_=>exact aF func46 []
  | [.nd u b],e =>
   rw[show oneGood [.nd u b]=au (.nd u b) from rfl];exact aF func46 [⟨_,Cb e.1⟩]
  | x::y::l,_ =>
   rw[J3 oe];exact runT func46 [(11,bA false)] [] (al (show jJ (decide (((tysD (x::y::l)).length:Int)=1)) false from eT Ok) al0)
 .rw[if_neg (show ¬(Ty.nd t a).t=8 from d)]
  by_cases c:t=14
  .subst c;rw[if_pos (show (Ty.nd 14 a).t=14 from rfl)];exact aF func46 [⟨_,YZ (y:=a) f⟩]
  .rw[if_neg (show ¬(Ty.nd t a).t=14 from c)];rw[show decide (l.length=0)=decide (((tysD l).length:Int)=0) by rw[eY,qh7];omega];exact runT func46 [(8,bA false),(19,bA false)] [] (al (show nq t 8 from oL d) (al (show nq t 14 from oL c) al0))
def Tn{T:Ty}{x:Va}(E:okT T)(H:okV x)(I:x.size<=20000000):Hd ⟨29,[tyA T,pF x],aQ (eX T x)⟩:=by
 have⟨t,q⟩:=T;have⟨k,n,a,s,J,r,m⟩:=x;have K:=SL t n;have L:=WG t;have M:=Y0 a;have N:=SQ (T:=.nd t q) (l:=r) E H.2.2.1 (by simp only[Va.size]at I;omega);have hF:eX (.nd t q) (.mk k n a s J r m)=(decide (k=t)&&bQ t n&&(decide (a=0)||decide (t=8\/t=15)&&lY a)&&(decide (s.size=0)||decide (t=6)&&decide (s.size<=200))&&eZ (.nd t q) r&&(decide (m.length=0)||decide (t=14))):=rfl;have w:decide (s.size=0)=(s.toList==([]:bw)):=by rw[jd0,jt,jg2];exact (Lf.Au s).symm
 have o:decide (m.length=0)=decide (((ndsD m).length:Int)=0):=by rw[ndsD_map,xj,jd0,jt,jt];omega
 have y:decide (s.size<=200)=decide ((s.size:Int)<=200):=by rw[jd0,jt,jt];omega
 rw[hF,w,y,o];clear hF w y o E H I;generalize z:decide (k=t)=b;generalize bQ t n=d at *;generalize A:decide (a=0)=c;generalize decide (t=8\/t=15)=e at *;generalize lY a=g at *;generalize B:(s.toList==([]:bw))=f;generalize C:decide (t=6)=i;generalize D:decide ((s.size:Int)<=200)=j;generalize eZ (.nd t q) r=u at *;generalize F:decide (((ndsD m).length:Int)=0)=p;generalize G:decide (t=14)=v;refine runT func29 [(9,bA b),(20,bA c),(35,bA f),(39,bA i),(44,bA j),(58,bA p),(62,bA v)]
  (Xk [(b,⟨_,K⟩),(b&&d && !c,⟨_,L⟩),(b&&d && !c&&e,⟨_,M⟩),(b&&d&&(c||e&&g)&&(f||i&&j),⟨_,N⟩)])
  (ob:=Xk [(true,jJ (decide (k=t)) b),(b&&d,jJ (decide (a=0)) c),(b&&d&&(c||e&&g),jJ (s.toList==([]:bw)) f),(b&&d&&(c||e&&g) && !f,jJ (decide (t=6)) i),(b&&d&&(c||e&&g) && !f&&i,jJ (decide ((s.size:Int)<=200)) j),(b&&d&&(c||e&&g)&&(f||i&&j)&&u,jJ (decide (((ndsD m).length:Int)=0)) p),(b&&d&&(c||e&&g)&&(f||i&&j)&&u && !p,jJ (decide (t=14)) v)]) (h:=?_)
  (IM (eT z) (IM (eT A) (IM (eT B) (IM (eT C) (IM (eT D) (IM (eT F) (IM (eT G) al0)))))))
 clear z A B C D F G;cases b
 .kernel_rfl
 cases d
 .kernel_rfl
 cases c
 case' false =>
  cases e
  .kernel_rfl
  cases g
  .kernel_rfl
 all_goals
  cases f
  case' false =>
   cases i
   .kernel_rfl
   cases j
   .kernel_rfl
  all_goals
   cases u
   .kernel_rfl
   cases p
   case' false=>cases v
   all_goals kernel_rfl
section
variable {n:Nat}
def zt{es:List bd}(h:∀r∈es,r.length=n):es.flatten.length=es.length*n:=by
 induction es with
 | nil=>simp
 | cons a A c=>rw[ja2,ju,h a oe,c (λq b=>h q (by simp[b])),jj,qf7];omega
def zl{t:bd}{j:Nat} : ∀{A:List bd},(∀r∈A,r.length=n)->chunk n (A.length+j) (A.flatten++t)=A++chunk n j t
 | [],_=>oe
 | a::A,h=>by have b:=h a oe;rw[jj,show A.length+1+j=(A.length+j)+1 by omega,chunk,ja2,qa6,jd7 b,List.drop_left' b,zl (λr c=>h r (by simp[c])),qe0]
def CL{es:List bd}(h:∀r∈es,r.length=n):chunk n es.length es.flatten=es:=by have:=zl (t:=[]) (j:=0) h;simpa[chunk]using this
def flat_chunk:∀(k:Nat) (l:bd),l.length=k*n->(chunk n k l).flatten=l/\∀r∈chunk n k l,r.length=n
 | 0,l,h=>by obtain rfl:l=[]:=jx od;exact⟨rfl,λr a=>by cases a⟩
 | k+1,l,h=>by
  rw[qf7]at h;have⟨b,c⟩:=flat_chunk k (l.drop n) ot;rw[chunk,ja2,b,qd1];refine⟨rfl,λr a=>?_⟩;rcases ke.1 a with rfl|a
  .simp;omega
  .exact c r a
def Lh{es:List bd}(h:∀r∈es,r.length=n){q:Nat}{ys:bd}(d:q+ys.length<=es.length*n):(fw n es q ys).flatten=es.flatten.take q++(ys++es.flatten.drop (q+ys.length))/\(fw n es q ys).length=es.length/\∀r∈fw n es q ys,r.length=n:=by have c:=zt h;have⟨a,b⟩:=flat_chunk (n:=n) es.length (es.flatten.take q++(ys++es.flatten.drop (q+ys.length))) (by simp only[ju,qc2,List.length_drop];omega);exact⟨a,nM _ _ _,b⟩
end
def vI{es A:List bd}{a b a' b':D}{m:Nat}(c:∀r∈es,r.length=2)(i:A.length=m)(h:es.take (m+1)=A++[[a,b]]) :
 dY es (m*2) 1=some [.d a]/\dY es (m*2+1) 1=some [.d b]/\m+1<=es.length /\
 (fw 2 (fw 2 es (m*2) [a']) (m*2+1) [b']).take (m+1)=A++[[a',b']]/\(fw 2 (fw 2 es (m*2) [a']) (m*2+1) [b']).length=es.length/\(fw 2 es (m*2) [a']).length=es.length:=by
 have e:m+1<=es.length:=by have:=congrArg List.length h;simp at this;omega
 have hA2:∀r∈A,r.length=2:=λr v=>c r (qe5 (by rw[h];simp[v]));have hf:=zt hA2;rw[i]at hf;have⟨R,j⟩:∃R,es.flatten=A.flatten++(a::b::R):=⟨(es.drop (m+1)).flatten,by
  conv=>lhs;rw[<-qd1 (m+1) es,h]
  simp⟩
 have u:=zt c;have⟨g,f,w⟩:=Lh c (q:=m*2) (ys:=[a']) ot;have⟨l,k,o⟩:=Lh w (q:=m*2+1) (ys:=[b']) (by rw[f];simp;omega);have x:es.flatten.take (m*2)=A.flatten:=by rw[j,<-hf,List.take_left]
 have p:es.flatten.drop (m*2+1)=b::R:=by rw[j,<-hf,<-List.drop_drop,List.drop_left];rfl
 simp only[qe1]at g l;rw[x,p]at g;have n:(fw 2 (fw 2 es (m*2) [a']) (m*2+1) [b']).flatten=A.flatten++(a'::b'::R):=by rw[l,g,show A.flatten++([a']++b::R)=(A.flatten++[a'])++(b::R) by simp,jd7 (by simp[hf]),<-List.drop_drop,List.drop_left' (by simp[hf])];simp
 refine⟨?_,?_,e,?_,by rw[k,f],f⟩
 .unfold dY;rw[oc,j,<-hf,List.drop_left];rfl
 .unfold dY;rw[oc,p];rfl
 .have s:=CL o;rw[n,k,f,<-qd1 (m+1) (fw 2 (fw 2 es (m*2) [a']) (m*2+1) [b'])]at s;have t:(fw 2 (fw 2 es (m*2) [a']) (m*2+1) [b'])=A++chunk 2 (es.length - m) (a'::b'::R):=by
   rw[<-zl hA2,i,show m+(es.length - m)=es.length by omega,<-n,<-f,<-k,CL o]
  rw[t,show es.length - m=(es.length - m - 1)+1 by omega,chunk,List.take_append,ub od,i,show m+1 - m=1 by omega];rfl
def BL{α:Type}(P Q:α->Prop)(c:α->α->Int)(a:α->List α)(s:List (List α×List α)->Int)(left:List (List α×List α)->Nat)(cd:List α×List α->bd)(W:Nat->Nat->List bd->Int->Prop)(K:br)(h:Nat)(d:K h)
 (s0:s []=0) (s1:∀R,s (R++[([],[])])=s R) (s2:∀R (x y:List α),(x=[]\/y=[])->¬(x=[]/\y=[])->s (R++[(x,y)])=gP x.length y.length)
 (s3:∀R x y xs ys,c x y≠0->s (R++[(x::xs,y::ys)])=c x y) (s4:∀R x y xs ys,c x y=0->s (R++[(x::xs,y::ys)])=s (R++[(xs,ys)]++[(a x,a y)]))
 (l1:∀R x y,left (R++[(x,y)]) > left R) (l4:∀R x y xs ys,left (R++[(xs,ys)]++[(a x,a y)])<left (R++[(x::xs,y::ys)])) (l5:∀R,R.length<=left R)
 (h0:∀k es,K k->W k 0 es 0)
 (h1:∀k m es A (x y:List α),K k->(∀r∈es,r.length=2)->A.length=m->m<=50000000->es.take (m+1)=A++[cd (x,y)]->(x=[]\/y=[])->¬(x=[]/\y=[])->W k (m+1) es (gP x.length y.length))
 (h2:∀k m es A r,K k->(∀r∈es,r.length=2)->A.length=m->m<=50000000->es.take (m+1)=A++[cd ([],[])]->W k m es r->W k (m+1) es r)
 (h3:∀k m es A x y xs ys,P x->Q y->K k->(∀r∈es,r.length=2)->A.length=m->m<=50000000->es.take (m+1)=A++[cd (x::xs,y::ys)]->(c x y≠0->W k (m+1) es (c x y))/\(c x y=0->∀r,W h (m+1+1) (A++[cd (xs,ys)]++[cd (a x,a y)]) r->W k (m+1) es r))
 (hcd:∀p,(cd p).length=2) (hP:∀x,P x->∀z∈a x,P z) (hQ:∀x,Q x->∀z∈a x,Q z):∀(N:Nat) (R:List (List α×List α)) (k l:Nat) (es:List bd),left R<=N->N<=50000000->K k->(∀r∈es,r.length=2)->R.length=l->es.take l=R.map cd->(∀p∈R,(∀x∈p.1,P x)/\∀y∈p.2,Q y)->W k l es (s R)
 | N, R,k,l,es,G,H,hk,hes,o,E,j=>by
  rcases jf2 R with rfl|⟨R,⟨x,y⟩,rfl⟩
  .obtain rfl:l=0:=o.symm;rw[s0];exact h0 k es hk
  rw[jf3]at *;have g:=l1 R x y;have F:=l5 R;obtain rfl:l=R.length+1:=by simp at o;omega
  have b:es.take (R.length+1)=R.map cd++[cd (x,y)]:=by rw[E];simp
  have hm:(R.map cd).length=R.length:=oe
  have B:0<N:=od
  by_cases f:x=[]\/y=[]
  .by_cases e:x=[]/\y=[]
   .obtain⟨rfl,rfl⟩:=e;rw[s1];refine h2 k R.length es (R.map cd) _ hk hes hm od b (BL P Q c a s left cd W K h d s0 s1 s2 s3 s4 l1 l4 l5 h0 h1 h2 h3 hcd hP hQ (N - 1) R k R.length es od od hk hes rfl ?_ (λp g=>j p (by simp[g])));have:=congrArg (List.take R.length) b;rw[jg7,jc6 od,jd7 hm]at this;exact this
   .rw[s2 R x y f e];exact h1 k R.length es (R.map cd) x y hk hes hm od b f e
  .match x,y,f with
   | [],_,f=>exact absurd (.inl rfl) f
   | _,[],f=>exact absurd (.inr rfl) f
   | x::xs,y::ys,_ =>
    have⟨v,w⟩:=j (x::xs,y::ys) oe;have t:=v x oe;have u:=w y oe;have⟨g1,g2⟩:=h3 k R.length es (R.map cd) x y xs ys t u hk hes hm od b
    by_cases i:c x y=0
    .rw[s4 R x y xs ys i];have C:=l4 R x y xs ys;refine g2 i _ (BL P Q c a s left cd W K h d s0 s1 s2 s3 s4 l1 l4 l5 h0 h1 h2 h3 hcd hP hQ (N - 1) (R++[(xs,ys)]++[(a x,a y)]) h _ _ od od d ?_ oe ?_ (λp g=>?_))
     .intro r q;simp only[ka,kl,qu]at q;rcases q with (⟨p,_,rfl⟩|rfl)|rfl<;>exact hcd _
     .rw[ub oe];simp
     .simp only[ka,qu]at g;rcases g with (g|rfl)|rfl
      .exact j p (by simp[g])
      .exact⟨λz n=>v z (by simp[n]),λz n=>w z (by simp[n])⟩
      .exact⟨hP x t,hQ y u⟩
    .rw[s3 R x y xs ys i];exact g1 i
termination_by N=>N
decreasing_by all_goals omega
def ldP (es:List bd) (q:Nat) (x:D):Prop:=(dY es q 1).bind (mkA false)=some (.of (.one (.d x)))
def mR{es:List bd}{q:Nat}{x:D}(h:dY es q 1=some [.d x]):ldP es q x:=by unfold ldP;rw[h];rfl
def UO (k m:Nat):Hints:=[(21,bA true),(25,jA m),(26,.one (.q k (m*2)))]
def siO (k m:Nat):List Prop:=[mD (aQ (decide ((0:Int)<Int.ofNat (m+1)))) (bA true),mD (lW (IntKind.i64.wrap (Int.ofNat (m+1) - 1))) (jA m),(if 2=2/\m<m+1 then some (AV.of (.one (.q k (m*2))))else none)=some (.of (.one (.q k (m*2))))]
def zJ{k m:Nat}(h:m<=50000000):∀p∈siO k m,p:=al (is_lt oe) (al (yY ZD) (al (if_pos ⟨rfl,od⟩) al0))
def EF (f:FuncId):A1:=.one (.d (.v (.func (.func f) #[] #[])))
def OV{α:Type}{x y:List α}(h:x=[]\/y=[])(c:¬(x=[]/\y=[])):gP x.length y.length≠0:=by
 rcases x with _|⟨a,x⟩<;>rcases y with _|⟨b,y⟩
 .exact absurd ⟨rfl,rfl⟩ c
 .rw[gP,if_pos oe];decide
 .rw[gP,if_neg ot,if_pos oe];decide
 .rcases h with h|h<;>cases h
def BX(a b:Int):Hd ⟨73,[iA a,iA b],.of (iA (gP a b))⟩:=by
 have c:∀a:Int,Hd ⟨90,[iA a],.of fA⟩:=λa=>runT func90 [(5,fA)] [] (ob:=[jJ (!decide (a=a)) false]) (al (eT oe) al0);have e:gP a b=if decide (a<b)=true then -1 else if decide (b<a)=true then 1 else 0:=by simp[gP]
 rw[e];generalize d:decide (a<b)=p;generalize f:decide (b<a)=q;cases p
 .cases q
  .exact runT func73 [(16,fA),(19,fA)] [⟨_,c a⟩,⟨_,c b⟩] (ob:=[jJ (decide (a<b)) false,jJ (decide (b<a)) false]) (al (eT d) (al (eT f) al0))
  .exact runT func73 [(16,fA),(19,bA true)] [⟨_,c a⟩,⟨_,c b⟩] (ob:=[jJ (decide (a<b)) false,jJ (decide (b<a)) true]) (al (eT d) (al (eT f) al0))
 .exact runT func73 [(16,bA true)] [⟨_,c a⟩,⟨_,c b⟩] (ob:=[jJ (decide (a<b)) true]) (al (eT d) al0)
abbrev sA (s:bp):A1:=.one (.d (.v (.string s)))
def abX(a b:ByteArray):Hd ⟨74,[sA a,sA b],.of (iA (Jn a b))⟩:=by
 have c:∀a:ByteArray,Hd ⟨91,[sA a],.of fA⟩:=λa=>runT func91 [(5,fA)] [] (ob:=[jJ (!(a.toList==a.toList)) false]) (al (eT oe) al0);have e:Jn a b=if Op.bytesLess a.toList b.toList=true then -1 else if (!(Op.bytesLess a.toList b.toList||a.toList==b.toList))=true then 1 else 0:=by
  unfold Jn
  by_cases h:Op.bytesLess a.toList b.toList=true
  .rw[if_pos h,if_pos h]
  .rw[if_neg h,if_neg h]
   by_cases g:a.toList=b.toList<;>simp[h,g]
 rw[e];generalize f:Op.bytesLess a.toList b.toList=p;generalize i:(!(p||a.toList==b.toList))=q;have d:(!(Op.bytesLess a.toList b.toList||a.toList==b.toList))=q:=by rw[f];exact i
 cases p
 .cases q
  .exact runT func74 [(16,fA),(19,fA)] [⟨_,c a⟩,⟨_,c b⟩] (ob:=[jJ (Op.bytesLess a.toList b.toList) false,jJ (!(Op.bytesLess a.toList b.toList||a.toList==b.toList)) false]) (al (eT f) (al (eT d) al0))
  .exact runT func74 [(16,fA),(19,bA true)] [⟨_,c a⟩,⟨_,c b⟩] (ob:=[jJ (Op.bytesLess a.toList b.toList) false,jJ (!(Op.bytesLess a.toList b.toList||a.toList==b.toList)) true]) (al (eT f) (al (eT d) al0))
 .exact runT func74 [(16,bA true)] [⟨_,c a⟩,⟨_,c b⟩] (ob:=[jJ (Op.bytesLess a.toList b.toList) true]) (al (eT f) al0)
def orA (x y:Int):A1:=.one (.d (.s 1 [[.v (.i x)],[.v (.i y)]]))
def orS (x y:Int) (j:Int):St:=[((0,6),.of (orA x y)),((0,7),.of (iA 2)),((0,8),.of (iA j)),((0,3),.of (iA 0))]
abbrev orL (x y j:Int) (ex:Nat) (q:St):Prop:=vO prog f72.ntmps ⟨gF f72,orS x y j,ex,q⟩
def adF(x y:Int):Hd ⟨72,[orA x y],.of (iA (if x≠0 then x else y))⟩:=by
 have f:=wI (S:=orS x y 0) (q:=gF f72=gF f72) rfl (ps:=[]) al0
 by_cases d:x=0
 .subst d;rw[if_neg oe]
  by_cases g:y=0
  .subst g;have b:orL 0 0 0 2 [((0,3),.of (iA 0))]:=LG (pre2:=orS 0 0 1) [] [] (LG (pre2:=orS 0 0 2) [] [] (xQ (e:=1) [] [] al0) al0) al0;exact Ce func72 [] [_] (by intro z a;rw[qu]at a;subst a;exact b) [] f
  .have c:jJ (!decide (y=0)) true:=eT (by simp[g]);have b:orL 0 y 0 1 [((0,2),.of (iA y))]:=LG (pre2:=orS 0 y 1) [] [] (xQ (e:=0) [(14,bA true)] [] (al c al0)) al0;exact Ce func72 [] [_] (by intro z a;rw[qu]at a;subst a;exact b) [] f
 .rw[if_pos d];have c:jJ (!decide (x=0)) true:=eT (by simp[d]);have b:orL x y 0 1 [((0,2),.of (iA x))]:=xQ (e:=0) [(14,bA true)] [] (al c al0);exact Ce func72 [] [_] (by intro z a;rw[qu]at a;subst a;exact b) [] f
def NC (p:ao×ao):bd:=[.s 7 (vasD p.1),.s 7 (vasD p.2)]
def siS (f k l:Nat) (es:List bd):St:=[((0,2),.of (EF 59)),((0,3),.of (EF f)),((0,9),.of (.one (.g k 2 l))),((k+1,0),.kv 132 2 es)]
abbrev Uq (f k l:Nat) (es:List bd) (ex:Nat) (q:St):Prop:=vO prog f58.ntmps ⟨gF f58,siS f k l es,ex,q⟩
def siP (f k l:Nat) (es:List bd) (r:Int):Prop:=Uq f k l es 1 [((0,8),.of (iA r))]\/r=0/\Uq f k l es 2 []
def Oi(x:Va):Hd ⟨59,[pF x],.of (qi x.args)⟩:=by have⟨c,d,b,g,e,f,a⟩:=x;exact aF func59 []
section
variable {f k m:Nat}{es A:List bd}(hf:f=71\/f=60) (hk:k=3000018\/k=3000104)
include hf hk
def si_0:Uq f k 0 es 2 []:=by have F:=λo a=>(xQ (e:=1) [] [] al0 (h:=o) (hc:=a):Uq f k 0 es 2 []);rcases hf with rfl|rfl<;>rcases hk with rfl|rfl<;>exact F oA oA
variable (hes:∀ r∈es,r.length=2) (hA:A.length=m) (hm:m<=50000000)
include hes hA hm
def adW{x y:ao}(h:es.take (m+1)=A++[NC (x,y)])(l:x=[]\/y=[])(g:¬(x=[]/\y=[])):Uq f k (m+1) es 1 [((0,8),.of (iA (gP x.length y.length)))]:=by
 have⟨b,c,_⟩:=vI (a':=.t) (b':=.t) hes hA h;have b:=mR b;have c:=mR c;have p:=zJ (k:=k) hm;have j:=BX ((vasD x).length:Int) ((vasD y).length:Int);have n:jJ (!decide (gP ((vasD x).length:Int) ((vasD y).length:Int)=0)) true:=eT (by rw[qY,qY];simp[OV l g]);rw[<-qY x,<-qY y];rcases x with _|⟨a,x⟩
 .have F:=λo i=>(xQ (e:=0) (UO k m++[(30,.one (.d (.s 7 (vasD [])))),(44,.one (.d (.s 7 (vasD [])))),(49,.one (.d (.s 7 (vasD y)))),(53,bA true)]) [⟨_,j⟩] (jX p (al b (al b (al c (al n al0))))) (h:=o) (hc:=i):Uq f k (m+1) es 1 [((0,8),.of (iA (gP ((vasD []).length:Int) ((vasD y).length:Int))))]);rcases hf with rfl|rfl<;>rcases hk with rfl|rfl<;>exact F oA oA
 .obtain rfl:y=[]:=l.resolve_left oe;have q:jJ (decide (((vasD (a::x)).length:Int)=0)) false:=eT (xb On);have F:=λo i=>(xQ (e:=0) (UO k m++[(30,.one (.d (.s 7 (vasD (a::x))))),(32,fA),(37,.one (.d (.s 7 (vasD [])))),(44,.one (.d (.s 7 (vasD (a::x))))),(49,.one (.d (.s 7 (vasD [])))),(53,bA true)]) [⟨_,j⟩] (jX p (al b (al q (al c (al b (al c (al n al0))))))) (h:=o) (hc:=i):Uq f k (m+1) es 1 [((0,8),.of (iA (gP ((vasD (a::x)).length:Int) ((vasD []).length:Int))))]);rcases hf with rfl|rfl<;>rcases hk with rfl|rfl<;>exact F oA oA
def adw{ex:Nat}{q:St}(h:es.take (m+1)=A++[NC ([],[])])(hn:Uq f k m es ex q):Uq f k (m+1) es ex q:=by have⟨a,b,_⟩:=vI (a':=.t) (b':=.t) hes hA h;have a:=mR a;have b:=mR b;have j:=zJ (k:=k) hm;have i:=BX 0 0;have c:mD (lW (IntKind.i64.wrap (Int.ofNat (m+1) - 1))) (jA m):=yY ZD;have e:(if 2=2/\m<=m+1 then some (AV.of (.one (.g k 2 m)))else none)=some (.of (.one (.g k 2 m))):=if_pos ⟨rfl,od⟩;have F:=λo l=>LG (UO k m++[(30,.one (.d (.s 7 (vasD [])))),(44,.one (.d (.s 7 (vasD [])))),(49,.one (.d (.s 7 (vasD [])))),(58,jA m),(59,.one (.g k 2 m))]) [⟨_,i⟩] hn (jX j (al a (al a (al b (al c (al e al0)))))) (pre:=siS f k (m+1) es) (h:=o) (hc:=l);rcases hf with rfl|rfl<;>rcases hk with rfl|rfl<;>exact F oA oA
def adX{c:Va->Va->Int}{x y:Va}{xs ys:ao}(K:Hd ⟨f,[pF x,pF y],.of (iA (c x y))⟩)(h:es.take (m+1)=A++[NC (x::xs,y::ys)]) :
 (c x y≠0->Uq f k (m+1) es 1 [((0,8),.of (iA (c x y)))])/\(c x y=0->∀ex q,Uq f 3000104 (m+1+1) (A++[NC (xs,ys)]++[NC (x.args,y.args)]) ex q->Uq f k (m+1) es ex q):=by
 have⟨C,D,Z,H,I,J⟩:=vI (a':=.s 7 (vasD xs)) (b':=.s 7 (vasD ys)) hes hA h;have C:=mR C;have D:=mR D;have R:=zJ (k:=k) hm;have W:jJ (decide (((vasD (x::xs)).length:Int)=0)) false:=eT (xb On);have X:jJ (decide (((vasD (y::ys)).length:Int)=0)) false:=eT (xb On);have U:m*2+1<=es.length*2:=od
 have V:m*2+1+1<=(fw 2 es (m*2) [.s 7 (vasD xs)]).length*2:=by rw[J];omega
 have L:=jX R (al C (al W (al D (al X (al C (al D (al C (al D (al U (al V al0))))))))));have M:=Oi x;have N:=Oi y;have O:rowsLe ((fw 2 (fw 2 es (m*2) [.s 7 (vasD xs)]) (m*2+1) [.s 7 (vasD ys)]).take (m+1)++[NC (x.args,y.args)]) (A++[NC (xs,ys)]++[NC (x.args,y.args)]):=by rw[H];exact rows_refl _
 have P:zV 48 (m+1) (fw 2 (fw 2 es (m*2) [.s 7 (vasD xs)]) (m*2+1) [.s 7 (vasD ys)]) [NC (x.args,y.args)]:=iL (by rw[I];omega) oe rfl ot ov;generalize S:c x y=r at *;clear H I J h S;have⟨j,l,i,p,a,n,g⟩:=x;have⟨v,w,u,B,b,z,t⟩:=y;have T:Hints:=UO k m;refine⟨λE=>?_,λE ex q Q=>?_⟩
 .have Y:jJ (!decide (r=0)) true:=eT (by simp[E]);have F:=λo G=>(xQ (e:=0) (UO k m++[(30,.one (.d (.s 7 (vasD (.mk j l i p a n g::xs))))),(32,fA),(37,.one (.d (.s 7 (vasD (.mk v w u B b z t::ys))))),(39,fA),(63,.one (.d (.s 7 (vasD (.mk j l i p a n g::xs))))),(69,.one (.d (.s 7 (vasD (.mk v w u B b z t::ys))))),(77,.one (.d (.s 7 (vasD (.mk j l i p a n g::xs))))),(82,.one (.d (.s 7 (vasD (.mk v w u B b z t::ys))))),(93,bA true)]) [⟨_,K⟩] (jX L (al Y al0)) (h:=o) (hc:=G):Uq f k (m+1) es 1 [((0,8),.of (iA r))]);rcases hf with rfl|rfl<;>rcases hk with rfl|rfl<;>exact F oA oA
 .subst E;have F:=λo G=>LG (UO k m++[(30,.one (.d (.s 7 (vasD (.mk j l i p a n g::xs))))),(32,fA),(37,.one (.d (.s 7 (vasD (.mk v w u B b z t::ys))))),(39,fA),(63,.one (.d (.s 7 (vasD (.mk j l i p a n g::xs))))),(69,.one (.d (.s 7 (vasD (.mk v w u B b z t::ys))))),(77,.one (.d (.s 7 (vasD (.mk j l i p a n g::xs))))),(82,.one (.d (.s 7 (vasD (.mk v w u B b z t::ys))))),(2000104,.one (.d (.s 2 (A++[NC (xs,ys)]++[NC (a,b)]))))]) [⟨_,K⟩,⟨_,M⟩,⟨_,N⟩] Q (jX L (al O (al P al0))) (pre:=siS f k (m+1) es) (h:=o) (hc:=G);rcases hf with rfl|rfl<;>rcases hk with rfl|rfl<;>exact F oA oA
end
def Oh{f:FuncId}(b:f=71\/f=60){P Q:Va->Prop}{c:Va->Va->Int}(J:∀x,P x->∀z∈x.args,P z)(K:∀x,Q x->∀z∈x.args,Q z)(I:∀x y,P x->Q y->Hd ⟨f,[pF x,pF y],.of (iA (c x y))⟩){x y:Va}(M:P x)(N:Q y)(d:x.size<=20000000) :
 Hd ⟨58,[qi [x],qi [y],EF 59,EF f],.of (iA (qg c x y))⟩:=by
 have h:=BL P Q c Va.args (jL c) leftV NC (siP f) (λk=>k=3000018\/k=3000104) 3000104 (.inr rfl) rfl (Vm c) (Vh c) (Vn c) (RZ c) (λR x y=>by rw[iQ,jW];omega) (λR x y U V=>by
  have:=eP x;simp only[iQ,jW,vsizes];omega) NI
  (λk es hk=>.inr ⟨rfl,si_0 b hk⟩) (λk m es A x y hk hes hA hm h L g=>.inl (adW b hk hes hA hm h L g))
  (λk m es A r hk hes hA hm h a=>a.imp (adw b hk hes hA hm h) (λa=>⟨a.1,adw b hk hes hA hm h a.2⟩))
  (λk m es A x y U V O T hk hes hA hm h=>by have⟨g1,g2⟩:=adX b hk hes hA hm (I x y O T) h;exact⟨λe=>.inl (g1 e),λe r a=>a.imp (g2 e _ _) (λa=>⟨a.1,g2 e _ _ a.2⟩)⟩)
  (λp=>rfl) J K _ [([x],[y])] 3000018 1 [NC ([x],[y])] (jn _) (by rw[jW];simp[vsizes];omega) (.inl rfl) (by simp[NC]) rfl rfl (by simp[M,N])
 rw[Vl,Eg]at h;generalize qg c x y=r at h|-;have i:=λf=>wI (S:=siS f 3000018 1 [NC ([x],[y])]) (q:=gF f58=gF f58) rfl (ps:=[]) al0;have⟨n,s,l,v,t,u,j⟩:=x;have⟨C,D,B,H,E,G,w⟩:=y;rcases h with h|⟨rfl,h⟩
 .have F:=λo=>(Ce (res:=.of (iA r)) func58 [(18,nilA)] [_] (by intro z d;rw[qu]at d;subst d;exact h) [] (i f) (h:=o):Hd ⟨58,[qi [.mk n s l v t u j],qi [.mk C D B H E G w],EF 59,EF f],.of (iA r)⟩);rcases b with rfl|rfl<;>exact F oA
 .have F:=λo=>(Ce (res:=.of (iA 0)) func58 [(18,nilA)] [_] (by intro z d;rw[qu]at d;subst d;exact h) [] (i f) (h:=o):Hd ⟨58,[qi [.mk n s l v t u j],qi [.mk C D B H E G w],EF 59,EF f],.of (iA 0)⟩);rcases b with rfl|rfl<;>exact F oA
def ab1(x y:Va):Hd ⟨71,[pF x,pF y],.of (iA (nQ x y))⟩:=by have c:=BX x.n y.n;have d:=abX x.s y.s;have e:=adF (gP x.n y.n) (Jn x.s y.s);rw[show nQ x y=if gP x.n y.n≠0 then gP x.n y.n else Jn x.s y.s from rfl];generalize gP x.n y.n=a at *;generalize Jn x.s y.s=b at *;generalize (if a≠0 then a else b)=r at *;have⟨h,i,g,l,j,k,f⟩:=x;have⟨p,q,o,v,t,u,m⟩:=y;exact aF func71 [⟨_,c⟩,⟨_,d⟩,⟨_,e⟩]
def Tc{x y:Va}(a:x.size<=20000000):Hd ⟨50,[pF x,pF y],.of (iA (gT x y))⟩:=by have h:=Oh (f:=71) (.inl rfl) (P:=λ_=>True) (Q:=λ_=>True) (λ_ _ _ _=>trivial) (λ_ _ _ _=>trivial) (λx y _ _=>ab1 x y) (x:=x) (y:=y) trivial trivial a;rw[show gT x y=qg nQ x y from rfl];generalize qg nQ x y=r at *;have⟨d,e,c,j,g,i,b⟩:=x;have⟨m,n,l,q,o,p,k⟩:=y;exact aF func50 [⟨_,h⟩]
def argsN:Tr->aE
 | .nd _ _ _ _ l=>l
def kN:Tr->Int
 | .nd k _ _ _ _=>k
def nN:Tr->Int
 | .nd _ n _ _ _=>n
def pN:Tr->Int
 | .nd _ _ p _ _=>p
def sN:Tr->bp
 | .nd _ _ _ s _=>s
def aem(t:Tr):t.size=sizes (argsN t)+1:=by cases t;simp[Tr.size,argsN]
mutual
def Ot (c:Tr->Tr->Int):Tr->Tr->Int
 | .nd k n p s args,y=>if c (.nd k n p s args) y≠0 then c (.nd k n p s args) y else jk c args (argsN y)
def jk (c:Tr->Tr->Int):aE->aE->Int
 | [],[]=>0
 | [],_::_=>-1
 | _::_,[]=>1
 | x::xs,y::ys=>if Ot c x y≠0 then Ot c x y else jk c xs ys
end
def L8(c:Tr->Tr->Int)(x y:Tr):Ot c x y=if c x y≠0 then c x y else jk c (argsN x) (argsN y):=by
 cases x;rw[Ot];rfl
def RS (c:Tr->Tr->Int):List (aE×aE)->Int
 | []=>0
 | r::R=>if jk c r.1 r.2≠0 then jk c r.1 r.2 else RS c R
def Cq (c:Tr->Tr->Int) (rows:List (aE×aE)):Int:=RS c rows.reverse
def mo(c:Tr->Tr->Int)(rows:List (aE×aE))(r:aE×aE):Cq c (rows++[r])=if jk c r.1 r.2≠0 then jk c r.1 r.2 else Cq c rows:=by simp[Cq,RS]
def RV(c:Tr->Tr->Int)(r:aE×aE):Cq c [r]=jk c r.1 r.2:=by
 have:=mo c [] r;rw[qe4]at this;rw[this]
 by_cases h:jk c r.1 r.2=0
 .rw[if_neg (by simpa using h),h];rfl
 .rw[if_pos h]
def RX(c:Tr->Tr->Int)(rows:List (aE×aE)):Cq c (rows++[([],[])])=Cq c rows:=by rw[mo];simp[jk]
def RU(c:Tr->Tr->Int)(rows:List (aE×aE))(x y:aE)(h:x=[]\/y=[])(f:¬(x=[]/\y=[])):Cq c (rows++[(x,y)])=gP x.length y.length:=by
 rw[mo]
 cases x with
 | nil=>cases y with
  | nil=>simp at f
  | cons b y =>
   have d:jk c [] (b::y) = -1:=by rw[jk]
   have e:gP (([]:aE).length:Nat) ((b::y).length:Nat) = -1:=by rw[gP,if_pos oe]
   rw[e];simp[d]
 | cons a x=>cases y with
  | nil =>
   have d:jk c (a::x) []=1:=by rw[jk]
   have e:gP ((a::x).length:Nat) (([]:aE).length:Nat)=1:=by rw[gP,if_neg ot,if_pos oe]
   rw[e];simp[d]
  | cons b y=>simp at h
def RY(c:Tr->Tr->Int)(rows:List (aE×aE))(x y:Tr)(xs ys:aE)(h:c x y≠0):Cq c (rows++[(x::xs,y::ys)])=c x y:=by
 have a:Ot c x y=c x y:=by rw[L8,if_pos h]
 have b:jk c (x::xs) (y::ys)=c x y:=by rw[jk,a,if_pos h]
 rw[mo];simp only[b];rw[if_pos h]
def Oy(c:Tr->Tr->Int)(rows:List (aE×aE))(x y:Tr)(xs ys:aE)(h:c x y=0):Cq c (rows++[(x::xs,y::ys)])=Cq c (rows++[(xs,ys)]++[(argsN x,argsN y)]):=by
 have b:Ot c x y=jk c (argsN x) (argsN y):=by rw[L8,if_neg (by simpa using h)]
 rw[mo,mo,mo];simp only;rw[jk,b]
 by_cases a:jk c (argsN x) (argsN y)=0
 .simp[a]
 .rw[if_pos a,if_pos a];simp[a]
def uy (rows:List (aE×aE)):Nat:=(rows.map λr=>2*sizes r.1+1).sum
def iP(a b:List (aE×aE)):uy (a++b)=uy a+uy b:=by simp[uy]
def jV(r:aE×aE):uy [r]=2*sizes r.1+1:=by simp[uy]
def NG(rows:List (aE×aE)):rows.length<=uy rows:=by
 induction rows with
 | nil=>simp
 | cons r l a=>simp only[uy,qb2,je6,jj]at a|-;omega
def Nz (p:aE×aE):bd:=[.s 5 (ndsD p.1),.s 5 (ndsD p.2)]
def sjS (f k l:Nat) (es:List bd):St:=[((0,2),.of (EF 84)),((0,3),.of (EF f)),((0,9),.of (.one (.g k 2 l))),((k+1,0),.kv 163 2 es)]
abbrev Ut (f k l:Nat) (es:List bd) (ex:Nat) (q:St):Prop:=vO prog f85.ntmps ⟨gF f85,sjS f k l es,ex,q⟩
def sjP (f k l:Nat) (es:List bd) (r:Int):Prop:=Ut f k l es 1 [((0,8),.of (iA r))]\/r=0/\Ut f k l es 2 []
def JC(x:Tr):Hd ⟨84,[ndA x],.of (CW (argsN x))⟩:=by have⟨b,c,a,e,d⟩:=x;exact aF func84 []
section
variable {f k m:Nat}{es A:List bd}(hf:f=86) (hk:k=3000018\/k=3000104)
include hf hk
def sj_0:Ut f k 0 es 2 []:=by have F:=λo a=>(xQ (e:=1) [] [] al0 (h:=o) (hc:=a):Ut f k 0 es 2 []);subst hf;rcases hk with rfl|rfl<;>exact F oA oA
variable (hes:∀ r∈es,r.length=2) (hA:A.length=m) (hm:m<=50000000)
include hes hA hm
def adY{x y:aE}(h:es.take (m+1)=A++[Nz (x,y)])(l:x=[]\/y=[])(g:¬(x=[]/\y=[])):Ut f k (m+1) es 1 [((0,8),.of (iA (gP x.length y.length)))]:=by
 have⟨b,c,_⟩:=vI (a':=.t) (b':=.t) hes hA h;have b:=mR b;have c:=mR c;have p:=zJ (k:=k) hm;have j:=BX ((ndsD x).length:Int) ((ndsD y).length:Int);have n:jJ (!decide (gP ((ndsD x).length:Int) ((ndsD y).length:Int)=0)) true:=eT (by rw[Hf,Hf];simp[OV l g]);rw[<-Hf x,<-Hf y];rcases x with _|⟨a,x⟩
 .have F:=λo i=>(xQ (e:=0) (UO k m++[(30,.one (.d (.s 5 (ndsD [])))),(44,.one (.d (.s 5 (ndsD [])))),(49,.one (.d (.s 5 (ndsD y)))),(53,bA true)]) [⟨_,j⟩] (jX p (al b (al b (al c (al n al0))))) (h:=o) (hc:=i):Ut f k (m+1) es 1 [((0,8),.of (iA (gP ((ndsD []).length:Int) ((ndsD y).length:Int))))]);subst hf;rcases hk with rfl|rfl<;>exact F oA oA
 .obtain rfl:y=[]:=l.resolve_left oe;have q:jJ (decide (((ndsD (a::x)).length:Int)=0)) false:=eT (xb OR);have F:=λo i=>(xQ (e:=0) (UO k m++[(30,.one (.d (.s 5 (ndsD (a::x))))),(32,fA),(37,.one (.d (.s 5 (ndsD [])))),(44,.one (.d (.s 5 (ndsD (a::x))))),(49,.one (.d (.s 5 (ndsD [])))),(53,bA true)]) [⟨_,j⟩] (jX p (al b (al q (al c (al b (al c (al n al0))))))) (h:=o) (hc:=i):Ut f k (m+1) es 1 [((0,8),.of (iA (gP ((ndsD (a::x)).length:Int) ((ndsD []).length:Int))))]);subst hf;rcases hk with rfl|rfl<;>exact F oA oA
def adx{ex:Nat}{q:St}(h:es.take (m+1)=A++[Nz ([],[])])(hn:Ut f k m es ex q):Ut f k (m+1) es ex q:=by have⟨a,b,_⟩:=vI (a':=.t) (b':=.t) hes hA h;have a:=mR a;have b:=mR b;have j:=zJ (k:=k) hm;have i:=BX 0 0;have c:mD (lW (IntKind.i64.wrap (Int.ofNat (m+1) - 1))) (jA m):=yY ZD;have e:(if 2=2/\m<=m+1 then some (AV.of (.one (.g k 2 m)))else none)=some (.of (.one (.g k 2 m))):=if_pos ⟨rfl,od⟩;have F:=λo l=>LG (UO k m++[(30,.one (.d (.s 5 (ndsD [])))),(44,.one (.d (.s 5 (ndsD [])))),(49,.one (.d (.s 5 (ndsD [])))),(58,jA m),(59,.one (.g k 2 m))]) [⟨_,i⟩] hn (jX j (al a (al a (al b (al c (al e al0)))))) (pre:=sjS f k (m+1) es) (h:=o) (hc:=l);subst hf;rcases hk with rfl|rfl<;>exact F oA oA
def adZ{c:Tr->Tr->Int}{x y:Tr}{xs ys:aE}(G:Hd ⟨f,[ndA x,ndA y],.of (iA (c x y))⟩)(h:es.take (m+1)=A++[Nz (x::xs,y::ys)]) :
 (c x y≠0->Ut f k (m+1) es 1 [((0,8),.of (iA (c x y)))])/\(c x y=0->∀ex q,Ut f 3000104 (m+1+1) (A++[Nz (xs,ys)]++[Nz (argsN x,argsN y)]) ex q->Ut f k (m+1) es ex q):=by
 have⟨v,w,V,C,D,E⟩:=vI (a':=.s 5 (ndsD xs)) (b':=.s 5 (ndsD ys)) hes hA h;have v:=mR v;have w:=mR w;have N:=zJ (k:=k) hm;have R:jJ (decide (((ndsD (x::xs)).length:Int)=0)) false:=eT (xb OR);have S:jJ (decide (((ndsD (y::ys)).length:Int)=0)) false:=eT (xb OR);have P:m*2+1<=es.length*2:=od
 have Q:m*2+1+1<=(fw 2 es (m*2) [.s 5 (ndsD xs)]).length*2:=by rw[E];omega
 have H:=jX N (al v (al R (al w (al S (al v (al w (al v (al w (al P (al Q al0))))))))));have I:=JC x;have J:=JC y;have K:rowsLe ((fw 2 (fw 2 es (m*2) [.s 5 (ndsD xs)]) (m*2+1) [.s 5 (ndsD ys)]).take (m+1)++[Nz (argsN x,argsN y)]) (A++[Nz (xs,ys)]++[Nz (argsN x,argsN y)]):=by rw[C];exact rows_refl _
 have L:zV 48 (m+1) (fw 2 (fw 2 es (m*2) [.s 5 (ndsD xs)]) (m*2+1) [.s 5 (ndsD ys)]) [Nz (argsN x,argsN y)]:=iL (by rw[D];omega) oe rfl ot ov;generalize O:c x y=r at *;clear C D E h O;have⟨i,j,g,l,a⟩:=x;have⟨p,t,n,u,b⟩:=y;have T:Hints:=UO k m;refine⟨λz=>?_,λz ex q M=>?_⟩
 .have U:jJ (!decide (r=0)) true:=eT (by simp[z]);have F:=λo B=>(xQ (e:=0) (UO k m++[(30,.one (.d (.s 5 (ndsD (.nd i j g l a::xs))))),(32,fA),(37,.one (.d (.s 5 (ndsD (.nd p t n u b::ys))))),(39,fA),(63,.one (.d (.s 5 (ndsD (.nd i j g l a::xs))))),(69,.one (.d (.s 5 (ndsD (.nd p t n u b::ys))))),(77,.one (.d (.s 5 (ndsD (.nd i j g l a::xs))))),(82,.one (.d (.s 5 (ndsD (.nd p t n u b::ys))))),(93,bA true)]) [⟨_,G⟩] (jX H (al U al0)) (h:=o) (hc:=B):Ut f k (m+1) es 1 [((0,8),.of (iA r))]);subst hf;rcases hk with rfl|rfl<;>exact F oA oA
 .subst z;have F:=λo B=>LG (UO k m++[(30,.one (.d (.s 5 (ndsD (.nd i j g l a::xs))))),(32,fA),(37,.one (.d (.s 5 (ndsD (.nd p t n u b::ys))))),(39,fA),(63,.one (.d (.s 5 (ndsD (.nd i j g l a::xs))))),(69,.one (.d (.s 5 (ndsD (.nd p t n u b::ys))))),(77,.one (.d (.s 5 (ndsD (.nd i j g l a::xs))))),(82,.one (.d (.s 5 (ndsD (.nd p t n u b::ys))))),(2000104,.one (.d (.s 2 (A++[Nz (xs,ys)]++[Nz (a,b)]))))]) [⟨_,G⟩,⟨_,I⟩,⟨_,J⟩] M (jX H (al K (al L al0))) (pre:=sjS f k (m+1) es) (h:=o) (hc:=B);subst hf;rcases hk with rfl|rfl<;>exact F oA oA
end
def aaf{f:FuncId}(b:f=86){P Q:Tr->Prop}{c:Tr->Tr->Int}(n:∀x,P x->∀z∈argsN x,P z)(s:∀x,Q x->∀z∈argsN x,Q z)(l:∀x y,P x->Q y->Hd ⟨f,[ndA x,ndA y],.of (iA (c x y))⟩){xs ys:aE}(u:∀x∈xs,P x)(v:∀y∈ys,Q y)(d:sizes xs<=20000000) :
 Hd ⟨85,[CW xs,CW ys,EF 84,EF f],.of (iA (jk c xs ys))⟩:=by
 have h:=BL P Q c argsN (Cq c) uy Nz (sjP f) (λk=>k=3000018\/k=3000104) 3000104 (.inr rfl) rfl (RX c) (RU c) (RY c) (Oy c) (λR x y=>by rw[iP,jV];omega) (λR x y xs ys=>by
  have:=aem x;simp only[iP,jV,sizes];omega) NG
  (λk es hk=>.inr ⟨rfl,sj_0 b hk⟩) (λk m es A x y hk hes hA hm h t g=>.inl (adY b hk hes hA hm h t g))
  (λk m es A r hk hes hA hm h a=>a.imp (adx b hk hes hA hm h) (λa=>⟨a.1,adx b hk hes hA hm h a.2⟩))
  (λk m es A x y xs ys w B hk hes hA hm h=>by have⟨g1,g2⟩:=adZ b hk hes hA hm (l x y w B) h;exact⟨λe=>.inl (g1 e),λe r a=>a.imp (g2 e _ _) (λa=>⟨a.1,g2 e _ _ a.2⟩)⟩)
  (λp=>rfl) n s _ [(xs,ys)] 3000018 1 [Nz (xs,ys)] (jn _) (by rw[jV];simp only;omega) (.inl rfl) (by simp[Nz]) rfl rfl (by intro p i;rw[qu]at i;subst i;exact⟨u,v⟩)
 rw[RV]at h;simp only at h;generalize jk c xs ys=r at h|-;have j:=λf=>wI (S:=sjS f 3000018 1 [Nz (xs,ys)]) (q:=gF f85=gF f85) rfl (ps:=[]) al0;rcases h with h|⟨rfl,h⟩
 .have F:=λo=>(Ce (res:=.of (iA r)) func85 [(18,nilA)] [_] (by intro z d;rw[qu]at d;subst d;exact h) [] (j f) (h:=o):Hd ⟨85,[CW xs,CW ys,EF 84,EF f],.of (iA r)⟩);subst b;exact F oA
 .have F:=λo=>(Ce (res:=.of (iA 0)) func85 [(18,nilA)] [_] (by intro z d;rw[qu]at d;subst d;exact h) [] (j f) (h:=o):Hd ⟨85,[CW xs,CW ys,EF 84,EF f],.of (iA 0)⟩);subst b;exact F oA
def uK (x y:Tr):Int:=if kN x=kN y/\nN x=nN y/\pN x=pN y/\(sN x).toList=(sN y).toList then 0 else 1
def ab0(x y:Tr):Hd ⟨86,[ndA x,ndA y],.of (iA (uK x y))⟩:=by
 have⟨f,g,d,i,v⟩:=x;have⟨k,l,j,m,w⟩:=y;have e:uK (.nd f g d i v) (.nd k l j m w)=if ((!decide (f=k))||(!decide (g=l))||(!decide (d=j))||(!(i.toList==m.toList)))then 1 else 0:=by
  unfold uK kN nN pN sN
  by_cases r:f=k<;>by_cases s:g=l<;>by_cases t:d=j<;>by_cases z:i.toList=m.toList<;>simp[r,s,t,z]
 rw[e];generalize u:(!decide (f=k))=a;generalize r:(!decide (g=l))=b;generalize s:(!decide (d=j))=c;generalize t:(!(i.toList==m.toList))=n;have q:∀p∈Xk [(true,jJ (!decide (f=k)) a),(!a,jJ (!decide (g=l)) b),(!a && !b,jJ (!decide (d=j)) c),(!a && !b && !c,jJ (!(i.toList==m.toList)) n)],p:=IM (eT u) (IM (eT r) (IM (eT s) (IM (eT t) al0)));have G:=λo=>(runT (res:=.of (iA (if (a||b||c||n)then 1 else 0))) func86 [(9,bA a),(15,bA b),(22,bA c),(29,bA n)] [] q (h:=o):Hd ⟨86,[ndA (.nd f g d i v),ndA (.nd k l j m w)],.of (iA (if (a||b||c||n)then 1 else 0))⟩);clear u r s t q e;cases a<;>cases b<;>cases c<;>cases n<;>exact G oA
def Ns{xs ys:aE}(a:sizes xs<=20000000):Hd ⟨62,[CW xs,CW ys],aQ (decide (jk uK xs ys=0))⟩:=by have h:=aaf (f:=86) rfl (P:=λ_=>True) (Q:=λ_=>True) (λ_ _ _ _=>trivial) (λ_ _ _ _=>trivial) (λx y _ _=>ab0 x y) (xs:=xs) (ys:=ys) (λ_ _=>trivial) (λ_ _=>trivial) a;generalize jk uK xs ys=r at *;exact aF func62 [⟨_,h⟩]
def uL (x y:Va):Int:=if (x.k=y.k/\x.n=y.n/\x.a=y.a/\x.s.toList=y.s.toList)/\sameTs x.types y.types/\jk uK x.code y.code=0 then 0 else 1
def aad{x y:Va}(J:okV x/\x.size<=20000000)(S:okV y):Hd ⟨60,[pF x,pF y],.of (iA (uL x y))⟩:=by
 have R:=eP x;have⟨J,Q⟩:=J;have⟨i,j,g,m,K,l,f⟩:=x;have⟨t,u,r,w,L,v,q⟩:=y;have e:uL (.mk i j g m K l f) (.mk t u r w L v q)=if ((!decide (i=t))||(!decide (j=u))||(!decide (g=r))||(!(m.toList==w.toList))||(!sameTs l v)||(!decide (jk uK f q=0)))then 1 else 0:=by
  unfold uL;simp only[Va.k,Va.n,Va.a,Va.s,Va.types,Va.code]
  by_cases B:i=t<;>by_cases C:j=u<;>by_cases D:g=r<;>by_cases N:m.toList=w.toList<;>simp[B,C,D,N]
  cases sameTs l v<;>by_cases O:jk uK f q=0<;>simp[O]
 rw[e];simp only[Va.types,Va.code]at R;have I:=YZ (x:=l) (y:=v) od;have P:=Ns (xs:=f) (ys:=q) od;generalize H:(!decide (i=t))=b;generalize B:(!decide (j=u))=c;generalize C:(!decide (g=r))=d;generalize D:(!(m.toList==w.toList))=z;generalize sameTs l v=F at *;generalize decide (jk uK f q=0)=E at *;have A:∀p∈Xk [(true,jJ (!decide (i=t)) b),(!b,jJ (!decide (j=u)) c),(!b && !c,jJ (!decide (g=r)) d),(!b && !c && !d,jJ (!(m.toList==w.toList)) z)],p:=IM (eT H) (IM (eT B) (IM (eT C) (IM (eT D) al0)));have G:=λ(M:HL) o=>(runT (res:=.of (iA (if (b||c||d||z || !F || !E)then 1 else 0))) func60 [(9,bA b),(15,bA c),(22,bA d),(29,bA z)] M A (h:=o):Hd ⟨60,[pF (.mk i j g m K l f),pF (.mk t u r w L v q)],.of (iA (if (b||c||d||z || !F || !E)then 1 else 0))⟩);clear H B C D A e;cases z
 case true=>cases b<;>cases c<;>cases d<;>exact G [] oA
 cases d
 case true=>cases b<;>cases c<;>exact G [] oA
 cases c
 case true=>cases b<;>exact G [] oA
 cases b
 case true=>exact G [] oA
 cases F
 .exact G [⟨_,I⟩] oA
 .cases E<;>exact G [⟨_,I⟩,⟨_,P⟩] oA
def Kq{x:Va}(h:okV x):∀z∈x.args,okV z:=by cases x;exact okVs_at.1 h.2.1
def Te{x y:Va}(b:okV x)(c:okV y)(a:x.size<=20000000):Hd ⟨40,[pF x,pF y],aQ (decide (qg uL x y=0))⟩:=by have h:=Oh (f:=60) (.inr rfl) (P:=λx=>okV x/\x.size<=20000000) (Q:=okV) (λx h z a=>⟨Kq h.1 z a,by have:=fO a;have:=eP x;omega⟩) (λx h=>Kq h) (λx y b c=>aad b c) (x:=x) (y:=y) ⟨b,a⟩ c a;generalize qg uL x y=r at *;have⟨g,i,e,l,j,k,d⟩:=x;have⟨o,p,n,t,q,s,m⟩:=y;exact aF func40 [⟨_,h⟩]
section
variable {ok:br}{w:cg}
def VC{k n a:Int}{s:bp}{i j q:Nat}{al:ao}{ty:aw}{co:aE}(g:i=7\/al=[])(l:j=2\/ty=[])(m:q=5\/co=[])(v:cm)(h:iZ (λ_=>none) ok w (.of (.agg [.d (.v (.i k)),.d (.v (.i n)),.d (.v (.i a)),.d (.v (.string s)),.d (.s i (vasD al)),.d (.s j (tysD ty)),.d (.s q (ndsD co))])) v):iZ (λ_=>none) ok w (.of (pF (.mk k n a s al ty co))) v:=by
 have⟨x,e,o⟩:=h
 match x,o with
 | [y,z,A,B,C,D,E],⟨p,r,t,u,b,c,f,_⟩ =>
  refine⟨_,e,p,r,t,u,?_,?_,?_,trivial⟩
  .rcases g with rfl|rfl
   .exact b
   .exact gG b
  .rcases l with rfl|rfl
   .exact c
   .exact gG c
  .rcases m with rfl|rfl
   .exact f
   .exact gG f
def Pe.Holds.val{f:FuncId}{args:List A1}{k n a:Int}{s:bp}{i j q:Nat}{al:ao}{ty:aw}{co:aE}(h:Hd ⟨f,args,.of (.agg [.d (.v (.i k)),.d (.v (.i n)),.d (.v (.i a)),.d (.v (.string s)),.d (.s i (vasD al)),.d (.s j (tysD ty)),.d (.s q (ndsD co))])⟩)(b:i=7\/al=[])(c:j=2\/ty=[])(e:q=5\/co=[]):Hd ⟨f,args,.of (pF (.mk k n a s al ty co))⟩:=h.conv (λ_ _ _ h=>h) (λok w v=>VC b c e v)
end
def HZ(x:Va):Hd ⟨51,[pF x],.of (pF (fU x))⟩:=by
 have⟨d,e,c,g,a,f,b⟩:=x;rcases a with _|⟨p,l⟩
 .exact Holds.val (i:=0) (j:=0) (q:=0) (al:=[]) (ty:=[]) (co:=[]) (aF func51 []) (.inr rfl) (.inr rfl) (.inr rfl)
 .have h:jJ (decide (((vasD (p::l)).length:Int)=0)) false:=eT (xb On);have⟨n,o,m,t,r,s,k⟩:=p;exact runT func51 [(6,fA)] [] (al h al0)
def Bu(x:Va):(fU x).size<=x.size:=by
 have h:=eP x;unfold fU
 cases hA:x.args with
 | nil=>have:=qZ x;simp[zeroVa,Va.size,vsizes,tysizes,sizes];omega
 | cons p l=>rw[hA,vsizes]at h;simp only;omega
def rsS (l:ao) (j:Nat):St:=[((0,0),.of (qi l)),((0,3),.of (jA j))]
abbrev rsL (l:ao) (j:Nat) (ex:Nat) (q:St):Prop:=vO prog f33.ntmps ⟨gF f33,rsS l j,ex,q⟩
def QR{l:ao}(N:vsizes l<=20000000):∀i p,l.length<=p+1+i->rsL l (p+1) (if risesF (l.drop p)then 2 else 1) (if risesF (l.drop p)then []else [((0,2),.of fA)])
 | i,p,R=>by
  have Q:=kS l
  by_cases c:p+1<l.length
  .cases i with
   | zero=>omega
   | succ i =>
    have L:=qt (show p<l.length by omega);have M:=qt c;rw[kB (show p<l.length by omega)];have j:=kB c;have P:=QR N i (p+1) od;rw[j,risesF,<-j];have hm:=fO (yv (show p<l.length by omega));generalize l[p]=x at *;generalize l[p+1]=y at *;have f:=is_lt (a:=Int.ofNat (p+1)) (b:=((vasD l).length:Int)) On;have o:mD (lW (IntKind.i64.wrap (Int.ofNat (p+1) - 1))) (jA p):=yY ZD;have q:=PT L;have s:=PT M;have O:mD (lW (IntKind.i64.wrap (Int.ofNat (p+1)+1))) (jA (p+1+1)):=yY (zF oe ot ot);have d:=HZ x;have k:=HZ y;have m:=Tc (x:=fU x) (y:=fU y) (by have:=Bu x;omega);generalize fU x=u at *;generalize fU y=v at *;generalize gT u v=r at *;have⟨z,A,w,D,B,C,t⟩:=x;have⟨G,H,F,K,I,J,E⟩:=y;have⟨U,V,T,Y,W,X,S⟩:=u;have⟨vk,vn,vi,vz,vr,vt,Z⟩:=v
    by_cases n:r<0
    .rw[zj n,qa3];have g:jJ (decide ((0:Int)<=r)) false:=eT (xb od);exact LG [(7,bA true),(12,jA p),(13,.one (.e (vaD (.mk z A w D B C t)) 0)),(18,.one (.e (vaD (.mk G H F K I J E)) 0)),(22,fA),(9,jA (p+1+1))] [⟨_,d⟩,⟨_,k⟩,⟨_,m⟩] P (al f (al o (al q (al s (al g (al O al0))))))
    .rw[xb n,qf3];have g:jJ (decide ((0:Int)<=r)) true:=eT (zj od);exact xQ (e:=0) [(7,bA true),(12,jA p),(13,.one (.e (vaD (.mk z A w D B C t)) 0)),(18,.one (.e (vaD (.mk G H F K I J E)) 0)),(22,bA true)] [⟨_,d⟩,⟨_,k⟩,⟨_,m⟩] (al f (al o (al q (al s (al g al0)))))
  .have f:=wH (a:=Int.ofNat (p+1)) (b:=((vasD l).length:Int)) On;have e:risesF (l.drop p):=by
    have d:(l.drop p).length<=1:=ot
    match l.drop p,d with
    | [],_=>rfl
    | [_],_=>rfl
    | _::_::_,h=>simp at h
   rw[e];exact xQ (e:=1) [(7,fA)] [] (al f al0)
def aab{l:ao}(a:vsizes l<=20000000):Hd ⟨33,[qi l],aQ (risesF l)⟩:=by have c:=QR a l.length 0 od;rw[qg1]at c;generalize risesF l=b at *;have d:=wI (S:=rsS l 1) (q:=gF f33=gF f33) rfl (ps:=[]) al0;cases b<;>exact Ce func33 [] [_] (by intro z a;rw[qu]at a;subst a;exact c) [] d
def abY{l:ao}(a:vsizes l<=20000000):Hd ⟨32,[qi l],aQ (!risesF l)⟩:=by have h:=aab a;generalize risesF l=b at *;exact aF func32 [⟨_,h⟩]
def cu (M:List ao):List bd:=M.map λl=>[.s 7 (vasD l)]
def jB(M:List ao):(cu M).length=M.length:=by simp[cu]
def ixF:List ao->Nat->Int
 | [],_=>-1
 | l::M,j=>if risesF l then ixF M (j+1)else .ofNat j
def ix_all:∀(M:List ao) (j:Nat),decide (0<=ixF M j) = !M.all risesF
 | [],_=>rfl
 | l::M,j=>by
  rw[ixF,xf];cases h:risesF l
  .simp
  .rw[if_pos rfl,ix_all M (j+1)];rfl
def ixS (n:Nat) (M:List ao) (j:Nat):St:=[((0,0),.of (.one (.d (.s n (cu M))))),((0,1),.of (EF 32)),((0,7),lW (cu M).length),((0,8),.of (jA j))]
abbrev ixL (n:Nat) (M:List ao) (j:Nat) (ex:Nat) (q:St):Prop:=vO prog f49.ntmps ⟨gF f49,ixS n M j,ex,q⟩
def PO{M:List (List Va)}(g:∀l∈M,vsizes l<=20000000)(m:M.length<=50000000):∀i j,j+i=M.length->ixL 1 M j 1 [((0,4),.of (iA (ixF (M.drop j) j)))]\/ixF (M.drop j) j = -1/\ixL 1 M j 2 []
 | 0,j,n=>by have d:=wH (a:=Int.ofNat j) (b:=((cu M).length:Int)) Up;rw[qb7 od];exact .inr ⟨rfl,xQ (e:=1) [(9,fA)] [] (al d al0)⟩
 | i+1,j,n=>by
  have c:j<M.length:=od
  have p:=PO g m i (j+1) od;rw[kB c,ixF];have f:=abY (g _ (yv c));have d:=is_lt (a:=Int.ofNat j) (b:=((cu M).length:Int)) Up;have k:Bp 1 1 (cu M) j=some (.of (.one (.e [.s 7 (vasD M[j])] 0))):=by unfold Bp cu;rw[qa5,qt c];rfl
  have o:mD (lW (IntKind.i64.wrap (Int.ofNat j+1))) (jA (j+1)):=yY (zF oe ot ot);generalize M[j]=l at *;generalize risesF l=b at *;cases b
  .rw[if_neg ov];exact .inl (xQ (e:=0) [(9,bA true),(14,.one (.e [.s 7 (vasD l)] 0))] [⟨_,f⟩] (al d (al k al0)))
  .rw[if_pos rfl];have F:=λ{ex:Nat} {q:St} (h:ixL 1 M (j+1) ex q)=>(LG [(9,bA true),(14,.one (.e [.s 7 (vasD l)] 0)),(18,jA (j+1))] [⟨_,f⟩] h (al d (al k (al o al0))):ixL 1 M j ex q);exact p.imp F (λh=>⟨h.1,F h.2⟩)
def Mj{M:List (List Va)}{n:Nat}(hn:n=1\/M=[])(h:∀l∈M,vsizes l<=20000000)(f:M.length<=50000000):Hd ⟨31,[.one (.d (.s n (cu M))),EF 32],aQ (!M.all risesF)⟩:=by
 have g:Hd ⟨49,[.one (.d (.s n (cu M))),EF 32],.of (iA (ixF M 0))⟩:=by
  by_cases h0:M=[]
  .subst h0;have a:ixL n [] 0 2 []:=xQ (e:=1) [] [] (ob:=[]) al0;exact Ce func49 [] [_] (by intro z b;rw[qu]at b;subst b;exact a) [] (wI (S:=ixS n [] 0) (q:=gF f49=gF f49) rfl (ps:=[]) al0)
  .obtain rfl:n=1:=hn.resolve_right h0;have c:=wI (S:=ixS 1 M 0) (q:=gF f49=gF f49) rfl (ps:=[]) al0;have a:=PO h f M.length 0 od;rw[qg1]at a;generalize ixF M 0=r at *;rcases a with a|⟨rfl,a⟩
   .exact Ce func49 [] [_] (by intro z b;rw[qu]at b;subst b;exact a) [] c
   .exact Ce func49 [] [_] (by intro z b;rw[qu]at b;subst b;exact a) [] c
 have e:=ix_all M 0;generalize ixF M 0=r at *;rw[<-e];exact aF func31 [⟨_,g⟩]
def rV(ok:br)(w:cg):aA ok w zeroVa (bg 0 0 0 ⟨#[]⟩ none 0 0 none 0 0 none 0 0) :=
 aA.of (args:=[]) (types:=[]) (code:=[]) (V:=λ_=>.i 0) (VT:=λ_=>.i 0) (VN:=λ_=>.i 0) (yb _) ov (by constructor<;>decide) (by constructor<;>decide) (by constructor<;>decide) (aT.nil _ _ _ _) (dw.nil _ _ _ _) (cK.nil _ _ _ _)
section
open Go.ChangeShapes Go.WideShapes Go.ChangeAt Go.RowKit
def kD (B:Nat) (w:cg) (v:cm) (us:bo):Prop:=w.ownsRow B 26 1 v us.length us
def uF{w:cg}{B:Nat}{e:TypeId}{size g cap n:Nat}{xs ys:bo}(h:w.ownsRow B e size (.o g (n+1) cap) (n+1) (xs++ys))(m:xs.length=n*size):w.ownsRow B e size (.o g n cap) n xs:=by
 refine⟨m,?_⟩;rcases h.2 with⟨a,_⟩|⟨o,c,b,a,f,i,p,j,k,l⟩
 .simp at a
 .simp only[ye,qq,jb2,and_true,true_and]at a;obtain⟨rfl,rfl⟩:=a;refine .inr ⟨g,cap,b,rfl,f,i,od,j,k,?_⟩;have d:=congrArg (List.take (n*size)) l;rw[jg7,show min (n*size) ((n+1)*size)=n*size from by rw[qf7];omega]at d;rw[d,jb0 od,ub od]
def iJ{w:cg}{B:Nat}{e:TypeId}{a g cap n:Nat}{xs ys:bo}(h:w.ownsRow B e a (.o g (n+1) cap) (n+1) (xs++ys))(c:xs.length=n*a)(j:Nat)(u:cm)(b:ys[j]?=some u):w.cell? ⟨g,n*a+j,none⟩=some u:=by have k:=qd4 h (g:=g) rfl (n*a+j) u (by rw[zE od,c,show n*a+j - n*a=j from by omega];exact b);rw[gI,qb4]at k;exact k
end
def ug{d:Nat}{T:Ty}(h:j5 d T):(T.args.length:Int)=bT T.t/\∀y∈T.args,j5 (d+1) y:=by have⟨t,args⟩:=T;simp only[j5,qv,jt]at h;refine⟨h.1.2.2,λy a=>?_⟩;have:=h.2;rw[jT,ki]at this;exact this y a
def IL{ts:aw}{l:ao}{p:Ty×Va}(h:p∈ts.zip l):p.1∈ts:=(List.of_mem_zip h).1
def yh{T:Ty}{x:Va}{l:List (Ty×Va)}(w:∃d,j5 d T)(f:eX T x)(s:partsOf T x=some l):∀p∈l,∃d,j5 d p.1:=by
 have⟨d,j⟩:=w;have⟨c,b⟩:=ug j;simp only[eX,qv]at f;have⟨⟨⟨⟨⟨_,o⟩,_⟩,_⟩,i⟩,_⟩:=f;simp only[partsOf,bS,qT]at s;obtain⟨B,a,rfl⟩:=s;intro p r;have hm:=IL r;split at a
 .rename_i v;split at a
  .simp only[qq]at a;subst a;unfold eZ at i;rw[if_pos v]at i
   match A:x.types,i with
   | [y],i =>
    rw[A]at hm;simp at hm;rw[hm];exact⟨1,(dE i).1⟩
  .cases a
 .split at a
  .simp only[qq]at a;subst a;simp at hm
  .split at a
   .rename_i m;split at a
    .simp only[qq]at a;subst a;have e:=qe7 hm;rw[e];have q:T.args.length=1:=by rw[m]at c;simp[bT]at c;omega
     have⟨y,u⟩:=ja5.1 q;rw[show bB T.args 0=y from by simp[bB,u]];exact⟨d+1,b y (by rw[u];simp)⟩
    .cases a
   .split at a
    .rename_i h;split at a
     .simp only[qq]at a;subst a;have e:=qe7 hm;rw[e];refine⟨d,?_⟩;have⟨t,args⟩:=T;simp only[Ty.t]at h;subst h;simp only[j5,qv,jt,Ty.args]at j|-;refine⟨⟨j.1.1,ov,?_⟩,j.2⟩;have:=j.1.2.2;simp[bT]at this|-;exact this
     .cases a
    .split at a
     .rename_i g;split at a
      .simp only[qq]at a;subst a;simp at hm;rw[hm];have z:T.args.length=2:=by rw[g]at c;simp[bT]at c;omega
       have k:x.n=0\/x.n=1:=by unfold bQ at o;rw[g]at o;simpa using o
       rcases k with k|k
       .rw[k];have e:bB T.args ((0:Int).toNat)=T.args[0]:=by show (T.args[0]?).getD _=_;rw[qt od];rfl
        rw[e];exact⟨d+1,b _ (yv _)⟩
       .rw[k];have e:bB T.args ((1:Int).toNat)=T.args[1]:=by show (T.args[1]?).getD _=_;rw[qt od];rfl
        rw[e];exact⟨d+1,b _ (yv _)⟩
      .cases a
     .split at a
      .split at a
       .simp only[qq]at a;subst a;simp at hm
       .cases a
      .split at a
       .simp only[qq]at a;subst a;exact⟨d+1,b _ hm⟩
       .cases a
def TE{T:Ty}{x:Va}(f:∃d,j5 d T)(a:eX T x):IQ T x:=by have⟨d,e⟩:=f;refine⟨(ug e).1,λb=>?_⟩;simp only[eX,qv]at a;have c:=a.1.1.1.1.2;unfold bQ at c;rw[b]at c;simpa using c
def Ka{T:Ty}{x:Va}{l:List (Ty×Va)}(b:partsOf T x=some l):dP l=vsizes x.args/\l.length=x.args.length:=by simp only[partsOf,qT]at b;obtain⟨c,a,rfl⟩:=b;have:=rE a;exact⟨leftP_zip c x.args this.symm,ot⟩
def Rk{l:aw}(h:okTs l)(i:Nat):okT (bB l i):=by
 unfold bB
 cases e:l[i]? with
 | none=>exact⟨⟨ov,ov⟩,trivial⟩
 | some T=>exact okTs_at.1 h T (jz e)
def Kr{T:Ty}{x:Va}{l:List (Ty×Va)}(h:okT T)(f:okV x)(d:partsOf T x=some l):∀p∈l,okT p.1/\okV p.2:=by
 have c:okTs T.args:=by cases T;exact h.2
 have e:okVs x.args/\okTs x.types:=by cases x;exact⟨f.2.1,f.2.2.1⟩
 simp only[partsOf,qT]at d;obtain⟨i,a,rfl⟩:=d;rintro⟨U,y⟩ d;have⟨b,g⟩:=List.of_mem_zip d;refine⟨?_,okVs_at.1 e.1 y g⟩;unfold bS at a;simp only at a
 repeat' split at a
 all_goals first
  | (cases a;done)
  | (simp only[qq]at a
     subst a
     first
      | exact okTs_at.1 e.2 U b
      | exact okTs_at.1 c U b
      | (cases b;done)
      | (rw[qe7 b];exact Rk c 0)
      | (rw[qe7 b];exact⟨⟨ov,ov⟩,c⟩)
      | (rw[qu.1 b];exact Rk c _))
def okM (M:List ao):Prop:=∀l∈M,okVs l/\vsizes l<=20000000
def hsQ (c:Nat):List ao->St
 | []=>[((0,5),.of nilA)]
 | m::M=>[((0,5),.of (.one (.g 3000056 1 c))),((3000057,0),.kv 26 1 (cu (m::M)))]
def hsS (k l:Nat) (es:List bd) (c:Nat) (M:List ao):St:=[((0,6),.of (.one (.g k 9 l))),((k+1,0),.kv 78 9 es)]++hsQ c M
abbrev hsL (k l:Nat) (es:List bd) (c:Nat) (M:List ao) (ex:Nat) (post:St):Prop:=vO prog f22.ntmps ⟨gF f22,hsS k l es c M,ex,post⟩
def Xd{es:List bd}{C:List (Ty×Va)}{T:Ty}{x:Va}{m:Nat}(hm:C.length=m)(h:es.take (m+1)=gM (C++[(T,x)])):dY es (m*9) 9=some ((tyD T++vaD x).map .d):=by
 have b:∀p:Ty×Va,(tyD p.1++vaD p.2).length=9:=by rintro⟨⟨t,a⟩,⟨k,n,i,s,r,u,c⟩⟩;rfl
 exact (DI (A:=gM C) (by rw[nL,hm]) (λq e=>by obtain⟨p,_,rfl⟩:=kl.1 e;exact b p) (b (T,x)) (by rw[h];simp[gM])).1
def acm{k c:Nat}{es:List bd}{M:List ao}(hk:k=3000017\/k=3000059):hsL k 0 es c M 2 (hsQ c M):=by rcases hk with rfl|rfl<;>rcases M with _|⟨q,M⟩<;>exact xQ (e:=1) [] [] al0
def hsT (k m:Nat) (T:Ty) (x:Va):Hints:=[(20,bA true),(23,jA m),(26,.one (.q k (m*9))),(27,.agg ((tyD T++vaD x).map .d)),(30,.one (.g k 9 m))]
def hsO (k m:Nat) (es:List bd) (T:Ty) (x:Va):List Prop:=[mD (aQ (decide ((0:Int)<Int.ofNat (m+1)))) (bA true),mD (lW (IntKind.i64.wrap (Int.ofNat (m+1) - 1))) (jA m),(if 9=9/\m<m+1 then some (AV.of (.one (.q k (m*9))))else none)=some (.of (.one (.q k (m*9)))),(dY es (m*9) 9).bind (mkA true)=some (.of (.agg ((tyD T++vaD x).map .d))),(if 9=9/\m<=m+1 then some (AV.of (.one (.g k 9 m)))else none)=some (.of (.one (.g k 9 m)))]
def ack{k m:Nat}{es:List bd}{C:List (Ty×Va)}{T:Ty}{x:Va}(hm:C.length=m)(h:es.take (m+1)=gM (C++[(T,x)]))(a:m<=50000000):∀p∈hsO k m es T x,p :=
 al (is_lt oe) (al (yY ZD) (al (if_pos ⟨rfl,od⟩) (al (by rw[Xd hm h];rfl) (al (if_pos ⟨rfl,od⟩) al0))))
section
variable {k m c:Nat}{es:List bd}{M:List ao}{T:Ty}{x:Va}
def nth(k m:Nat):some (AV.of (.one (.g k 9 m)))=some (.of (.one (.g k 9 m)))/\([]:List bd)=[]/\true:=⟨rfl,rfl,rfl⟩
def aaC(hk:k=3000017\/k=3000059)(b:∀p∈hsO k m es T x,p)(hF:Hd ⟨29,[tyA T,pF x],aQ false⟩):hsL k (m+1) es c M 1 [((0,4),.of fA)]:=by have⟨t,a⟩:=T;have⟨i,j,g,r,l,n,f⟩:=x;have F:=λo d=>(xQ (e:=0) (hsT k m (.nd t a) (.mk i j g r l n f)) [⟨_,hF⟩] b (h:=o) (hc:=d):hsL k (m+1) es c M 1 [((0,4),.of fA)]);rcases hk with rfl|rfl<;>rcases M with _|⟨q,M⟩<;>exact F oA oA
def aaD(hk:k=3000017\/k=3000059)(d:∀p∈hsO k m es T x,p)(hF:Hd ⟨29,[tyA T,pF x],aQ true⟩)(b:Hd ⟨30,[tyA T,pF x],ofA none⟩):hsL k (m+1) es c M 1 [((0,4),.of fA)]:=by have⟨t,a⟩:=T;have⟨j,l,i,s,n,r,g⟩:=x;have F:=λo f=>(xQ (e:=0) (hsT k m (.nd t a) (.mk j l i s n r g)) [⟨_,hF⟩,⟨_,b⟩] d (h:=o) (hc:=f):hsL k (m+1) es c M 1 [((0,4),.of fA)]);rcases hk with rfl|rfl<;>rcases M with _|⟨q,M⟩<;>exact F oA oA
variable {ex:Nat}{post:St}{C:List (Ty×Va)}{p:Ty×Va}{ps:List (Ty×Va)}
def adM(hk:k=3000017\/k=3000059)(b:∀p∈hsO k m es T x,p)(hF:Hd ⟨29,[tyA T,pF x],aQ true⟩)(d:Hd ⟨30,[tyA T,pF x],ofA (some [])⟩)(e:T.t≠13)(hn:hsL k m es c M ex post):hsL k (m+1) es c M ex post:=by have⟨t,a⟩:=T;have⟨l,n,j,u,r,s,i⟩:=x;have b:=jX b (al (show jJ (decide (t=13)) false from eT (xb e)) (al (nth k m) al0));have F:=λo f=>LG (hsT k m (.nd t a) (.mk l n j u r s i)++[(50,fA),(59,.one (.g k 9 m))]) [⟨_,hF⟩,⟨_,d⟩] hn b (pre:=hsS k (m+1) es c M) (h:=o) (hc:=f);rcases hk with rfl|rfl<;>rcases M with _|⟨q,M⟩<;>exact F oA oA
def adN(hk:k=3000017\/k=3000059)(b:∀p∈hsO k m es T x,p)(hF:Hd ⟨29,[tyA T,pF x],aQ true⟩)(f:Hd ⟨30,[tyA T,pF x],ofA (some (p::ps))⟩)(g:T.t≠13)(d:rowsLe (es.take m++gM (p::ps)) (gM (C++p::ps)))(e:zV 144 m es (gM (p::ps)))(hn:hsL 3000059 (m+(gM (p::ps)).length) (gM (C++p::ps)) c M ex post):hsL k (m+1) es c M ex post:=by have⟨t,a⟩:=T;have⟨n,r,l,v,s,u,j⟩:=x;have b:=jX b (al (show jJ (decide (t=13)) false from eT (xb g)) (al d (al e al0)));have F:=λo i=>LG (hsT k m (.nd t a) (.mk n r l v s u j)++[(50,fA),(2000059,aat (C++p::ps))]) [⟨_,hF⟩,⟨_,f⟩] hn b (pre:=hsS k (m+1) es c M) (h:=o) (hc:=i);rcases hk with rfl|rfl<;>rcases M with _|⟨q,M⟩<;>exact F oA oA
def adO(hk:k=3000017\/k=3000059)(j:∀p∈hsO k m es T x,p)(hF:Hd ⟨29,[tyA T,pF x],aQ true⟩)(i:Hd ⟨30,[tyA T,pF x],ofA (some [])⟩)(l:T.t=13)(hc:c=M.length)(e:rowsLe ((cu M).take c++[[.s 7 (vasD x.args)]]) (cu (M++[x.args])))(f:zV 24 c (cu M) [[.s 7 (vasD x.args)]])(hn:hsL k m es (c+1) (M++[x.args]) ex post):hsL k (m+1) es c M ex post:=by
 have⟨t,a⟩:=T;have⟨v,w,u,z,b,y,r⟩:=x;obtain rfl:t=13:=l;have F:=λo n=>LG (hsT k m (.nd 13 a) (.mk v w u z b y r)++[(2000056,.one (.d (.s 1 (cu (M++[b]))))),(59,.one (.g k 9 m))]) [⟨_,hF⟩,⟨_,i⟩] hn (jX j (al e (al f (al (nth k m) al0)))) (pre:=hsS k (m+1) es c M) (h:=o) (hc:=n);rcases M with _|⟨q,M⟩
 .obtain rfl:c=0:=hc;rcases hk with rfl|rfl<;>exact F oA oA
 .rcases hk with rfl|rfl<;>exact F oA oA
def adP(hk:k=3000017\/k=3000059)(l:∀p∈hsO k m es T x,p)(hF:Hd ⟨29,[tyA T,pF x],aQ true⟩)(j:Hd ⟨30,[tyA T,pF x],ofA (some (p::ps))⟩)(n:T.t=13)(hc:c=M.length)(g:rowsLe ((cu M).take c++[[.s 7 (vasD x.args)]]) (cu (M++[x.args])))(i:zV 24 c (cu M) [[.s 7 (vasD x.args)]])(e:rowsLe (es.take m++gM (p::ps)) (gM (C++p::ps)))(f:zV 144 m es (gM (p::ps)))(hn:hsL 3000059 (m+(gM (p::ps)).length) (gM (C++p::ps)) (c+1) (M++[x.args]) ex post):hsL k (m+1) es c M ex post:=by
 have⟨t,a⟩:=T;have⟨w,y,v,A,b,z,u⟩:=x;obtain rfl:t=13:=n;have F:=λo r=>LG (hsT k m (.nd 13 a) (.mk w y v A b z u)++[(2000056,.one (.d (.s 1 (cu (M++[b]))))),(2000059,aat (C++p::ps))]) [⟨_,hF⟩,⟨_,j⟩] hn (jX l (al g (al i (al e (al f al0))))) (pre:=hsS k (m+1) es c M) (h:=o) (hc:=r);rcases M with _|⟨q,M⟩
 .obtain rfl:c=0:=hc;rcases hk with rfl|rfl<;>exact F oA oA
 .rcases hk with rfl|rfl<;>exact F oA oA
end
def LM (C:List (Ty×Va)):Prop:=∀p∈C,okT p.1/\okV p.2/\∃d,j5 d p.1
def HsE (b:Bool) (k l:Nat) (es:List bd) (c:Nat) (M:List ao):Prop :=
 (∃c' M',okM M'/\M'.length<=50000000/\c'=M'.length/\b=M'.all risesF/\hsL k l es c M 2 (hsQ c' M'))\/b=false/\hsL k l es c M 1 [((0,4),.of fA)]
def HsE.imp{b b':Bool}{k l j l2:Nat}{es a:List bd}{c c2:Nat}{M i:List ao}(h:HsE b k l es c M)(e:b=b')(f:∀ex post,hsL k l es c M ex post->hsL j l2 a c2 i ex post):HsE b' j l2 a c2 i:=by
 subst e;rcases h with⟨n,m,d,q,g,o,p⟩|⟨d,g⟩
 .exact .inl ⟨n,m,d,q,g,o,f _ _ p⟩
 .exact .inr ⟨d,f _ _ g⟩
def has_loop:∀(N:Nat) (C:List (Ty×Va)) (k l:Nat) (es:List bd) (c:Nat) (M:List ao),dP C<=N->(k=3000017\/k=3000059)->C.length=l->es.take l=gM C->c=M.length->LM C->okM M->dP C+M.length<=20000000->HsE (C.all lU&&M.all risesF) k l es c M
 | N, C,k,l,es,c,M,S,hk,B,hes,r,R,A,U=>by
  rcases jf2 C with rfl|⟨a,⟨T,x⟩,rfl⟩
  .obtain rfl:l=0:=B.symm;exact .inl ⟨c,M,A,od,r,oe,acm hk⟩
  rw[jf3]at *;rw[lN,DK]at S U;simp only at S U;obtain rfl:l=a.length+1:=by simp at B;omega
  have X:=NH a;have⟨E,F,V⟩:=R (T,x) oe;have o:=ack (k:=k) rfl hes od;have hF:=Tn (T:=T) (x:=x) E F od
  cases hf:eX T x with
  | false=>rw[hf]at hF;exact .inr ⟨by simp[lU,Lu,hf],aaC hk o hF⟩
  | true =>
   have g:=Vr (T:=T) (x:=x) E (TE V hf) od;rw[hf]at hF
   cases f:partsOf T x with
   | none=>rw[f]at g;exact .inr ⟨by simp[lU,Lu,hf,f],aaD hk o hF g⟩
   | some ps =>
    rw[f]at g;have⟨r1,r2⟩:=Ka f;have Z:=eP x;have Y:=NH ps;have e:lU (T,x)=(ps.all lU&&(!decide (T.t=13)||risesF x.args)):=by simp[lU,Lu,hf,f]
    have b:LM (a++ps):=λp J=>by
     rcases ka.1 J with h|h
     .exact R p (by simp[h])
     .exact⟨(Kr E F f p h).1,(Kr E F f p h).2,yh V hf f p h⟩
    have H:dP (a++ps)<N:=by rw[lN];omega
    have n:es.take a.length=gM a:=by have:=congrArg (List.take a.length) hes;rw[jg7,jc6 od]at this;rw[this];simp[gM]
    have I:a.length<=es.length:=by have:=congrArg List.length hes;rw[qc2,nL,ju]at this;simp at this;omega
    have q:T.t=13->okM (M++[x.args]):=λ_ l B=>by
     rcases ka.1 B with h|h
     .exact A l h
     .rw[qu.1 h];exact⟨by cases x;exact F.2.1,od⟩
    have P:rowsLe ((cu M).take c++[[.s 7 (vasD x.args)]]) (cu (M++[x.args])):=by rw[ub (by rw[jB];omega),show cu (M++[x.args])=cu M++[[.s 7 (vasD x.args)]] by simp[cu]];exact rows_refl _
    have Q:zV 24 c (cu M) [[.s 7 (vasD x.args)]]:=iL (by rw[jB];omega) oe rfl ot ov;have i:dP (a++ps)+(M++[x.args]).length<=20000000:=by rw[lN,ju];simp;omega
    have j:dP (a++ps)+M.length<=20000000:=by rw[lN];omega
    have W:(a++[(T,x)]).all lU=(a.all lU&&(ps.all lU&&(!decide (T.t=13)||risesF x.args))):=by rw[jc7];simp[e]
    have K:(M++[x.args]).all risesF=(M.all risesF&&risesF x.args):=by rw[jc7];simp
    have G:(a++ps).all lU=(a.all lU&&ps.all lU):=jc7;rw[W];rcases ps with _|⟨p,ps⟩
    .rw[qb0]at b H i j G
     by_cases d:T.t=13
     .refine (has_loop (N - 1) a k a.length es (c+1) (M++[x.args]) od hk rfl n ot b (q d) i).imp ?_ λex post h=>adO hk o hF g d r P Q h;rw[K,zj d];generalize a.all lU=u,M.all risesF=v,risesF x.args=z;cases u<;>cases v<;>cases z<;>rfl
     .refine (has_loop (N - 1) a k a.length es c M od hk rfl n r b A j).imp ?_ λex post h=>adM hk o hF g d h;rw[xb d];generalize a.all lU=u,M.all risesF=v;cases u<;>cases v<;>rfl
    .have L:rowsLe (es.take a.length++gM (p::ps)) (gM (a++p::ps)):=by
      rw[n,show gM (a++p::ps)=gM a++gM (p::ps) by simp[gM]];exact rows_refl _
     have O:zV 144 a.length es (gM (p::ps)):=iL I (by simp[gM]) (KA _) (by rw[nL];omega) ov;have m:(a++p::ps).length=a.length+(gM (p::ps)).length:=by rw[nL,ju]
     have w:(gM (a++p::ps)).take (a.length+(gM (p::ps)).length)=gM (a++p::ps):=ub (by rw[nL,m];exact jn _)
     by_cases d:T.t=13
     .refine (has_loop (N - 1) _ 3000059 _ _ (c+1) (M++[x.args]) od (.inr rfl) m w ot b (q d) i).imp ?_ λex post h=>adP hk o hF g d r P Q L O h;rw[G,K,zj d];generalize a.all lU=u,M.all risesF=v,risesF x.args=z,(p::ps).all lU=y;cases u<;>cases v<;>cases z<;>cases y<;>rfl
     .refine (has_loop (N - 1) _ 3000059 _ _ c M od (.inr rfl) m w r b A j).imp ?_ λex post h=>adN hk o hF g d L O h;rw[G,xb d];generalize a.all lU=u,M.all risesF=v,(p::ps).all lU=y;cases u<;>cases v<;>cases y<;>rfl
termination_by N=>N
decreasing_by all_goals omega
def SV{T:Ty}(a:okT T):Hd ⟨28,[tyA T],aQ (au T)⟩:=Cb a
def X4{T:Ty}{x:Va}(r:okT T)(b:okV x)(F:x.size<=20000000):Hd ⟨22,[tyA T,pF x],aQ (pY T x)⟩:=by
 have d:=SV r;unfold pY
 cases e:au T with
 | false =>
  rw[e]at d;have⟨t,a⟩:=T;have⟨v,w,u,A,y,z,s⟩:=x;exact aF func22 [⟨_,d⟩]
 | true =>
  rw[e]at d;have o:=has_loop x.size [(T,x)] 3000017 1 (gM [(T,x)]) 0 [] (by rw[DK];exact jn _) (.inl rfl) rfl rfl rfl (λp E=>by rw[qu.1 E];exact⟨r,b,1,(dE e).1⟩) (λl h=>by cases h) (by rw[DK];simpa using F);rw[show ([(T,x)].all lU&&([]:List ao).all risesF)=hasV x T by simp[lU]]at o;rw[qa3];have j:=wI (S:=hsS 3000017 1 (gM [(T,x)]) 0 []) (q:=gF f22=gF f22) rfl (ps:=[]) al0;rcases o with⟨c,M,f,C,g,k,m⟩|⟨f,g⟩
  .rw[k];have hK:=λ{n:Nat} D=>Mj (M:=M) (n:=n) D (λl h=>(f l h).2) C;have i:Hd ⟨22,[tyA T,pF x],aQ (!(!M.all risesF))⟩:=by
    have B:c=(cu M).length:=by rw[jB];exact g
    clear k e;have⟨t,a⟩:=T;have⟨v,w,u,A,y,z,s⟩:=x;rcases M with _|⟨q,M⟩
    .exact Ce func22 [(17,nilA)] [_] (by intro x b;rw[qu]at b;subst b;exact m) [⟨_,d⟩,⟨_,hK (n:=0) (.inr rfl)⟩] j
    .exact Ce func22 [(17,nilA)] [_] (by intro x b;rw[qu]at b;subst b;exact m) [⟨_,d⟩,⟨_,hK (n:=1) (.inl rfl)⟩] (jX j (al B al0))
   rwa [Bool.not_not]at i
  .rw[f];have⟨t,a⟩:=T;have⟨v,w,u,A,y,z,s⟩:=x;exact Ce func22 [(17,nilA)] [_] (by intro x b;rw[qu]at b;subst b;exact g) [⟨_,d⟩] j
open Go.ChangeShapes Go.WideShapes Go.ChangeAt Go.RowKit
mutual
def readT_size:∀(t:Tr) (T:Ty) (x:Va),readT t T=some x->x.size<=t.size
 | .nd k n p s d,T,x=>by
  intro h;have g:∀(a b:Int) (c:bp) (e:ao),(fM a b c e).size=vsizes e+1:=λa b c e=>by simp[fM,Va.size,tysizes,sizes]
  have i:vsizes []=0:=rfl;rw[Tr.size];rw[readT]at h;split at h
  .split at h
   .simp only[qq]at h;subst h;rw[g,i];omega
   .cases h
  .split at h
   .split at h
    .simp only[qq]at h;subst h;rw[g,i];omega
    .cases h
   .split at h
    .split at h
     .simp only[qT]at h;obtain⟨e,f,rfl⟩:=h;have:=readTs_size d _ e f;rw[g];omega
     .cases h
    .split at h
     .split at h
      .simp only[qT]at h;obtain⟨e,f,rfl⟩:=h;have:=readEs_size d _ e f;rw[g];omega
      .cases h
     .split at h
      .cases h
      .simp only[qT]at h;obtain⟨e,f,rfl⟩:=h;have:=readTs_size d _ e f;rw[g];omega
def readTs_size:∀(l:aE) (ts:aw) (xs:ao),readTs l ts=some xs->vsizes xs<=sizes l
 | [],[],xs=>by intro h;simp[readTs]at h;subst h;simp[vsizes,sizes]
 | [],_::_,xs=>by intro h;simp[readTs]at h
 | _::_,[],xs=>by intro h;simp[readTs]at h
 | t::l,T::ts,xs=>by
  intro h;rw[readTs]at h
  cases a:readT t T with
  | none=>rw[a]at h;cases h
  | some x =>
   rw[a]at h;simp only[qT]at h;obtain⟨c,b,rfl⟩:=h;have d:=readT_size t T x a;have e:=readTs_size l ts c b;rw[vsizes,sizes];omega
def readEs_size:∀(l:aE) (ts:aw) (xs:ao),readEs l ts=some xs->vsizes xs<=sizes l
 | [],ts,xs=>by intro h;simp[readEs]at h;subst h;simp[vsizes,sizes]
 | .nd k n p s a::l,ts,xs=>by
  intro h;rw[readEs]at h
  cases b:readTs a ts with
  | none=>rw[b]at h;cases h
  | some c =>
   rw[b]at h;simp only at h;split at h
   .simp only[qT]at h;obtain⟨f,d,rfl⟩:=h;have g:=readTs_size a ts c b;have i:=readEs_size l ts f d;have e:(fM 11 0 ⟨#[]⟩ c).size=vsizes c+1:=by simp[fM,Va.size,tysizes,sizes]
    rw[vsizes,sizes,e,Tr.size];omega
   .cases h
end
def jf (T:Ty) (t:Tr):Option Va:=if au T/\dS t=0 then (match readT t T with
 | none=>none
 | some x=>if pY T x then some x else none)else none
section
mutual
def first_okN:∀(t:Tr) (d:Nat),bC d t=0->okN t
 | .nd k n p s c,d,h=>by
  simp only[bC]at h;split at h
  .cases h
  .split at h
   .rename_i a;exact absurd h a
   .rename_i a;have b:Lf.fD k n p s c.length=0:=by simpa using a
    refine⟨?_,first_okNs c (d+1) h⟩;unfold Lf.fD Lf.rP Lf.gD Lf.qM at b;unfold bD maxLen
    repeat' split at b
    all_goals first
     | (cases b;done)
     | (simp_all<;>omega)
def first_okNs:∀(l:aE) (d:Nat),bG d l=0->okNs l
 | [],_,_=>trivial
 | t::l,d,h=>by
  simp only[bG]at h;split at h
  .rename_i a;exact absurd h a
  .rename_i a;exact⟨first_okN t d (by simpa using a),first_okNs l d h⟩
end
def D5{T:Ty}{t:Tr}{x:Va}(h:jf T t=some x):okV x:=by
 unfold jf at h;split at h
 .rename_i c;split at h
  .cases h
  .rename_i y a;split at h
   .cases h;exact readT_okV _ _ _ (first_okN _ _ (iV c.2).1) a
   .cases h
 .cases h
def vaZ:A1:=.agg [.d (.v (.i 0)),.d (.v (.i 0)),.d (.v (.i 0)),.d (.v (.string ⟨#[]⟩)),.d (.s 0 []),.d (.s 0 []),.d (.s 0 [])]
def anyA:A1:=.agg [.d .t,.d .t,.d .t,.d .t,.d .t,.d .t,.d .t]
def parseA:Option Va->AV
 | some x=>.rz [pF x,iA 0]
 | none=>.rz [vaZ,iA 1]
def aed{T:Ty}{t:Tr}(i:okT T)(l:okN t)(r:t.size<=4611686018427387903):Hd ⟨111,[tyA T,ndA t],parseA (jf T t)⟩:=by
 have a:=SV i;have b:=K3 l od;unfold jf
 cases j:au T with
 | false =>
  rw[j]at a;rw[if_neg oe];obtain⟨u,g⟩:=T;obtain⟨k,n,p,s,az⟩:=t;exact aF func111 [⟨_,a⟩]
 | true =>
  rw[j]at a
  by_cases h0:dS t=0
  .rw[h0]at b;rw[if_pos ⟨rfl,h0⟩];have q:=(iV h0).2;obtain⟨o,es,c⟩:=read_all _ t T 1 (jn _) od l i (dE j).1
   cases f:readT t T with
   | none =>
    rw[f]at c;obtain⟨u,g⟩:=T;obtain⟨k,n,p,s,az⟩:=t;exact aF func111 [⟨_,a⟩,⟨_,b⟩,⟨_,c⟩]
   | some x =>
    rw[f]at c;have d:=X4 (x:=x) i (readT_okV _ _ _ l f) (by have:=readT_size t T x f;omega);simp only
    cases m:pY T x with
    | false =>
     rw[m]at d;obtain⟨u,g⟩:=T;obtain⟨k,n,p,s,az⟩:=t;exact aF func111 [⟨_,a⟩,⟨_,b⟩,⟨_,c⟩,⟨_,d⟩]
    | true =>
     rw[m]at d;obtain⟨u,g⟩:=T;obtain⟨k,n,p,s,az⟩:=t;exact aF func111 [⟨_,a⟩,⟨_,b⟩,⟨_,c⟩,⟨_,d⟩]
  .rw[if_neg (λh=>h0 h.2)];generalize dS t=e at *;obtain⟨u,g⟩:=T;obtain⟨k,n,p,s,az⟩:=t;exact runT func111 [(14,bA true)] [⟨_,a⟩,⟨_,b⟩] (ob:=[jJ (!decide (e=0)) true]) (al (eT (by simpa using h0)) al0)
end
