import Derived.Test.YtnamdihclpbdfaaGreatKuZam
namespace Go.Proofs.YtnamdihclpbdfaaGreat
set_option linter.all false
open Go.Proofs.Tryz
open Pe
set_option maxRecDepth 100000
set_option maxHeartbeats 1000000
def sS (r:iF):Prop:=(∀e,r =.no e->SA e)/\∀f ts,r =.ok f ts->okTs ts
def WA{r:iF}(h:sS r):Hd ⟨99,ledA r,iH (keptF r)⟩:=by
 cases r with
 | no e =>
  have hr:=ag e;rcases h.1 e rfl with rfl|rfl|rfl|rfl
  all_goals exact aF func99 [⟨_,hr⟩]
 | ok f a =>
  have hk:=h.2 f a rfl
  by_cases b:(40:Int)<((tysD a).length:Int)
  .have g:=is_lt b;rw[eY]at b;rw[show keptF (.ok f a) =.no 7 by simp only[keptF];rw[oc]];exact runT func99 [(17,bA true)] [⟨_,ag 7⟩] (al g al0)
  .have g:=wH b;rw[eY]at b;have c:=C9 hk od
   cases d:a.all ai with
   | true =>
    rw[d]at c;rw[show keptF (.ok f a) =.ok f a by simp only[keptF];rw[oa,if_pos d]];exact runT func99 [(17,bA false)] [⟨_,c⟩] (al g al0)
   | false =>
    rw[d]at c;rw[show keptF (.ok f a) =.no 4 by simp only[keptF];rw[oa,if_neg (by simp[d])]];exact runT func99 [(17,bA false)] [⟨_,c⟩,⟨_,ag 4⟩] (al g al0)
def Oj (l:aE) (j:Nat) (f:Bool) (cur:aw):St :=
 [((0,4),.of (.one (.p 4 0))),((0,5),.of (iA 0)),((0,6),.of (.one (.p 6 0))),((0,13),.of (CW l)),((0,14),lW (ndsD l).length),((0,15),.of (jA j)),
  ((5,0),.of nilA),((5,1),.of (bA false)),((7,0),.of (dZ cur)),((7,1),.of (bA f))]
def rowE:iF->Nat
 | .no _=>1
 | .ok _ _=>2
def rowP (l:aE):iF->St
 | .no e=>[((0,4),.of (.one (.p 4 0))),((0,5),.of (iA e)),((5,0),.of nilA),((5,1),.of (bA false))]
 | .ok f ts=>Oj l l.length f ts
def LA{r:iF}(h:sS r):yI (keptF r):=by
 cases r with
 | no e=>exact⟨λc a=>h.1 c (by simpa[keptF]using a),λf b a=>by simp[keptF]at a⟩
 | ok f b =>
  refine⟨λe a=>?_,λf b a=>by have⟨_,g,d⟩:=nP a;exact⟨d,od⟩⟩;simp only[keptF]at a;split at a
  .cases a;exact .inr (.inr (.inr rfl))
  .split at a
   .cases a
   .cases a;exact .inr (.inl rfl)
def Ry{l:aE}{st:Tr->aw->iF}{L:Nat}(C:l.length<=100000)(D:40<=L)(v:∀t∈l,∀s:aw,s.all ai->s.length<=L->Hd ⟨100,[ndA t,dZ s],iH (st t s)⟩/\sS (st t s)) :
 ∀(k j:Nat) (f:Bool) (c:aw),j+k=l.length->c.all ai->c.length<=L->vO prog f72.ntmps ⟨gF f72,Oj l j f c,rowE (iG st (l.drop j) f c),rowP l (iG st (l.drop j) f c)⟩:=λk=>by
 induction k with
 | zero =>
  intro j f c E A B;have u:=wH (a:=Int.ofNat j) (b:=((ndsD l).length:Int)) OF;obtain rfl:j=l.length:=od
  rw[List.drop_length];exact xQ (e:=1) [(16,bA false)] [] (al u al0)
 | succ k I =>
  intro j f c E A B;have d:j<l.length:=od
  have u:=is_lt (a:=Int.ofNat j) (b:=((ndsD l).length:Int)) OF;have w:=WV (qu d);have H:mD (lW (IntKind.i64.wrap (Int.ofNat j+1))) (jA (j+1)):=yY (zF oe ov ov);have p:l[j]∈l:=yy d;rw[km d];generalize l[j]=t at *
  cases f with
  | true =>
   have⟨i,n0,m,n,az⟩:=t;exact xQ (e:=0) [(16,bA true),(17,.one (.e (ndD (.nd i n0 m n az)) 0))] [⟨_,ag 1⟩] (al u (al w al0))
  | false =>
   have⟨x,hK⟩:=v t p c A B;have y:=WA hK;have z:=LA hK;rw[show iG st (t::l.drop (j+1)) false c=(match keptF (st t c)with | .no e=>.no e | .ok g J=>iG st (l.drop (j+1)) g J) by simp only[iG,qd3,if_false];cases keptF (st t c)<;>rfl];have G:∀f o,keptF (st t c) =.ok f o->o.length<=40:=λf o h=>(nP h).2.1;generalize keptF (st t c)=q at *;generalize st t c=r at *;have⟨i,n0,m,n,az⟩:=t
   cases q with
   | no e =>
    have hr:=ag e;rcases z.1 e rfl with rfl|rfl|rfl|rfl
    all_goals cases r<;>exact xQ (e:=0) [(16,bA true),(17,.one (.e (ndD (.nd i n0 m n az)) 0))] [⟨_,x⟩,⟨_,y⟩,⟨_,hr⟩] (al u (al w al0))
   | ok g o =>
    have F:=I (j+1) g o od (z.2 g o rfl).1 (by have:=G g o rfl;omega);cases r<;>exact LG [(16,bA true),(17,.one (.e (ndD (.nd i n0 m n az)) 0)),(41,jA (j+1))] [⟨_,x⟩,⟨_,y⟩] F (al u (al w (al H al0)))
def X7{l:aE}{st:Tr->aw->iF}{L:Nat}(b:l.length<=100000)(d:40<=L)(h:∀t∈l,∀s:aw,s.all ai->s.length<=L->Hd ⟨100,[ndA t,dZ s],iH (st t s)⟩/\sS (st t s)){s:aw}(j:s.all ai)(i:s.length<=L) :
 Hd ⟨72,[CW l,dZ s],iH (iG st l false s)⟩:=by
 have g:=Ry b d h l.length 0 false s od j i;rw[ja4]at g;generalize iG st l false s=q at *
 cases q with
 | no e=>exact Ce func72 [] [⟨gF f72,Oj l 0 false s,1,rowP l (.no e)⟩] (by intro x c;rw[qv]at c;subst c;exact g) [] (ob:=(gF f72=gF f72)::(Oj l 0 false s).map (λx=>some x.2=some x.2)) (λp a=>by
  rcases kl.1 a with rfl|a
  .rfl
  .obtain⟨x,_,rfl⟩:=kB.1 a;rfl)
 | ok f k=>exact Ce func72 [] [⟨gF f72,Oj l 0 false s,2,rowP l (.ok f k)⟩] (by intro x c;rw[qv]at c;subst c;exact g) [] (ob:=(gF f72=gF f72)::(Oj l 0 false s).map (λx=>some x.2=some x.2)) (λp a=>by
  rcases kl.1 a with rfl|a
  .rfl
  .obtain⟨x,_,rfl⟩:=kB.1 a;rfl)
def TS{n:Tr}{s ts:aw}{f:Bool}(h:codeF n s =.ok f ts):dS n=0/\n.k0=3/\s.length<=40/\s.all ai/\iG (stepF 300) n.args0 false s =.ok f ts:=by
 unfold codeF at h
 by_cases a:dS n=0
 .by_cases b:n.k0=3
  .by_cases c:40<s.length
   .simp[a,b,c]at h
   .by_cases d:s.all ai
    .rw[if_neg (by simp[a]),if_neg (by simp[b]),if_neg c,if_pos d]at h;exact⟨a,b,od,d,h⟩
    .rw[if_neg (by simp[a]),if_neg (by simp[b]),if_neg c,if_neg d]at h;cases h
  .rw[if_neg (by simp[a]),if_pos b]at h;cases h
 .rw[if_pos a]at h;cases h
def uV{n:Tr}{s ts:aw}{f:Bool}(h:codeF n s =.ok f ts):ts.length<=40/\ts.all ai/\(f->ts=[]):=by have⟨_,_,a,b,c⟩:=TS h;exact Ec (noTys_step 300) _ _ _ a b oe c
def GG{n:Tr}(h:dS n=0):bG 2 n.args0=0/\n.size<=300:=by
 have⟨k,m,p,s,a⟩:=n;unfold dS at h
 by_cases b:bC 1 (.nd k m p s a)=0
 .rw[if_neg (by simp[b])]at h
  by_cases d:300<(Tr.nd k m p s a).size
  .rw[if_pos d]at h;cases h
  .refine⟨?_,od⟩;rw[bC,oa]at b
   by_cases c:Lf.fD k m p s a.length=0
   .rw[if_neg (by simp[c])]at b;exact b
   .rw[if_pos c]at b;exact absurd b c
 .rw[if_pos b]at h;exact absurd h b
def Zd (i:Ins):A1:=uq i.p i.n i.types i.rows i.data.k0 i.data.n0 i.data.p0 i.data.s0 i.data.args0
def readV:Option Ins->AV
 | none=>.rz [.agg [.d (.v (.i 0)),.d (.v (.i 0)),.d (.s 0 []),.d (.s 0 []),.d (.v (.i 0)),.d (.v (.i 0)),.d (.v (.i 0)),.d (.v (.string ⟨#[]⟩)),.d (.s 0 [])],bA false]
 | some i=>.rz [Zd i,bA true]
def Ed(rows:List aE):rowsD rows=rows.map λr=>[D.s 5 (ndsD r)]:=by
 induction rows with
 | nil=>rfl
 | cons r b a=>simp[rowsD,a]
def Pm{t:Tr}(a:okN t):Hd ⟨116,[ndA t],readV (iY t)⟩:=by
 have h:=abT a;rwa [show rdV (iY t)=readV (iY t) from by
  cases iY t with
  | none=>rfl
  | some i =>
   have⟨p,n,ty,rw,⟨dk,dn,dp,ds,da⟩⟩:=i;simp only[rdV,readV,Zd,uq,roD,Ed,daD];rfl]at h
def H8 (r:iF):Prop:=(∀e,r =.no e->SA e)/\∀f ts,r =.ok f ts->ts.all ai
def H8.K{r:iF}(h:H8 r):sS r:=⟨h.1,λf a e=>ay (h.2 f a e)⟩
def MB{e:Int}(h:SA e):sS (.no e):=⟨λb a=>by cases a;exact h,λf c a=>by cases a⟩
def K_fail:sS (.ok true []):=⟨λe h=>by simp at h,λf a h=>by simp only[iF.ok.injEq]at h;rw[<-h.2];trivial⟩
def K_5:sS (.no 5):=MB (.inr (.inr (.inl rfl)))
def K4{s top:aw}(a:okTs s)(b:okTs top):sS (bB s top):=⟨λe h=>by simp[bB]at h,λf c h=>by simp only[bB,iF.ok.injEq]at h;obtain⟨_,rfl⟩:=h;exact uD b a⟩
def QZ{s:aw}(h:okTs s)(k:Nat):okT (aJ s k):=by
 unfold aJ
 cases e:s[k]? with
 | none=>exact⟨⟨ot,ot⟩,trivial⟩
 | some T=>exact okTs_at.1 h T (ka e)
def NU{T:Ty}(h:okT T):okTs T.args:=by cases T;exact h.2
def Yc{c:Prop}[Decidable c]{a b:iF}(d:c->sS a)(hb:sS b):sS (if c then a else b):=by
 by_cases h:c
 .rw[if_pos h];exact d h
 .rw[if_neg h];exact hb
def Ii{st:Tr->aw->iF}(a:∀t s,s.all ai->sS (st t s)):∀(l:aE) (f:Bool) (s:aw),s.all ai->H8 (iG st l f s)
 | [],f,s,c=>⟨λe h=>by simp[iG]at h,λg b h=>by simp only[iG,iF.ok.injEq]at h;obtain⟨_,rfl⟩:=h;exact c⟩
 | t::l,f,s,c=>by
  simp only[iG];split
  .exact⟨λe h=>by cases h;exact .inl rfl,λg b h=>by cases h⟩
  .have d:=LA (a t s c)
   cases hk:keptF (st t s)with
   | no e=>exact⟨λi h=>by cases h;exact d.1 e hk,λg b h=>by cases h⟩
   | ok g b=>exact Ii a l g b (d.2 g b hk).1
section
variable {row:aE->aw->iF}(hr:∀ l s,s.all ai=true->H8 (row l s)) {i:Ins}{s:aw}
def OY{a b:iF}(c:H8 a)(hb:H8 b):H8 (meetF a b):=by
 cases a with
 | no e=>exact c
 | ok f x =>
  cases b with
  | no e=>exact hb
  | ok g y =>
   simp only[meetF];split
   .exact hb
   .split
    .exact c
    .exact⟨λe h=>by cases h;exact .inr (.inr (.inl rfl)),λf d h=>by cases h⟩
def wY(a:∀l s,s.all ai->H8 (row l s)){s x y:aw}(b:s.all ai)(c:x.all ai)(d:y.all ai):sS (iC row i s x y):=(OY (a _ _ (um c b)) (a _ _ (um d b))).K
def uS(d:∀l s,s.all ai->H8 (row l s)){x y z:aw}(g:x.all ai)(j:y.all ai)(k:okTs z):sS (dM row i x y z):=by
 have a:=OY (d (rowAt i 0) x g) (b:=bB y []) ⟨λe h=>by simp[bB]at h,λf m h=>by simp only[bB,iF.ok.injEq,qe5]at h;obtain⟨_,rfl⟩:=h;exact j⟩;unfold dM;split
 .rename_i e c;exact MB (a.1 e c)
 .exact K4 k trivial
def Tq(d:∀l s,s.all ai->H8 (row l s)){T:Ty}(c:okT T)(g:s.all ai):sS (l7 row i T s):=by
 have b:=d (rowAt i 0) s g;unfold l7;split
 .rename_i e a;exact MB (b.1 e a)
 .rename_i f h a;split
  .exact MB (.inl rfl)
  .exact K4 (ay (b.2 f h a)) ⟨c,trivial⟩
def Yb(b:∀l s,s.all ai->H8 (row l s))(g:i.types.all ai)(a:s.all ai):sS (vP row i s):=by
 have d:=ay a;have o:=ay g;have g1:∀{k:Int} {l:List Int},standF s (k::l)->ai (aJ s 0):=λh=>Lt a (by have:=stand_len h;simp at this;omega);unfold vP dG bO aP eG bP bJ dI cZ bF dO
 repeat' (apply Yc;intro c)
 all_goals first
  | exact K_5
  | exact wY b (iI a 1) (Dz (gX (g1 c.2)) 1) (iI (gX (g1 c.2)) 1)
  | exact wY b (iI a 1) rfl (gX (g1 c.2))
  | exact wY b (iI a 1) rfl rfl
  | exact uS b (um (gX (g1 c.2)) (iI a 1)) (iI a 1) (jD d 1)
  | exact uS b (iI a 1) a (jD d 1)
  | exact uS b (Dz g 1) (iI g 1) (uD ⟨⟨⟨ot,ot⟩,o⟩,trivial⟩ d)
  | exact Tq b (QZ d 0) (iI a 1)
  | exact wY b (iI a 1) (by have f:=g1 c.2;have m:=gX f;have n:=Ip c.2 0 10 rfl ot;have j:=xL f;rw[n]at j;rw[xj,xj,f,Lt m (i:=0) (by simp[bT]at j;omega)];rfl) rfl
  | exact uS b (um (by rw[xj,Kc (g1 c.2) (Ip c.2 0 13 rfl ot)];rfl) (iI a 1)) (iI a 1) (jD d 1)
  | exact K_fail
  | (cases e:eF i.p (aJ s 0).t (aJ s 1).t with
     | none=>exact K_5
     | some T=>exact K4 (jD d 2) ⟨(xZ e).1,trivial⟩)
  | (refine K4 ?_ ?_<;>repeat' first|assumption|exact trivial|exact⟨ot,ot⟩|apply jD|apply nW|apply uD|apply QZ|apply NU|(refine⟨?_,?_⟩))
def K_step:∀(N:Nat) (t:Tr) (s:aw),s.all ai->sS (stepF N t s)
 | 0,t,s,a=>MB (.inl rfl)
 | N+1,t,s,a=>by
  have hr:∀l s,s.all ai->H8 (iG (stepF N) l false s):=λl s a=>Ii (K_step N) l false s a;rw[stepF];split
  .exact (hr _ _ a).K
  .split
   .exact MB (.inl rfl)
   .rename_i i b;refine Yb hr ?_ a;unfold iY at b;split at b
    .rename_i c;exact (takesF_facts _ _ _ _ c.2.2.symm b).2.2.2.1 rfl
    .cases b
end
set_option maxHeartbeats 2000000
section
variable {N M:Nat}{n:Int}{types:aw}{rows:List aE}{dk dn dp:Int}{ds:bp}{da:aE}{row:aE->aw->iF}{s:aw}
def ym{rows:List aE}(h:rows.length=1):∃r,rows=[r]:=by
 match rows,h with
 | [r],_=>exact⟨r,rfl⟩
def yo{rows:List aE}(h:rows.length=2):∃r q,rows=[r,q]:=by
 match rows,h with
 | [r,q],_=>exact⟨r,q,rfl⟩
def sh{g:FuncId}{a:List A1}(r:iF)(h:Hd ⟨g,a,iH r⟩):Hd ⟨g,a,iH r⟩:=h
def aR{p:Int}{t:Tr}{g:FuncId}{r:iF}(j:Hd ⟨g,[uq p n types rows dk dn dp ds da,dZ s],iH r⟩)(k:Hd ⟨116,[ndA t],readV (some ⟨p,n,types,rows,.nd dk dn dp ds da⟩)⟩)(l:t.k0=2)
 (h:∀(a n0 b:Int) (c:bp) (az:aE) (d:Hd ⟨116,[ndA (.nd a n0 b c az)],readV (some ⟨p,n,types,rows,.nd dk dn dp ds da⟩)⟩) (f:Bool) (ts:aw) (i:Hd ⟨g,[uq p n types rows dk dn dp ds da,dZ s],iH (.ok f ts)⟩),a=2->Hd ⟨100,[ndA (.nd a n0 b c az),dZ s],iH (.ok f ts)⟩:=by intro a n0 b c az d f ts i hk;subst hk;exact aF func100 [⟨_,d⟩,⟨_,i⟩])
 (h':∀(a n0 b:Int) (c:bp) (az:aE) (d:Hd ⟨116,[ndA (.nd a n0 b c az)],readV (some ⟨p,n,types,rows,.nd dk dn dp ds da⟩)⟩) (e:Int) (i:Hd ⟨g,[uq p n types rows dk dn dp ds da,dZ s],iH (.no e)⟩),a=2->Hd ⟨100,[ndA (.nd a n0 b c az),dZ s],iH (.no e)⟩:=by intro a n0 b c az d e i hk;subst hk;exact aF func100 [⟨_,d⟩,⟨_,i⟩]):Hd ⟨100,[ndA t,dZ s],iH r⟩:=by
 have⟨a,n0,b,c,az⟩:=t
 cases r with
 | no e=>exact h' a n0 b c az k e j l
 | ok f ts=>exact h a n0 b c az k f ts j l
def stepL:List (Nat×Int):=[(30,40),(31,41),(32,42),(33,43),(34,44),(41,46),(42,47),(43,48),(44,49),(45,50),(46,51),(47,53),(48,54),(55,56),(56,57),(57,59),(58,61),(59,62),(60,63),(67,52),(68,55),(69,58),(70,64),(77,60),(78,65),(79,66),(80,67),(81,68),(88,69),(89,70),(90,71),(91,72),(92,93),(93,94),(94,95),(101,73),(102,74),(103,75),(104,76),(105,77),(106,78),(107,79),(114,45),(115,80),(116,81),(117,82),(118,83),(125,84),(126,85),(127,86),(128,87)]
def stepL_le:∀x∈stepL,x.2<=95:=ot
def aeK{i:Ins}{t:Tr}(c:t.k0=2)(b:VO N i)(G:N<=300)(w:iY t=some i)(y:okN t)(h:xg row i.rows M)(d:s.all ai)(j:s.length<=M):Hd ⟨100,[ndA t,dZ s],iH (vP row i s)⟩:=by
 have a:=Pm y;rw[w]at a;have g:s.length<=1000:=xo j h.top;have⟨p,n,types,rows,⟨dk,dn,dp,ds,da⟩⟩:=i;have B:=b.p40;simp only at B h
 by_cases u:95<p
 .rw[show vP row ⟨p,n,types,rows,.nd dk dn dp ds da⟩ s=dO ⟨p,n,types,rows,.nd dk dn dp ds da⟩ s by
   unfold vP;rw[if_neg ov,if_neg ov,if_neg ov,if_neg ov,if_neg ov,if_neg ov,if_neg ov,if_neg ov,if_neg ov]]
  have A:=FZ (n:=n) (types:=types) (rows:=rows) (dk:=dk) (dn:=dn) (dp:=dp) (ds:=ds) (da:=da) (s:=s) (p:=p) (.inr u);have m:∀q∈stepL.map (λx=>nq p x.2),q:=λq m=>by obtain⟨x,C,rfl⟩:=kB.1 m;exact oL (by have : x.2<=95:=stepL_le x C;omega)
  exact aR A a c
   (λD n0 E F az o f H r hk=>by subst hk;exact runT func100 (stepL.map λx=>(x.1,fA)) [⟨_,o⟩,⟨_,r⟩] m)
   (λD n0 E F az o e r hk=>by subst hk;exact runT func100 (stepL.map λx=>(x.1,fA)) [⟨_,o⟩,⟨_,r⟩] m)
 .have v:p=40\/p=41\/p=42\/p=43\/p=44\/p=45\/p=46\/p=47\/p=48\/p=49\/p=50\/p=51\/p=52\/p=53\/p=54\/p=55\/p=56\/p=57\/p=58\/p=59\/p=60\/p=61\/p=62\/p=63\/p=64\/p=65\/p=66\/p=67\/p=68\/p=69\/p=70\/p=71\/p=72\/p=73\/p=74\/p=75\/p=76\/p=77\/p=78\/p=79\/p=80\/p=81\/p=82\/p=83\/p=84\/p=85\/p=86\/p=87\/p=88\/p=89\/p=90\/p=91\/p=92\/p=93\/p=94\/p=95:=by omega
  rcases v with rfl|rfl|rfl|rfl|rfl|rfl|rfl|rfl|rfl|rfl|rfl|rfl|rfl|rfl|rfl|rfl|rfl|rfl|rfl|rfl|rfl|rfl|rfl|rfl|rfl|rfl|rfl|rfl|rfl|rfl|rfl|rfl|rfl|rfl|rfl|rfl|rfl|rfl|rfl|rfl|rfl|rfl|rfl|rfl|rfl|rfl|rfl|rfl|rfl|rfl|rfl|rfl|rfl|rfl|rfl|rfl
  .exact aR (sh (dG ⟨40,n,types,_,.nd dk dn dp ds da⟩ s) (ML d g b.gt)) a c
  .exact aR (sh (dG ⟨41,n,types,_,.nd dk dn dp ds da⟩ s) (MM b.n0 d g)) a c
  .exact aR (sh (dG ⟨42,n,types,_,.nd dk dn dp ds da⟩ s) (MN d g b.gt)) a c
  .exact aR (sh (dG ⟨43,n,types,_,.nd dk dn dp ds da⟩ s) (MO b.n0 d g)) a c
  .exact aR (sh (dG ⟨44,n,types,_,.nd dk dn dp ds da⟩ s) (MP b.n0 d g)) a c
  .exact aR (sh (cZ ⟨45,n,types,_,.nd dk dn dp ds da⟩ s) (MW d g b.gt b.nt b.Zg (by have:=b.data;simp only at this;omega))) a c
  .exact aR (sh (bO ⟨46,n,types,_,.nd dk dn dp ds da⟩ s) (MC d g b.gt)) a c
  .exact aR (sh (bO ⟨47,n,types,_,.nd dk dn dp ds da⟩ s) (ME d g b.gt)) a c
  .exact aR (sh (bO ⟨48,n,types,_,.nd dk dn dp ds da⟩ s) (MF d g b.gt)) a c
  .exact aR (sh (bO ⟨49,n,types,_,.nd dk dn dp ds da⟩ s) (MG d g b.gt)) a c
  .exact aR (sh (bO ⟨50,n,types,_,.nd dk dn dp ds da⟩ s) (MH d g b.gt b.nt)) a c
  .exact aR (sh (bO ⟨51,n,types,_,.nd dk dn dp ds da⟩ s) (MI d g b.gt b.nt)) a c
  .obtain⟨l,z,rfl⟩:=yo b.nr;exact aR (show Hd ⟨120,_,iH (eG row ⟨52,n,types,_,.nd dk dn dp ds da⟩ s)⟩ from wZ (k:=12) ot d j h) a c
  .exact aR (sh (bO ⟨53,n,types,_,.nd dk dn dp ds da⟩ s) (MJ d g b.gt)) a c
  .exact aR (sh (bO ⟨54,n,types,_,.nd dk dn dp ds da⟩ s) (MK d g b.gt b.nt)) a c
  .obtain⟨l,z,rfl⟩:=yo b.nr;exact aR (show Hd ⟨120,_,iH (eG row ⟨55,n,types,_,.nd dk dn dp ds da⟩ s)⟩ from wZ (k:=9) ot d j h) a c
  .exact aR (sh (aP ⟨56,n,types,_,.nd dk dn dp ds da⟩ s) (FP d g b.gt b.nt)) a c
  .exact aR (sh (aP ⟨57,n,types,_,.nd dk dn dp ds da⟩ s) (FQ d g b.gt)) a c
  .obtain⟨l,z,rfl⟩:=yo b.nr;exact aR (show Hd ⟨120,_,iH (eG row ⟨58,n,types,_,.nd dk dn dp ds da⟩ s)⟩ from wZ (k:=10) ot d j h) a c
  .exact aR (sh (aP ⟨59,n,types,_,.nd dk dn dp ds da⟩ s) (FR d g)) a c
  .obtain⟨l,rfl⟩:=ym b.nr;exact aR (show Hd ⟨121,_,iH (bP row ⟨60,n,types,_,.nd dk dn dp ds da⟩ s)⟩ from I5 d j h) a c
  .exact aR (sh (aP ⟨61,n,types,_,.nd dk dn dp ds da⟩ s) (FT d g b.gt b.nt)) a c
  .exact aR (sh (aP ⟨62,n,types,_,.nd dk dn dp ds da⟩ s) (FU d g b.gt)) a c
  .exact aR (sh (aP ⟨63,n,types,_,.nd dk dn dp ds da⟩ s) (FV d g b.gt)) a c
  .obtain⟨l,z,rfl⟩:=yo b.nr;exact aR (show Hd ⟨120,_,iH (eG row ⟨64,n,types,_,.nd dk dn dp ds da⟩ s)⟩ from wZ (k:=2) ot d j h) a c
  .obtain⟨l,rfl⟩:=ym b.nr;exact aR (show Hd ⟨121,_,iH (bP row ⟨65,n,types,_,.nd dk dn dp ds da⟩ s)⟩ from I6 d j h) a c
  .obtain⟨l,rfl⟩:=ym b.nr;exact aR (show Hd ⟨121,_,iH (bP row ⟨66,n,types,_,.nd dk dn dp ds da⟩ s)⟩ from I7 d j h b.gt b.nt) a c
  .exact aR (show Hd ⟨121,_,iH (bP row ⟨67,n,types,_,.nd dk dn dp ds da⟩ s)⟩ from I8 d g b.gt) a c
  .obtain⟨l,rfl⟩:=ym b.nr;exact aR (show Hd ⟨121,_,iH (bP row ⟨68,n,types,_,.nd dk dn dp ds da⟩ s)⟩ from I9 d j h) a c
  .exact aR (sh (bJ ⟨69,n,types,_,.nd dk dn dp ds da⟩ s) (xe ot d g)) a c
  .exact aR (sh (bJ ⟨70,n,types,_,.nd dk dn dp ds da⟩ s) (xe ot d g)) a c
  .exact aR (sh (bJ ⟨71,n,types,_,.nd dk dn dp ds da⟩ s) (xe ot d g)) a c
  .exact aR (sh (bJ ⟨72,n,types,_,.nd dk dn dp ds da⟩ s) (xe ot d g)) a c
  .exact aR (sh (dI ⟨73,n,types,_,.nd dk dn dp ds da⟩ s) (Pw d g b.gt)) a c
  .exact aR (sh (dI ⟨74,n,types,_,.nd dk dn dp ds da⟩ s) (Px d g b.gt)) a c
  .exact aR (sh (dI ⟨75,n,types,_,.nd dk dn dp ds da⟩ s) (Py d g b.gt)) a c
  .exact aR (sh (dI ⟨76,n,types,_,.nd dk dn dp ds da⟩ s) (Pz d g b.gt)) a c
  .exact aR (sh (dI ⟨77,n,types,_,.nd dk dn dp ds da⟩ s) (PD d g b.gt)) a c
  .exact aR (sh (dI ⟨78,n,types,_,.nd dk dn dp ds da⟩ s) (PE d g b.gt)) a c
  .exact aR (sh (dI ⟨79,n,types,_,.nd dk dn dp ds da⟩ s) (PG d g b.gt)) a c
  .exact aR (sh (cZ ⟨80,n,types,_,.nd dk dn dp ds da⟩ s) (MX d g b.gt)) a c
  .exact aR (sh (cZ ⟨81,n,types,_,.nd dk dn dp ds da⟩ s) (MZ d g b.gt)) a c
  .exact aR (sh (cZ ⟨82,n,types,_,.nd dk dn dp ds da⟩ s) (M0 d g b.gt b.nt)) a c
  .exact aR (sh (cZ ⟨83,n,types,_,.nd dk dn dp ds da⟩ s) (M3 d g)) a c
  .exact aR (sh (bF ⟨84,n,types,_,.nd dk dn dp ds da⟩ s) (F3 d g b.gt)) a c
  .exact aR (sh (bF ⟨85,n,types,_,.nd dk dn dp ds da⟩ s) (F4 d g b.gt)) a c
  .exact aR (sh (bF ⟨86,n,types,_,.nd dk dn dp ds da⟩ s) (F5 d g b.gt)) a c
  .exact aR (sh (bF ⟨87,n,types,_,.nd dk dn dp ds da⟩ s) (F6 d g b.gt)) a c
  .exact aR (sh (dO ⟨88,n,types,_,.nd dk dn dp ds da⟩ s) (MQ d g b.gt b.nt)) a c
  .exact aR (sh (dO ⟨89,n,types,_,.nd dk dn dp ds da⟩ s) (MR d g b.gt)) a c
  .exact aR (sh (dO ⟨90,n,types,_,.nd dk dn dp ds da⟩ s) (MS d g b.gt)) a c
  .exact aR (sh (dO ⟨91,n,types,_,.nd dk dn dp ds da⟩ s) (MU d g b.gt)) a c
  .exact aR (sh (dO ⟨92,n,types,_,.nd dk dn dp ds da⟩ s) (MV d g b.gt)) a c
  .exact aR (sh (bJ ⟨93,n,types,_,.nd dk dn dp ds da⟩ s) (FW d g b.gt)) a c
  .exact aR (sh (bJ ⟨94,n,types,_,.nd dk dn dp ds da⟩ s) (FX d g b.gt)) a c
  .exact aR (sh (bJ ⟨95,n,types,_,.nd dk dn dp ds da⟩ s) (FY d g b.gt)) a c
end
def Wo{N:Nat}{l:aE}{s:aw}(a:s.all ai)(b:s.length<=1001):yI (iG (stepF N) l false s) :=
 have h:=Ii (K_step N) l false s a
 ⟨h.1,λf c e=>⟨h.2 f c e,(Cc l false s b a e).1⟩⟩
def UX{t:Tr}{i:Ins}(h:iY t=some i):t.k0=2:=by
 unfold iY at h;split at h
 .rename_i a;exact a.1
 .cases h
def I1{N:Nat}(h:∀t:Tr,okN t->t.size<=N->∀s:aw,s.all ai->s.length+N<=1001->Hd ⟨100,[ndA t,dZ s],iH (stepF N t s)⟩)(i:N<=300){l:aE}(hk:okNs l)(g:∀x∈l,x.size<=N)(d:l.length<=100000){s:aw}(f:s.all ai)(hn:s.length+N<=1001) :
 Hd ⟨72,[CW l,dZ s],iH (iG (stepF N) l false s)⟩ :=
 X7 (L:=1001 - N) d od (λt b c a e=>⟨h t (okNs_at.1 hk t b) (g t b) c a od,K_step N t c a⟩) f od
def H_step:∀(N:Nat),N<=300->∀t:Tr,okN t->t.size<=N->∀s:aw,s.all ai->s.length+N<=1001->Hd ⟨100,[ndA t,dZ s],iH (stepF N t s)⟩
 | 0,_,t,_,r,_,_,_=>by have:=size_pos t;omega
 | N+1,D,t,g,r,s,p,E=>by
  have u:=H_step N od;have⟨h,v,w,y,e⟩:=t;have m:sizes e<=N:=by simp only[Tr.size]at r;omega
  have o:=cB e;rw[stepF]
  by_cases j:h=3
  .subst j;have hr:=I1 u od g.2 (λx z=>xo (og z) m) od p od;simp only[Tr.k0,Tr.args0,if_true];generalize iG (stepF N) e false s=q at *;cases q<;>exact aF func100 [⟨_,hr⟩]
  .rw[if_neg (show ¬(Tr.nd h v w y e).k0=3 from j)]
   cases a:iY (.nd h v w y e)with
   | none =>
    have n:=Pm g;rw[a]at n;exact runT func100 [(10,fA)] [⟨_,n⟩,⟨_,ag 1⟩] (al (oL j) al0)
   | some i =>
    have f:=Rm (N:=N) g od a;refine aeK (UX a) f od a g (M:=1000 - N) ⟨f.Zx,λl b A d k=>?_,λl b A d k=>Wo d od,od,λl b=>?_⟩ p od;have c:l.length<=100000:=by have:=U7 a b;simp only[Tr.args0]at this;omega
    exact I1 u od (f.Zx l b) (f.rows l b) c d od;have c:l.length<=100000:=by have:=U7 a b;simp only[Tr.args0]at this;omega
    have B:=GX (f.rows l b);have C:l.length*N<=100000*1000:=Nat.mul_le_mul c od;omega
def Ms{r:iF}(h:yI r):Hd ⟨71,ledA r,iH r⟩:=by
 cases r with
 | no e=>exact aF func71 [⟨_,E_copies0⟩]
 | ok f a =>
  have⟨b,c⟩:=h.2 f a rfl;have:=sz_len b;exact aF func71 [⟨_,U1 (s:=a) od⟩]
def Wi{a b:Int}(h:a≠b):mD (aQ (!decide (a=b))) (bA true):=by simp[mD,h,aQ,bA]
def IY{n:Tr}{s:aw}(hk:okN n)(v:n.size<=4611686018427387904)(t:okTs s):Hd ⟨49,[ndA n,dZ s],iH (codeF n s)⟩:=by
 have b:=K3 hk v;have⟨d,n0,k,m,az⟩:=n;unfold codeF
 by_cases c:dS (.nd d n0 k m az)=0
 .have j:=(GG c).2;rw[if_neg (by simp[c])];rw[c]at b
  by_cases i:d=3
  .subst i;rw[if_neg (by simp[Tr.k0])]
   by_cases f:(40:Int)<((tysD s).length:Int)
   .have h:=is_lt f;rw[eY]at f;rw[oc];exact runT func49 [(26,bA true)] [⟨_,b⟩,⟨_,ag 7⟩] (al h al0)
   .have h:=wH f;rw[eY]at f;rw[oa];have g:=C9 t od
    cases a:s.all ai with
    | false =>
     rw[a]at g;rw[if_neg oe];exact runT func49 [(26,bA false)] [⟨_,b⟩,⟨_,g⟩,⟨_,ag 5⟩] (al h al0)
    | true =>
     rw[a]at g;rw[if_pos rfl];have w:sizes az<=299:=by simp only[Tr.size]at j;omega
     have o:=cB az;have hr:=I1 (H_step 300 (jj _)) (jj _) hk.2 (λx u=>xo (og u) od) od a od;have p:=Wo (N:=300) (l:=az) a od;simp only[Tr.args0];generalize iG (stepF 300) az false s=q at *;have r:=Ms p;cases q<;>exact runT func49 [(26,bA false)] [⟨_,b⟩,⟨_,g⟩,⟨_,hr⟩,⟨_,r⟩] (al h al0)
  .rw[if_pos (show (Tr.nd d n0 k m az).k0≠3 from i)];exact runT func49 [(19,bA true)] [⟨_,b⟩,⟨_,ag 1⟩] (al (Wi i) al0)
 .rw[if_pos c];generalize dS (.nd d n0 k m az)=e at *;exact runT func49 [(11,bA true)] [⟨_,b⟩,⟨_,ag e⟩] (al (Wi c) al0)
def EO{n:Tr}{s:aw}{e:Int}(h:codeF n s =.no e):e≠0:=by
 unfold codeF at h;split at h
 .cases h;assumption
 .split at h
  .cases h;decide
  .split at h
   .cases h;decide
   .split at h
    .rename_i a;rcases (Ii (K_step 300) _ false s a).1 e h with rfl|rfl|rfl|rfl<;>decide
    .cases h;decide
def Di{n:Tr}{s:aw}{f:Bool}{ts:aw}(b:okTs s)(h:codeF n s =.ok f ts):okTs ts:=by
 unfold codeF at h;split at h
 .cases h
 .split at h
  .cases h
  .split at h
   .cases h
   .split at h
    .rename_i a;exact ay ((Ii (K_step 300) _ false s a).2 f ts h)
    .cases h
def Zm (f:Bool) (ts:aw):A1:=.agg [.d (.s 2 (tysD ts)),.d (.v (.bool f))]
def SY{f:Bool}{ts:aw}{t:Int}{l:aw}(hk:okTs ts)(c:okT (.nd t l))(a:tysizes ts<=50000000):Hd ⟨50,[Zm f ts,tyA (.nd t l)],aQ (rU f ts (.nd t l))⟩:=by
 cases f with
 | true=>exact aF func50 []
 | false =>
  match ts,hk,a with
  | [],_,_=>exact aF func50 []
  | [.nd u m],hk,a =>
   have h:=Po (U:=.nd t l) hk.1 (by simp only[tysizes]at a;omega) c;rw[show rU false [.nd u m] (.nd t l)=sameT (.nd u m) (.nd t l) by simp[rU]];generalize sameT (.nd u m) (.nd t l)=b at *;cases b<;>exact aF func50 [⟨_,h⟩]
  | .nd u m :: .nd v k::r,_,_=>exact aF func50 []
def S9{x:Va}(t:x.types.length=2)(B:okV x)(C:sizes x.code<=6000000):Hd ⟨31,[pF x],aQ (jG x)⟩:=by
 have⟨k,n,a,s,args,types,code⟩:=x;have⟨_,_,hk,z⟩:=B;simp only[Va.types,Va.code]at t C;obtain⟨i,g,r,j,rfl⟩:=Uk t;have m:=IY (n:=.nd 3 0 0 ⟨#[]⟩ code) (s:=[.nd i g]) ⟨⟨⟨ot,ot⟩,⟨ot,ot⟩,⟨ot,ot⟩,yv _⟩,z⟩ (by simp only[Tr.size];omega) ⟨hk.1,trivial⟩;have A:=KZ (l:=code) od;have o:∀e,codeF (.nd 3 0 0 ⟨#[]⟩ code) [.nd i g] =.no e->e≠0:=λe h=>EO h;have p:∀f d,codeF (.nd 3 0 0 ⟨#[]⟩ code) [.nd i g] =.ok f d->okTs d/\tysizes d<=50000000:=λf d h=>⟨Di (s:=[.nd i g]) (show okTs [.nd i g] from ⟨hk.1,trivial⟩) h,by have:=uV h;have u:=sz_len this.2.1;omega⟩
 have w:jG (.mk k n a s args [.nd i g,.nd r j] code)=(match codeF (.nd 3 0 0 ⟨#[]⟩ code) [.nd i g]with | .no _=>false | .ok f d=>rU f d (.nd r j) && !mintsTs code):=rfl;rw[w];generalize codeF (.nd 3 0 0 ⟨#[]⟩ code) [.nd i g]=q at *
 cases q with
 | no e=>exact runT func31 [(18,fA)] [⟨_,m⟩] (al (oL (o e rfl)) al0)
 | ok f d =>
  have⟨u,y⟩:=p f d rfl;have v:=SY (f:=f) u hk.2.1 y;simp only;generalize rU f d (.nd r j)=b at *;generalize mintsTs code=c at *;cases b
  .exact aF func31 [⟨_,m⟩,⟨_,v⟩]
  .cases c<;>exact aF func31 [⟨_,m⟩,⟨_,v⟩,⟨_,A⟩]
def QD(y:Va):lamsF y=((!decide (y.k=14)||jG y)&&lamsFs y.args):=by cases y;rw[lamsF];rfl
mutual
def lam2:Va->Bool
 | .mk k n a s args types code=>(!decide (k=14)||decide (types.length=2))&&lam2s args
def lam2s:ao->Bool
 | []=>true
 | x::xs=>lam2 x&&lam2s xs
end
def LC(y:Va):lam2 y=((!decide (y.k=14)||decide (y.types.length=2))&&lam2s y.args):=by cases y;rw[lam2];rfl
def lam2s_all:∀l:ao,lam2s l=l.all lam2
 | []=>rfl
 | x::l=>by rw[lam2s,lam2s_all l];rfl
def sameTs_length:∀{a b:aw},sameTs a b->a.length=b.length
 | [],[],_=>rfl
 | [],_::_,h=>by simp[sameTs]at h
 | _::_,[],h=>by simp[sameTs]at h
 | _::a,_::b,h=>by simp only[sameTs,qt]at h;simp[sameTs_length h.2]
def Ui(N:Nat):∀(x:Va) (T:Ty),x.size<=N->(∃d,bf d T)->hasV x T->lam2 x:=by
 induction N with
 | zero=>intro x T h;have:=qZ x;omega
 | succ N B =>
  intro x T F e h;have l:=e;rw[Lu]at h
  cases a:partsOf T x with
  | none=>rw[a]at h;simp at h
  | some C =>
   rw[a]at h;simp only[qt]at h;have⟨⟨f,m⟩,_⟩:=h;have b:=yh e f a;unfold partsOf at a
   cases j:bS T x with
   | none=>rw[j]at a;simp at a
   | some g =>
    rw[j]at a;simp only[qg6,qq]at a;have q:=rE j;have A:=eP x;rw[LC,lam2s_all];simp only[qt];refine⟨?_,kd.2 λy s=>?_⟩
    .have⟨d,e⟩:=l;unfold eX at f;simp only[qt,jt]at f;have⟨⟨⟨⟨⟨z,_⟩,_⟩,_⟩,n⟩,_⟩:=f
     by_cases c:x.k=14
     .have p:T.t=14:=by rw[<-z];exact c
      unfold eZ at n;rw[oa,if_pos p]at n;have D:=sameTs_length n;have o:=(ug e).1;rw[p]at o;have u:bT 14=2:=rfl;rw[u]at o;rw[xb (show x.types.length=2 by omega)];simp
     .rw[zE c];rfl
    .obtain⟨i,G,rfl⟩:=qc5 s;have w:i<g.length:=by omega
     have r:(g[i],x.args[i])∈C:=by
      rw[<-a];have : (g.zip x.args)[i]'ov=(g[i],x.args[i]):=oe
      rw[<-this];exact yy _
     have v:=kd.1 m _ r;have E:=fO s;exact B _ _ od (b _ r) v
def Ay (x:Va):Bool:=!decide (x.k=14)||jG x
def lamsFs_push:∀l:ao,lamsFs l=(l.all Ay&&(pushS l).all lamsFs)
 | []=>rfl
 | x::l=>by
  have e:lamsF x=(Ay x&&lamsFs x.args):=QD x;rw[lamsFs,lamsFs_push l,e,pushS,jc7,xj];have : lamsFs x.args=(if x.args.length=0 then []else [x.args]).all lamsFs:=by
   split
   .rename_i h;rw[jz h];rfl
   .simp
  rw[this];generalize Ay x=a,l.all Ay=b,(if x.args.length=0 then []else [x.args]).all lamsFs=c,(pushS l).all lamsFs=d;cases a<;>cases b<;>cases c<;>rfl
def okL (l:ao):Prop:=∀x∈l,okV x/\lam2 x/\x.size<=6000000
def Ym{x:Va}(h:okV x/\lam2 x/\x.size<=6000000):okL x.args:=λy a=>by have⟨c,b,d⟩:=h;have e:=fO a;have f:=eP x;rw[LC,lam2s_all,qt]at b;exact⟨okVs_at.1 (by cases x;exact c.2.1) y a,kd.1 b.2 y a,od⟩
def okL_push:∀{l:ao},okL l->∀q∈pushS l,okL q
 | [],_,q,a=>by cases a
 | x::l,h,q,a=>by
  rw[pushS]at a;rcases ki.1 a with a|a
  .split at a
   .cases a
   .rw[qv.1 a];exact Ym (h x oe)
  .exact okL_push (λy b=>h y (by simp[b])) q a
def ZN (k l:Nat) (es:List bd):St:=[((0,5),.of (.one (.g k 1 l))),((k+1,0),.kv 27 1 es)]
def ZO (k l:Nat) (es:List bd) (L:ao) (j:Nat):St:=ZN k l es++[((0,30),.of (qi L)),((0,31),lW (vasD L).length),((0,32),.of (jA j))]
abbrev fwN:St:=[((0,4),.of fA)]
abbrev fwI (p:St) (ex:Nat) (q:St):Prop:=vO prog f15.ntmps ⟨kC f15 1,p,ex,q⟩
abbrev fwO (p:St) (ex:Nat) (q:St):Prop:=vO prog f15.ntmps ⟨kC f15 0,p,ex,q⟩
section
variable {k l j:Nat}{es:List bd}{L:ao}{M:List ao}
def aaB{x:Va}{ex:Nat}{q:St}(hk:k=3000016\/k=3000052)(z:L[j]?=some x)(S:L.length<=20000000)(w:∀p∈psO l es M x.args,p)(r:okV x/\lam2 x/\x.size<=6000000) :
 (Ay x=false->fwI (ZO k l es L j) 1 fwN)/\(Ay x->fwI (if x.args.length=0 then ZO k l es L (j+1)else ZO 3000052 (l+1) (cu (M++[x.args])) L (j+1)) ex q->fwI (ZO k l es L j) ex q):=by
 have R:=(qT.1 z).1;have A:=is_lt (a:=Int.ofNat j) (b:=((vasD L).length:Int)) oX;have B:=PT z;have Q:mD (lW (IntKind.i64.wrap (Int.ofNat j+1))) (jA (j+1)):=yY (zF oe ov ov);have⟨t,i,P⟩:=r;have g:x.k=14->Hd ⟨31,[pF x],aQ (jG x)⟩:=λf=>by rw[LC,xb f,qt]at i;have:=eP x;exact S9 (by simpa using i.1) t od
 unfold Ay;generalize jG x=b at *;have⟨v,H,E,J,n,I,D⟩:=x;simp only[Va.k]at *;have F:=λ{p2:St} (h:fwI p2 ex q) (O:Hints) (K:HL) {N:List Prop} (r:∀p∈N,p) o c=>LG ([(33,bA true),(34,.one (.e (vaD (.mk v H E J n I D)) 0))]++O++[(53,jA (j+1))]) K h (al A (al B (jX r (al Q al0)))) (pre:=ZO k l es L j) (h:=o) (hc:=c)
 by_cases f:v=14
 .subst f;have g:=g rfl
  cases b with
  | false =>
   have G:=λo c=>(xQ (e:=0) [(33,bA true),(34,.one (.e (vaD (.mk 14 H E J n I D)) 0))] [⟨_,g⟩] (al A (al B al0)) (h:=o) (hc:=c):fwI (ZO k l es L j) 1 fwN);exact⟨λ_=>by rcases hk with rfl|rfl<;>exact G oA oA,λh=>by cases h⟩
  | true =>
   refine⟨λh=>(by cases h),λ_ h=>?_⟩;rcases n with _|⟨y,m⟩
   .rcases hk with rfl|rfl<;>exact F h [] [⟨_,g⟩] al0 oA oA
   .have u:=is_lt (a:=0) (b:=((vasD (y::m)).length:Int)) (by rw[qY];simp);rcases hk with rfl|rfl<;>exact F h [(47,bA true),(2000052,.one (.d (.s 1 (cu (M++[y::m])))))] [⟨_,g⟩] (al u w) oA oA
 .have C:jJ (decide (v=14)) false:=eT (zE f);refine⟨λh=>(by simp[f]at h),λ_ h=>?_⟩;rcases n with _|⟨y,m⟩
  .rcases hk with rfl|rfl<;>exact F h [(38,fA)] [] (al C al0) oA oA
  .have u:=is_lt (a:=0) (b:=((vasD (y::m)).length:Int)) (by rw[qY];simp);rcases hk with rfl|rfl<;>exact F h [(38,fA),(47,bA true),(2000052,.one (.d (.s 1 (cu (M++[y::m])))))] [] (al C (al u w)) oA oA
def XL(y:L.length<=20000000)(z:okL L):∀(i j k l:Nat) (es:List bd) (M:List ao),j+i=L.length->(k=3000016\/k=3000052)->es.take l=cu M->M.length=l->l<=es.length->l+i<=50000000 ->
 ((L.drop j).all Ay/\∃m n d,(m=3000016\/m=3000052)/\d.take n=cu (M++pushS (L.drop j))/\(M++pushS (L.drop j)).length=n/\fwI (ZO k l es L j) 4 (ZN m n d))\/((L.drop j).all Ay=false/\fwI (ZO k l es L j) 1 fwN)
 | 0,j,k,l,es,M,I,s,u,v,w,H=>by have J:=wH (a:=Int.ofNat j) (b:=((vasD L).length:Int)) oX;rw[qb6 od];refine .inl ⟨rfl,k,l,es,s,by simpa[pushS]using u,by simpa[pushS]using v,?_⟩;have F:=λo c=>(xQ (e:=3) [(33,fA)] [] (al J al0) (h:=o) (hc:=c):fwI (ZO k l es L j) 4 (ZN k l es));rcases s with rfl|rfl<;>exact F oA oA
 | i+1,j,k,l,es,M,I,s,u,v,w,H=>by
  have g:j<L.length:=od
  rw[km g,pushS];have f:=λt q=>aaB (ex:=t) (q:=q) s (qu g) y (abC (L:=L[j].args) v u w od) (z _ (yy g));generalize L[j]=x at *;rw[xj]
  cases G:Ay x with
  | false=>exact .inr ⟨rfl,(f 0 []).1 G⟩
  | true =>
   have f:=λt q=>(f t q).2 G;rw[qa7]
   by_cases E:x.args.length=0
   .have h:=XL y z i (j+1) k l es M od s u v w od;simp only[if_pos E]at f|-;rcases h with⟨p,m,n,d,A,B,C,r⟩|⟨p,r⟩
    .exact .inl ⟨p,m,n,d,A,B,C,f _ _ r⟩
    .exact .inr ⟨p,f _ _ r⟩
   .have h:=XL y z i (j+1) 3000052 (l+1) (cu (M++[x.args])) (M++[x.args]) od (.inr rfl) (ux KK) ov KK od;simp only[if_neg E]at f|-;rw[qa3]at h;rcases h with⟨p,m,n,d,A,B,C,r⟩|⟨p,r⟩
    .exact .inl ⟨p,m,n,d,A,B,C,f _ _ r⟩
    .exact .inr ⟨p,f _ _ r⟩
def fw_out:∀(N k l:Nat) (es:List bd) (M:List ao),nD M<=N->N<=20000001->(k=3000016\/k=3000052)->es.take l=cu M->M.length=l->(∀q∈M,okL q)->(M.all lamsFs/\fwO (ZN k l es) 2 [])\/(M.all lamsFs=false/\fwO (ZN k l es) 1 fwN)
 | N,k,l,es,M,J,G,hk,E,u,m=>by
  rcases jf2 M with rfl|⟨d,L,rfl⟩
  .obtain rfl:l=0:=u.symm;have F:=λo c=>(xQ (e:=1) [] [] al0 (h:=o) (hc:=c):fwO (ZN k 0 es) 2 []);exact .inl ⟨rfl,by rcases hk with rfl|rfl<;>exact F oA oA⟩
  rw[jf3]at *;rw[gQ,qH]at J;have h0:0<N:=od
  obtain rfl:l=d.length+1:=by simp at u;omega
  have Q:=ve d;have K:=kS L;have O:=wM L;have⟨v,H,I⟩:=abP (k:=k) rfl E od;have y:=λ{P:List Prop} (h:∀p∈P,p)=>wI (S:=ZO k d.length es L 0) (q:=kC f15 1=kC f15 1) rfl h;have C:(d++[L]).all lamsFs=(L.all Ay&&(d++pushS L).all lamsFs):=by rw[jc7,jc7,xj,jh5,ka1,lamsFs_push];generalize d.all lamsFs=a,L.all Ay=b,(pushS L).all lamsFs=c;cases a<;>cases b<;>cases c<;>rfl
  rw[C];rcases XL (L:=L) od (m L oe) L.length 0 k d.length es d od hk H rfl I od with⟨j,w,z,f,n,A,B,s⟩|⟨j,s⟩
  .rw[ja4]at j A B;rw[j,qa7];have hr:=fw_out (N - 1) w z f (d++pushS L) (by rw[gQ];omega) od n A B (λq g=>by
    rcases ki.1 g with g|g
    .exact m q (by simp[g])
    .exact okL_push (m L oe) q g)
   have F:=λ{ex:Nat} {q:St} (hr:fwO (ZN w z f) ex q) o c=>XQ (tdT 5 k d.length L) [_] (by intro x i;rw[qv]at i;subst i;exact s) [] hr (jX v (y al0)) (pre:=ZN k (d.length+1) es) (h:=o) (hc:=c);rcases hr with⟨t,r⟩|⟨t,r⟩
   .exact .inl ⟨t,by rcases hk with rfl|rfl<;>rcases n with rfl|rfl<;>exact F r oA oA⟩
   .exact .inr ⟨t,by rcases hk with rfl|rfl<;>rcases n with rfl|rfl<;>exact F r oA oA⟩
  .rw[ja4]at j;rw[j];have F:=λo c=>(acr (e:=0) (tdT 5 k d.length L) [_] (by intro x i;rw[qv]at i;subst i;exact s) [] (jX v (y al0)) (h:=o) (hc:=c):fwO (ZN k (d.length+1) es) 1 fwN);exact .inr ⟨rfl,by rcases hk with rfl|rfl<;>exact F oA oA⟩
termination_by N=>N
decreasing_by all_goals omega
end
def VJ{T:Ty}{x:Va}(i:okT T)(h:okV x)(k:x.size<=6000000):Hd ⟨15,[tyA T,pF x],aQ (qC T x)⟩:=by
 have f:=X4 i h od;unfold qC
 cases g:pY T x with
 | false =>
  rw[g]at f;have⟨t,a⟩:=T;have⟨o,p,n,u,r,s,m⟩:=x;exact aF func15 [⟨_,f⟩]
 | true =>
  rw[g]at f;have b:=g;unfold pY at b;rw[qt]at b;have c:=fw_out (nD [[x]]) 3000016 1 (cu [[x]]) [[x]] (jj _) (by rw[qH];simp[vsizes];omega) (.inl rfl) rfl rfl (λq j y d=>by rw[qv.1 j]at d;rw[qv.1 d];exact⟨h,Ui _ x T (jj _) ⟨1,(dE b.1).1⟩ b.2,k⟩);rw[show [[x]].all lamsFs=lamsF x by simp[lamsFs]]at c;have l:=wI (S:=ZN 3000016 1 (cu [[x]])) (q:=kC f15 0=kC f15 0) rfl (ps:=[]) al0;rw[qa7];have⟨t,a⟩:=T;rcases c with⟨e,c⟩|⟨e,c⟩<;>rw[e]
  all_goals
   clear e b g;have⟨o,p,n,u,r,s,m⟩:=x;exact Ce func15 [(16,nilA)] [_] (by intro y d;rw[qv]at d;subst d;exact c) [⟨_,f⟩] l
open Pe Go.ChangeShapes Go.WideShapes Go.ChangeAt Go.RowKit
set_option maxHeartbeats 4000000
def Jo{T:Ty}(e:okT T):Hd ⟨80,[tyA T],aQ (tT T)⟩:=by
 have b:=Cb e;unfold tT
 cases c:ai T with
 | false =>
  rw[c]at b;have⟨t,a⟩:=T;exact aF func80 [⟨_,b⟩]
 | true =>
  rw[c]at b;have d:=Jg (T:=T) (by have:=(dE c).2.1;omega);have⟨t,a⟩:=T;rw[qa7];exact aF func80 [⟨_,b⟩,⟨_,d⟩]
def Wl (S:Ty):Ty:=.nd 11 [.nd 10 [.nd 8 []],S]
def DR (P S:Ty) (n:Tr):Int:=if (tT P&&tT S)then (match codeF n [.nd 11 [P,S]]with
 | .no e=>e
 | .ok f ts=>if rU f ts (Wl S)then 0 else 5)else 5
def JB{P S:Ty}{n:Tr}(C:okT P)(m:okT S)(hn:okN n)(I:n.size<=4611686018427387904):Hd ⟨55,[tyA P,tyA S,ndA n],.of (iA (DR P S n))⟩:=by
 have c:=Jo C;have d:=Jo m;unfold DR;have i:bD 11:=⟨ot,ot⟩;have g:okTs [.nd 11 [P,S]]:=⟨⟨i,C,m,trivial⟩,trivial⟩;have H:okT (Wl S):=⟨i,⟨⟨ot,ot⟩,⟨⟨ot,ot⟩,trivial⟩,trivial⟩,m,trivial⟩;have j:=nR 11 [P,S];have y:=dA 8;have z:=nR 10 [.nd 8 []];have A:=nR 11 [.nd 10 [.nd 8 []],S];have k:=IY (n:=n) (s:=[.nd 11 [P,S]]) hn I g;have o:∀e,codeF n [.nd 11 [P,S]] =.no e->e≠0:=λe h=>EO h;have p:∀f a,codeF n [.nd 11 [P,S]] =.ok f a->okTs a/\tysizes a<=50000000:=λf a h=>⟨Di g h,by have:=uV h;have B:=sz_len this.2.1;omega⟩
 cases E:tT P with
 | false =>
  rw[E]at c;have⟨pt,pa⟩:=P;have⟨st,sa⟩:=S;have⟨u,v,w,x,r⟩:=n;rw[if_neg oe];exact aF func55 [⟨_,c⟩]
 | true =>
  rw[E]at c
  cases F:tT S with
  | false =>
   rw[F]at d;have⟨pt,pa⟩:=P;have⟨st,sa⟩:=S;have⟨u,v,w,x,r⟩:=n;rw[if_neg oe];exact aF func55 [⟨_,c⟩,⟨_,d⟩]
  | true =>
   rw[F]at d;rw[if_pos (show (true&&true) from rfl)];generalize codeF n [.nd 11 [P,S]]=q at *
   cases q with
   | no e =>
    have J:=Wi (o e rfl);have⟨pt,pa⟩:=P;have⟨st,sa⟩:=S;have⟨u,v,w,x,r⟩:=n;exact runT func55 [(28,bA true)] [⟨_,c⟩,⟨_,d⟩,⟨_,j⟩,⟨_,k⟩] (al J al0)
   | ok f a =>
    have⟨B,G⟩:=p f a rfl;have D:=SY (f:=f) (t:=11) (l:=[.nd 10 [.nd 8 []],S]) B H G;simp only;rw[show rU f a (Wl S)=rU f a (.nd 11 [.nd 10 [.nd 8 []],S]) from rfl];generalize rU f a (.nd 11 [.nd 10 [.nd 8 []],S])=b at *;have⟨pt,pa⟩:=P;have⟨st,sa⟩:=S;have⟨u,v,w,x,r⟩:=n;cases b
    .rw[if_neg oe];exact aF func55 [⟨_,c⟩,⟨_,d⟩,⟨_,j⟩,⟨_,k⟩,⟨_,y⟩,⟨_,z⟩,⟨_,A⟩,⟨_,D⟩]
    .rw[if_pos rfl];exact aF func55 [⟨_,c⟩,⟨_,d⟩,⟨_,j⟩,⟨_,k⟩,⟨_,y⟩,⟨_,z⟩,⟨_,A⟩,⟨_,D⟩]
structure JI (A:Ac):Prop where
 par:okT A.par
 oh:okT A.oh
 co:okNs A.co
 val:okV A.val
 zp:A.par.size<=3000000
 zs:A.oh.size<=3000000
 zc:sizes A.co<=3000000
 zv:A.val.size<=3000000
def lD (A:Ac):Tr:=.nd 3 0 0 ⟨#[]⟩ A.co
def kP (A:Ac):Bool:=decide (DR A.par A.oh (lD A)=0)&&qC A.oh A.val&&decide (wrap64 (vsum A.val:Nat)<=200)
def Nt{A:Ac}(h:JI A):Hd ⟨40,[UI A],aQ (kP A)⟩:=by
 have d:=JB (n:=lD A) h.par h.oh ⟨⟨⟨ot,ot⟩,⟨ot,ot⟩,⟨ot,ot⟩,yv _⟩,h.co⟩ (by have:=h.zc;simp only[lD,Tr.size];omega);have c:=VJ h.oh h.val (by have:=h.zv;omega);have f:=Nu (x:=A.val) (by have:=h.zv;omega);unfold kP;generalize DR A.par A.oh (lD A)=e at *;generalize wrap64 (vsum A.val:Nat)=z at *
 cases a:decide (e=0)with
 | false=>rw[qh1,qh1];exact runT func40 [(13,bA false)] [⟨_,d⟩] (al (eT a) al0)
 | true =>
  cases b:qC A.oh A.val with
  | false=>rw[b]at c;rw[qa7,qh1];exact runT func40 [(13,bA true)] [⟨_,d⟩,⟨_,c⟩] (al (eT a) al0)
  | true=>rw[b]at c;rw[qa7,qa7];exact runT func40 [(13,bA true)] [⟨_,d⟩,⟨_,c⟩,⟨_,f⟩] (al (eT a) al0)
def iR (A:Ac):Bool:=if A.is=0 then decide (A.ji=0)&&decide (A.cnt=0)&&CJ A else if A.is=1 then rf A.cnt&&CJ A else if A.is=2 then decide (A.cnt=0)&&kP A else false
def aah{A:Ac}(h:JI A):Hd ⟨27,[UI A],aQ (iR A)⟩:=by
 have k:=abV (A:=A) (by have:=h.zp;omega) (by have:=h.zs;omega) h.val (by have:=h.zv;omega);have l:=Nt h;have i:=aa7 A.cnt;unfold iR;generalize CJ A=m at *;generalize kP A=n at *
 by_cases e:A.is=0
 .rw[if_pos e];have b:jJ (decide (A.is=0)) true:=eT (xb e)
  cases a:decide (A.ji=0)with
  | false=>rw[qh1,qh1];exact runT func27 [(6,bA true),(9,bA false)] [] (al b (al (eT a) al0))
  | true =>
   cases d:decide (A.cnt=0)with
   | false=>rw[qa7,qh1];exact runT func27 [(6,bA true),(9,bA true),(13,bA false)] [] (al b (al (eT a) (al (eT d) al0)))
   | true=>rw[qa7,qa7];exact runT func27 [(6,bA true),(9,bA true),(13,bA true)] [⟨_,k⟩] (al b (al (eT a) (al (eT d) al0)))
 rw[if_neg e];have b:jJ (decide (A.is=0)) false:=eT (zE e)
 by_cases f:A.is=1
 .rw[if_pos f];have c:jJ (decide (A.is=1)) true:=eT (xb f)
  cases a:rf A.cnt with
  | false=>rw[a]at i;rw[qh1];exact runT func27 [(6,bA false),(20,bA true)] [⟨_,i⟩] (al b (al c al0))
  | true=>rw[a]at i;rw[qa7];exact runT func27 [(6,bA false),(20,bA true)] [⟨_,i⟩,⟨_,k⟩] (al b (al c al0))
 rw[if_neg f];have c:jJ (decide (A.is=1)) false:=eT (zE f)
 by_cases g:A.is=2
 .rw[if_pos g];have j:jJ (decide (A.is=2)) true:=eT (xb g)
  cases a:decide (A.cnt=0)with
  | false=>rw[qh1];exact runT func27 [(6,bA false),(20,bA false),(29,bA true),(32,bA false)] [] (al b (al c (al j (al (eT a) al0))))
  | true=>rw[qa7];exact runT func27 [(6,bA false),(20,bA false),(29,bA true),(32,bA true)] [⟨_,l⟩] (al b (al c (al j (al (eT a) al0))))
 rw[if_neg g];have j:jJ (decide (A.is=2)) false:=eT (zE g);exact runT func27 [(6,bA false),(20,bA false),(29,bA false)] [] (al b (al c (al j al0)))
def ZK (L:Lg):Nat->Nat->Bool
 | 0,_=>true
 | d+1,j=>(decide ((L j).is=1)==decide (j<4))&&iR (L j)&&ZK L d (j+1)
def yl (L:Lg) (f:Int):Bool:=zo L f&&ZK L 12 0
abbrev glL (S:St) (ex:Nat) (q:St):Prop:=vO prog f13.ntmps ⟨gF f13,S,ex,q⟩
def glS (L:Lg) (j:Nat):St:=[((0,9),.of (.agg (asX L))),((0,10),.of (jA j))]
def abx{L:Lg}(h:∀i,i<12->JI (L i)):∀(d j:Nat),j+d=12->(ZK L d j->glL (glS L j) 2 [])/\(ZK L d j=false->glL (glS L j) 1 [((0,2),aQ false)])
 | 0,j,e=>by
  have : j=12:=od
  subst this;exact⟨λ_=>xQ (e:=1) [] [] al0,λh=>by simp[ZK]at h⟩
 | d+1,j,e=>by
  have g:=abx h d (j+1) od;have hW:=aah (h j od);simp only[ZK];generalize f:decide ((L j).is=1)=c;have b:jJ (decide ((L j).is=1)) c:=eT f;clear f
  cases a:c==decide (j<4)with
  | false =>
   refine⟨λh=>by simp at h,λ_=>?_⟩;clear g hW;cases c
   .rcases bM (show j<12 by omega)with rfl|rfl|rfl|rfl|rfl|rfl|rfl|rfl|rfl|rfl|rfl|rfl
    all_goals first|exact absurd a ot|exact xQ (e:=0) [(16,bA false)] [] (al b al0)
   .rcases bM (show j<12 by omega)with rfl|rfl|rfl|rfl|rfl|rfl|rfl|rfl|rfl|rfl|rfl|rfl
    all_goals first|exact absurd a ot|exact xQ (e:=0) [(16,bA true)] [] (al b al0)
  | true =>
   rw[qa7]
   cases k:iR (L j)with
   | false =>
    rw[k]at hW;refine⟨λh=>by simp at h,λ_=>?_⟩;clear g;cases c
    .rcases bM (show j<12 by omega)with rfl|rfl|rfl|rfl|rfl|rfl|rfl|rfl|rfl|rfl|rfl|rfl
     all_goals first|exact absurd a ot|exact xQ (e:=0) [(16,bA false)] [⟨_,hW⟩] (al b al0)
    .rcases bM (show j<12 by omega)with rfl|rfl|rfl|rfl|rfl|rfl|rfl|rfl|rfl|rfl|rfl|rfl
     all_goals first|exact absurd a ot|exact xQ (e:=0) [(16,bA true)] [⟨_,hW⟩] (al b al0)
   | true =>
    rw[k]at hW;rw[qa7];have F:∀{ex:Nat} {q:St},glL (glS L (j+1)) ex q->glL (glS L j) ex q:=λh=>by
     clear g;cases c
     .rcases bM (show j<12 by omega)with rfl|rfl|rfl|rfl|rfl|rfl|rfl|rfl|rfl|rfl|rfl|rfl
      all_goals first|exact absurd a ot|exact LG [(16,bA false)] [⟨_,hW⟩] h (al b al0)
     .rcases bM (show j<12 by omega)with rfl|rfl|rfl|rfl|rfl|rfl|rfl|rfl|rfl|rfl|rfl|rfl
      all_goals first|exact absurd a ot|exact LG [(16,bA true)] [⟨_,hW⟩] h (al b al0)
    exact⟨λh=>F (g.1 h),λh=>F (g.2 h)⟩
def Oc{L:Lg}{f:Int}(h:∀i,i<12->JI (L i)):Hd ⟨13,[lC L f],aQ (yl L f)⟩:=by
 have a:=Rx L f;unfold yl
 cases c:zo L f with
 | false=>rw[c]at a;exact aF func13 [⟨_,a⟩]
 | true =>
  rw[c]at a;rw[qa7];have⟨g,j⟩:=abx h 12 0 rfl;have e:=wI (S:=glS L 0) (q:=gF f13=gF f13) rfl (ps:=[]) al0
  cases d:ZK L 12 0 with
  | false=>exact Ce func13 [] [_] (λx b=>by rw[qv]at b;subst b;exact j d) [⟨_,a⟩] e
  | true=>exact Ce func13 [] [_] (λx b=>by rw[qv]at b;subst b;exact g d) [⟨_,a⟩] e
set_option maxHeartbeats 40000000
def gY (L:Lg) (i:Nat) (v:Int):Lg:=λj=>if j=i then { L j with ji:=v } else L j
def mV (L:Lg) (i j:Nat) (n:Int):Lg:=gY (gY L i ((L i).ji - n)) j ((gY L i ((L i).ji - n) j).ji+n)
def acu (L:Lg) (i j:Nat) (n:Int):Lg:=gY (gY L i (IntKind.i64.wrap ((L i).ji - n))) j (IntKind.i64.wrap ((gY L i (IntKind.i64.wrap ((L i).ji - n)) j).ji+n))
def moveF (L:Lg) (fr dn n:Int):Lg×Int :=
 if (ou L fr&&ou L dn)then (if rf n then (if (L fr.toNat).ji<n then (L,8)else (mV L fr.toNat dn.toNat n,0))else (L,2))else (L,6)
def u6{L:Lg}{n:Int}(h:ou L n):0<=n/\n<12:=by simp only[ou,qt,jt]at h;exact h.1
def UC (L:Lg) (f dn n:Int) (i:Nat):Prop:=Hd ⟨155,[lC L f,jA i],aQ true⟩->Hd ⟨155,[lC L f,iA dn],aQ true⟩->Hd ⟨39,[iA n],aQ true⟩->0<=dn->dn<12->¬(L i).ji<n->Hd ⟨128,[lC L f,jA i,iA dn,iA n],.rz [lC (acu L i dn.toNat n) f,iA 0]⟩
section
variable {L:Lg}{f dn n:Int}
def mv_0:UC L f dn n 0:=λe g d a b c=>by rcases twelve a b with rfl|rfl|rfl|rfl|rfl|rfl|rfl|rfl|rfl|rfl|rfl|rfl<;>exact runT func128 [(35,bA false)] [⟨_,e⟩,⟨_,g⟩,⟨_,d⟩] (al (wH c) al0)
def mv_1:UC L f dn n 1:=λe g d a b c=>by rcases twelve a b with rfl|rfl|rfl|rfl|rfl|rfl|rfl|rfl|rfl|rfl|rfl|rfl<;>exact runT func128 [(35,bA false)] [⟨_,e⟩,⟨_,g⟩,⟨_,d⟩] (al (wH c) al0)
def mv_2:UC L f dn n 2:=λe g d a b c=>by rcases twelve a b with rfl|rfl|rfl|rfl|rfl|rfl|rfl|rfl|rfl|rfl|rfl|rfl<;>exact runT func128 [(35,bA false)] [⟨_,e⟩,⟨_,g⟩,⟨_,d⟩] (al (wH c) al0)
def mv_3:UC L f dn n 3:=λe g d a b c=>by rcases twelve a b with rfl|rfl|rfl|rfl|rfl|rfl|rfl|rfl|rfl|rfl|rfl|rfl<;>exact runT func128 [(35,bA false)] [⟨_,e⟩,⟨_,g⟩,⟨_,d⟩] (al (wH c) al0)
def mv_4:UC L f dn n 4:=λe g d a b c=>by rcases twelve a b with rfl|rfl|rfl|rfl|rfl|rfl|rfl|rfl|rfl|rfl|rfl|rfl<;>exact runT func128 [(35,bA false)] [⟨_,e⟩,⟨_,g⟩,⟨_,d⟩] (al (wH c) al0)
def mv_5:UC L f dn n 5:=λe g d a b c=>by rcases twelve a b with rfl|rfl|rfl|rfl|rfl|rfl|rfl|rfl|rfl|rfl|rfl|rfl<;>exact runT func128 [(35,bA false)] [⟨_,e⟩,⟨_,g⟩,⟨_,d⟩] (al (wH c) al0)
def mv_6:UC L f dn n 6:=λe g d a b c=>by rcases twelve a b with rfl|rfl|rfl|rfl|rfl|rfl|rfl|rfl|rfl|rfl|rfl|rfl<;>exact runT func128 [(35,bA false)] [⟨_,e⟩,⟨_,g⟩,⟨_,d⟩] (al (wH c) al0)
def mv_7:UC L f dn n 7:=λe g d a b c=>by rcases twelve a b with rfl|rfl|rfl|rfl|rfl|rfl|rfl|rfl|rfl|rfl|rfl|rfl<;>exact runT func128 [(35,bA false)] [⟨_,e⟩,⟨_,g⟩,⟨_,d⟩] (al (wH c) al0)
def mv_8:UC L f dn n 8:=λe g d a b c=>by rcases twelve a b with rfl|rfl|rfl|rfl|rfl|rfl|rfl|rfl|rfl|rfl|rfl|rfl<;>exact runT func128 [(35,bA false)] [⟨_,e⟩,⟨_,g⟩,⟨_,d⟩] (al (wH c) al0)
def mv_9:UC L f dn n 9:=λe g d a b c=>by rcases twelve a b with rfl|rfl|rfl|rfl|rfl|rfl|rfl|rfl|rfl|rfl|rfl|rfl<;>exact runT func128 [(35,bA false)] [⟨_,e⟩,⟨_,g⟩,⟨_,d⟩] (al (wH c) al0)
def mv_10:UC L f dn n 10:=λe g d a b c=>by rcases twelve a b with rfl|rfl|rfl|rfl|rfl|rfl|rfl|rfl|rfl|rfl|rfl|rfl<;>exact runT func128 [(35,bA false)] [⟨_,e⟩,⟨_,g⟩,⟨_,d⟩] (al (wH c) al0)
def mv_11:UC L f dn n 11:=λe g d a b c=>by rcases twelve a b with rfl|rfl|rfl|rfl|rfl|rfl|rfl|rfl|rfl|rfl|rfl|rfl<;>exact runT func128 [(35,bA false)] [⟨_,e⟩,⟨_,g⟩,⟨_,d⟩] (al (wH c) al0)
end
def Vq{L:Lg}{f fr dn n:Int}(p:qX L):Hd ⟨128,[lC L f,iA fr,iA dn,iA n],.rz [lC (moveF L fr dn n).1 f,iA (moveF L fr dn n).2]⟩:=by
 have d:=aa7 n;have b:=U8 L f fr;have c:=U8 L f dn;unfold moveF
 cases j:ou L fr with
 | false=>rw[j]at b;rw[if_neg oe];exact aF func128 [⟨_,b⟩]
 | true =>
  rw[j]at b
  cases k:ou L dn with
  | false=>rw[k]at c;rw[if_neg oe];exact aF func128 [⟨_,b⟩,⟨_,c⟩]
  | true =>
   rw[k]at c;rw[if_pos (show (true&&true) from rfl)]
   cases l:rf n with
   | false=>rw[l]at d;rw[if_neg oe];exact aF func128 [⟨_,b⟩,⟨_,c⟩,⟨_,d⟩]
   | true =>
    rw[l]at d;rw[if_pos rfl];have⟨m,o⟩:=u6 j;have⟨h,i⟩:=u6 k
    by_cases g:(L fr.toNat).ji<n
    .rw[if_pos g];rcases twelve m o with rfl|rfl|rfl|rfl|rfl|rfl|rfl|rfl|rfl|rfl|rfl|rfl
     all_goals exact runT func128 [(35,bA true)] [⟨_,b⟩,⟨_,c⟩,⟨_,d⟩] (al (is_lt g) al0)
    .rw[if_neg g];have s:=p fr.toNat od;have q:=p dn.toNat od;simp only[rf,jt]at l;have e:mV L fr.toNat dn.toNat n=acu L fr.toNat dn.toNat n:=by
      unfold mV acu;have r:IntKind.i64.wrap ((L fr.toNat).ji - n)=(L fr.toNat).ji - n:=zF rfl od od;rw[r];have : 0<=(gY L fr.toNat ((L fr.toNat).ji - n) dn.toNat).ji/\(gY L fr.toNat ((L fr.toNat).ji - n) dn.toNat).ji<=4000000:=by
       unfold gY;split
       .simp only;omega
       .exact q
      rw[zF (a:=(gY L fr.toNat ((L fr.toNat).ji - n) dn.toNat).ji+n) rfl od od]
     rw[e];clear e;rcases twelve m o with rfl|rfl|rfl|rfl|rfl|rfl|rfl|rfl|rfl|rfl|rfl|rfl
     .exact mv_0 b c d h i g
     .exact mv_1 b c d h i g
     .exact mv_2 b c d h i g
     .exact mv_3 b c d h i g
     .exact mv_4 b c d h i g
     .exact mv_5 b c d h i g
     .exact mv_6 b c d h i g
     .exact mv_7 b c d h i g
     .exact mv_8 b c d h i g
     .exact mv_9 b c d h i g
     .exact mv_10 b c d h i g
     .exact mv_11 b c d h i g
section
variable {L:Lg}{f s g d p m:Int}{md:Md}
abbrev frL (β:Nat->Option Nat) (S:St) (ex:Nat) (q:St):Prop:=@vO (qh β) prog f133.ntmps ⟨gF f133,S,ex,q⟩
def frS (L:Lg) (f s g d p m:Int) (md:Md) (j:Nat):St:=[((0,0),.of (wP 0)),((0,3),.of (jA j))]++WE 818800 3900070 L f s g d p m md
def frQ (L:Lg) (f s g d p m:Int) (md:Md) (j:Nat):St:=((0,3),.of (jA j))::WE 818800 3900070 L f s g d p m md
def abw{β:Nat->Option Nat} : ∀(n j:Nat),j+n=12->frL β (frS L f s g d p m md j) 2 (frQ L f s g d p m md (ib L n j))
 | 0,j,e=>by
  obtain rfl:j=12:=od
  cases md<;>exact fF (e:=1) [] [] al0
 | n+1,j,e=>by
  have b:=abw (β:=β) n (j+1) od;simp only[ib]
  by_cases h:(L j).is=0
  .rw[if_pos h];have a:jJ (!decide ((L j).is=0)) false:=eT (by simp[h]);clear b h;rcases bM (show j<12 by omega)with rfl|rfl|rfl|rfl|rfl|rfl|rfl|rfl|rfl|rfl|rfl|rfl
   all_goals (cases md<;>exact fF (e:=1) [(14,bA false)] [] (al a al0))
  .rw[if_neg h];have a:jJ (!decide ((L j).is=0)) true:=eT (by simp[h]);clear h;generalize ib L n (j+1)=r at b|-;rcases bM (show j<12 by omega)with rfl|rfl|rfl|rfl|rfl|rfl|rfl|rfl|rfl|rfl|rfl|rfl
   all_goals (cases md<;>exact jC [(14,bA true)] [] b (al a al0))
def H_free:HX 133 [wP 0] (.of (jA (ib L 12 0))) (dW 2900070 L f s g d p m md) (dW 2900170 L f s g d p m md):=by
 have b:=λβ=>abw (L:=L) (f:=f) (s:=s) (g:=g) (d:=d) (p:=p) (m:=m) (md:=md) (β:=β) 12 0 rfl;generalize ib L 12 0=r at b|-
 cases md with
 | no =>
  have c:=wI (S:=frS L f s g d p m .no 0) (q:=gF f133=gF f133) rfl (ps:=[]) al0;exact HX.post (res:=.of (jA r)) (H':=dW 3900070 L f s g d p m .no) (bH func133 [] [_] [] (λβ x a=>by rw[qv]at a;subst a;exact b β) c) 3900070 2900170
 | ls j es =>
  have c:=wI (S:=frS L f s g d p m (.ls j es) 0) (q:=gF f133=gF f133) rfl (ps:=[]) al0;exact HX.post (res:=.of (jA r)) (H':=dW 3900070 L f s g d p m (.ls j es)) (bH func133 [] [_] [] (λβ x a=>by rw[qv]at a;subst a;exact b β) c) 3900070 2900170
def unA:A1:=.agg [.d (.v (.i 1)),.d (.s 0 [])]
def ZI{β:Nat->Option Nat}{ok:br}{w:cg}{v:cm}(h:iZ β ok w (.of unA) v):iZ β ok w (.of (tyA (.nd 1 []))) v:=by
 have⟨f,e,h⟩:=h
 match f,h with
 | [a,b],⟨c,d,_⟩=>exact⟨_,e,c,gG d,trivial⟩
def aa5{o:Nat}{t:Int}{a:aw}(h:HX 130 [wP o] (.of (tyA (.nd t a))) (dW 2900070 L f s g d p m md) (dW 2900070 L f s g d p m md)):HX 130 [wP o] (.of (tyA (.nd t a))) (dW 2900070 L f s g d p m md) (dW 2900170 L f s g d p m md):=by
 cases md<;>exact h.post 2900070 2900170
def VV{i:Nat}(hi:i<12):HX 130 [wP (15*i)] (.of (tyA (qO (L i)))) (dW 2900070 L f s g d p m md) (dW 2900170 L f s g d p m md):=by
 unfold qO
 by_cases h:(L i).is=1
 .rw[if_pos h];have a:jJ (decide ((L i).is=1)) true:=eT (by simp[h]);clear h;rcases bM hi with rfl|rfl|rfl|rfl|rfl|rfl|rfl|rfl|rfl|rfl|rfl|rfl
  all_goals cases md with
   | no=>exact (HX.post (res:=.of unA) (H':=dW 2900070 L f s g d p m .no) (bH func130 [(7,bA true)] [] [] oe (al a al0)) 2900070 2900170).conv λ_ _ _ _ h=>ZI h
   | ls j es=>exact (HX.post (res:=.of unA) (H':=dW 2900070 L f s g d p m (.ls j es)) (bH func130 [(7,bA true)] [] [] oe (al a al0)) 2900070 2900170).conv λ_ _ _ _ h=>ZI h
 .rw[if_neg h];have a:jJ (decide ((L i).is=1)) false:=eT (by simp[h]);clear h;rcases bM hi with rfl|rfl|rfl|rfl|rfl|rfl|rfl|rfl|rfl|rfl|rfl|rfl
  all_goals cases md<;>exact aa5 (bH func130 [(7,bA false)] [] [] oe (al a al0))
end
def argA:Option Va->AV
 | some x=>.rz [pF x,iA 0]
 | none=>.rz [zV0,iA 5]
def argF:Rq->Ty->Option Va
 | .op _ o,T=>jf T o.arg
 | .told _ v,T=>if sameT (aJ v.types 0) T then some (v.args.headD zeroVa)else none
def RqOk:Rq->Prop
 | .op _ o=>okN o.arg/\o.arg.size<=4611686018427387903
 | .told _ v=>∃A y,v.types=[A]/\v.args=[y]/\A.size<=50000000
def Mh{r:Rq}{T:Ty}(b:RqOk r)(p:okT T):Hd ⟨129,[Y1 r,tyA T],argA (argF r T)⟩:=by
 cases r with
 | op f o =>
  have h:=aet p b.1 b.2;simp only[argF];have⟨k,d,a,⟨w,n1,B,C,i⟩,⟨_,_,_,_,_⟩,⟨_,_,_,_,_⟩,⟨_,_,_,_,_⟩⟩:=o;have⟨t,e⟩:=T;simp only at h|-;generalize jf (.nd t e) (.nd w n1 B C i)=q at h|-
  cases q with
  | none=>exact aF func129 [⟨_,h⟩]
  | some x=>have⟨_,_,_,_,_,_,_⟩:=x;exact aF func129 [⟨_,h⟩]
 | told f v =>
  have⟨A,y,j,l,m⟩:=b;have⟨k,n,a,s,z,ty,c⟩:=v;obtain rfl:ty=[A]:=j;obtain rfl:z=[y]:=l;have h:=BR (U:=T) m;show Hd ⟨129,[Y1 (.told f (.mk k n a s [y] [A] c)),tyA T],argA (if sameT A T then some y else none)⟩;have⟨t,e⟩:=T;have⟨u,D⟩:=A;have⟨_,_,_,_,_,_,_⟩:=y
  cases g:sameT (.nd u D) (.nd t e)with
  | false=>rw[g]at h;rw[if_neg oe];exact aF func129 [⟨_,h⟩]
  | true=>rw[g]at h;rw[if_pos rfl];exact aF func129 [⟨_,h⟩]
def rqN:List Rq->Nat
 | []=>0
 | _::_=>3
def KN (l:List Rq):A1:=.one (.d (.s (rqN l) (kH l)))
abbrev rqL (S:St) (ex:Nat) (q:St):Prop:=vO prog f158.ntmps ⟨gF f158,S,ex,q⟩
def rqX (j:Nat):List Rq->St
 | []=>[((0,5),.of nilA)]
 | x::r=>[((0,5),.of (.one (.g 3000019 3 j))),((3000020,0),.kv 101 3 (kH (x::r)))]
def rqS (i:Int) (t:ao) (j:Nat):St:=[((0,0),.of (iA i)),((0,1),.of (qi t)),((0,8),lW (vasD t).length),((0,9),.of (jA j))]++rqX j ((t.take j).map (Rq.told i))
def abG{i:Int}{t:ao}(v:t.length<=1000000):∀(u:ao) (j:Nat),j<=t.length->t.drop j=u->rqL (rqS i t j) 2 (rqX t.length (t.map (Rq.told i)))
 | [],j,g,p=>by
  have l:t.length<=j:=by have:=congrArg List.length p;simp at this;omega
  obtain rfl:j=t.length:=jh7 g l;unfold rqS;rw[je6];have o:=al (show mD (aQ (decide (Int.ofNat t.length<((vasD t).length:Int)))) (bA false) from wH (by simp[qY])) al0;generalize t.length=m at o;cases t<;>exact xQ (e:=1) [(10,bA false)] [] o
 | x::u,j,g,p=>by
  have⟨l,q,w⟩:=kX p;have f:=abG (i:=i) v u (j+1) l w;have A:mD (aQ (decide (Int.ofNat j<((vasD t).length:Int)))) (bA true):=is_lt (by simp[qY];omega);have B:=PT q;have C:mD (lW (IntKind.i64.wrap (Int.ofNat j+1))) (jA (j+1)):=yY (zF oe ov ov);have r:t.take (j+1)=t.take j++[x]:=by rw[jc1,q];rfl
  have b:((t.take j).map (Rq.told i)).length=j:=by rw[qc3,qc1];omega
  unfold rqS at f|-;rw[r,qa0]at f;simp only[qc0,qh5]at f;generalize (t.take j).map (Rq.told i)=h at f b|-;have⟨k,n,a,s,z,ty,c⟩:=x;have E:zV 24 j (kH h) [rqD (.told i (.mk k n a s z ty c))]:=iL vA oe rfl ov ot;have D:rowsLe ((kH h).take j++[rqD (.told i (.mk k n a s z ty c))]) (kH (h++[.told i (.mk k n a s z ty c)])):=by rw[ux vA];simp only[kH,qa0];exact rows_refl _
  have o:=al A (al B (al D (al E (al C al0))))
  cases h with
  | nil=>obtain rfl:j=0:=b.symm;exact LG [(10,bA true),(16,.one (.e (vaD (.mk k n a s z ty c)) 0)),(2000019,.one (.d (.s 3 (kH [.told i (.mk k n a s z ty c)])))),(20,jA (0+1))] [] f o
  | cons y F=>exact LG [(10,bA true),(16,.one (.e (vaD (.mk k n a s z ty c)) 0)),(2000019,.one (.d (.s 3 (kH ((y::F)++[.told i (.mk k n a s z ty c)]))))),(20,jA (j+1))] [] f o
def Nn{i:Int}{t:ao}(d:t.length<=1000000):Hd ⟨158,[iA i,qi t],.of (KN (t.map (Rq.told i)))⟩:=by
 have b:=abG (i:=i) d t 0 (yv _) rfl;have c:=wI (S:=rqS i t 0) (q:=gF f158=gF f158) rfl (ps:=[]) al0
 cases t with
 | nil=>exact Ce func158 [] [_] (λx a=>by rw[qv]at a;subst a;exact b) [] c
 | cons x r=>exact Ce func158 [(21,KN ((x::r).map (Rq.told i)))] [_] (λx a=>by rw[qv]at a;subst a;exact b) [] (jX c (al (show (x::r).length=(kH ((x::r).map (Rq.told i))).length by rw[mg,qc3]) al0))
set_option maxRecDepth 20000
open Go.ChangeShapes Go.WideShapes Go.ChangeAt Go.RowKit
def mr:(prog.info? 29).map (λi=>(i.zero,i.size,i.bytes))=some (some (.agg #[.i 0,.i 0,.i 0,.string ⟨#[]⟩,.n0,.n0,.n0]),7,112):=oA
def dF (B:Nat) (w:cg) (v:cm) (vs:bo):Prop:=w.ownsRow B 29 7 v vs.length (flat vs)
def flatV_get:∀(vs:bo),(∀u∈vs,(nodeCells u).length=7)->∀(i j:Nat) (u:cm),vs[i]?=some u->j<7->(flat vs)[i*7+j]?=(nodeCells u)[j]?
 | [],_,i,j,u,h,_=>by simp at h
 | x::vs,a,0,j,u,h,b=>by simp at h;subst h;have:=a x oe;simp only[flat,qd5];rw[zd od];simp
 | x::vs,a,i+1,j,u,h,b=>by have c:=a x oe;have:=flatV_get vs (λu d=>a u (by simp[d])) i j u (by simpa using h) b;simp only[flat,qd5]at this|-;rw[xf od,c,show (i+1)*7+j - 7=i*7+j from by omega];exact this
