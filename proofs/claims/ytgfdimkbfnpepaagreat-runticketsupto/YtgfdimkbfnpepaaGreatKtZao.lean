import Derived.Test.YtgfdimkbfnpepaaGreatKtZan
import Derived.RangeFuncFrom
namespace Go.Proofs.YtgfdimkbfnpepaaGreat
set_option linter.all false
open Go.Proofs.Tryz
set_option maxRecDepth 100000
set_option maxHeartbeats 4000000
open Pe
def sS (r:iF):Prop:=(∀e,r =.no e->SA e)/\∀f ts,r =.ok f ts->okTs ts
def WA{r:iF}(h:sS r):Hd ⟨47,ledA r,iH (keptF r)⟩:=by
 cases r with
 | no e =>
  have hr:=ag e;rcases h.1 e rfl with rfl|rfl|rfl|rfl
  all_goals exact aF func47 [⟨_,hr⟩]
 | ok f a =>
  have hk:=h.2 f a rfl
  by_cases b:(40:Int)<((tysD a).length:Int)
  .have g:=is_lt b;rw[eY]at b;rw[show keptF (.ok f a) =.no 7 by simp only[keptF];rw[oc]];exact runT func47 [(17,bA true)] [⟨_,ag 7⟩] (al g al0)
  .have g:=wH b;rw[eY]at b;have c:=C9 hk
   cases d:a.all bn with
   | true =>
    rw[d]at c;rw[show keptF (.ok f a) =.ok f a by simp only[keptF];rw[oa,if_pos d]];exact runT func47 [(17,bA false)] [⟨_,c⟩] (al g al0)
   | false =>
    rw[d]at c;rw[show keptF (.ok f a) =.no 4 by simp only[keptF];rw[oa,if_neg (by simp[d])]];exact runT func47 [(17,bA false)] [⟨_,c⟩,⟨_,ag 4⟩] (al g al0)
def Oj (l:aE) (j:Nat) (f:Bool) (cur:ao):St :=
 [((0,4),.of (.one (.p 4 0))),((0,5),.of (iA 0)),((0,6),.of (.one (.p 6 0))),((0,13),.of (CW l)),((0,14),lW (ndsD l).length),((0,15),.of (jA j)),
  ((5,0),.of nilA),((5,1),.of (bA false)),((7,0),.of (dZ cur)),((7,1),.of (bA f))]
def rowE:iF->Nat
 | .no _=>1
 | .ok _ _=>2
def rowP (l:aE):iF->St
 | .no e=>[((0,4),.of (.one (.p 4 0))),((0,5),.of (iA e)),((5,0),.of nilA),((5,1),.of (bA false))]
 | .ok f ts=>Oj l l.length f ts
def LA{r:iF}(h:sS r):yI (keptF r):=by
 cases r with
 | no e=>exact⟨λc a=>h.1 c (by simpa[keptF]using a),λf b a=>by simp[keptF]at a⟩
 | ok f b =>
  refine⟨λe a=>?_,λf b a=>by have⟨_,g,d⟩:=nP a;exact⟨d,od⟩⟩;simp only[keptF]at a;split at a
  .cases a;exact .inr (.inr (.inr rfl))
  .split at a
   .cases a
   .cases a;exact .inr (.inl rfl)
def Ry{l:aE}{st:Tr->ao->iF}{L:Nat}(E:l.length<=100000)(F:40<=L)(w:∀t∈l,∀s:ao,s.all bn->s.length<=L->Hd ⟨48,[ndA t,dZ s],iH (st t s)⟩/\sS (st t s)) :
 ∀(k j:Nat) (f:Bool) (c:ao),j+k=l.length->c.all bn->c.length<=L->vO prog f25.ntmps ⟨gF f25,Oj l j f c,rowE (iG st (l.drop j) f c),rowP l (iG st (l.drop j) f c)⟩:=λk=>by
 induction k with
 | zero =>
  intro j f c G C D;have v:=wH (a:=Int.ofNat j) (b:=((ndsD l).length:Int)) Kx;obtain rfl:j=l.length:=od
  rw[List.drop_length];exact xQ (e:=1) [(16,bA false)] [] (al v al0)
 | succ k K =>
  intro j f c G C D;have i:j<l.length:=od
  have v:=is_lt (a:=Int.ofNat j) (b:=((ndsD l).length:Int)) Kx;have x:=WV (qn i);have J:mD (lW (IntKind.i64.wrap (Int.ofNat j+1))) (jA (j+1)):=yY (zF ot oB oB);have u:l[j]∈l:=zd i;rw[yW i];generalize l[j]=t at *
  cases f with
  | true =>
   have⟨m,n0,n,o,d⟩:=t;exact xQ (e:=0) [(16,bA true),(17,.one (.e (ndD (.nd m n0 n o d)) 0))] [⟨_,ag 1⟩] (al v (al x al0))
  | false =>
   have⟨y,B⟩:=w t u c C D;have z:=WA B;have A:=LA B;rw[show iG st (t::l.drop (j+1)) false c=(match keptF (st t c)with | .no e=>.no e | .ok g M=>iG st (l.drop (j+1)) g M) by simp only[iG,ja5,if_false];cases keptF (st t c)<;>rfl];have I:∀f p,keptF (st t c) =.ok f p->p.length<=40:=λf p h=>(nP h).2.1;generalize keptF (st t c)=q at *;generalize st t c=r at *;have⟨m,n0,n,o,d⟩:=t
   cases q with
   | no e =>
    have hr:=ag e;rcases A.1 e rfl with rfl|rfl|rfl|rfl
    all_goals cases r<;>exact xQ (e:=0) [(16,bA true),(17,.one (.e (ndD (.nd m n0 n o d)) 0))] [⟨_,y⟩,⟨_,z⟩,⟨_,hr⟩] (al v (al x al0))
   | ok g p =>
    have H:=K (j+1) g p od (A.2 g p rfl).1 (by have:=I g p rfl;omega);cases r<;>exact LG [(16,bA true),(17,.one (.e (ndD (.nd m n0 n o d)) 0)),(41,jA (j+1))] [⟨_,y⟩,⟨_,z⟩] H (al v (al x (al J al0)))
def X7{l:aE}{st:Tr->ao->iF}{L:Nat}(b:l.length<=100000)(d:40<=L)(h:∀t∈l,∀s:ao,s.all bn->s.length<=L->Hd ⟨48,[ndA t,dZ s],iH (st t s)⟩/\sS (st t s)){s:ao}(j:s.all bn)(i:s.length<=L) :
 Hd ⟨25,[CW l,dZ s],iH (iG st l false s)⟩:=by
 have g:=Ry b d h l.length 0 false s od j i;rw[qg4]at g;generalize iG st l false s=q at *
 cases q with
 | no e=>exact Ce func25 [] [⟨gF f25,Oj l 0 false s,1,rowP l (.no e)⟩] (by intro x c;rw[js]at c;subst c;exact g) [] (ob:=(gF f25=gF f25)::(Oj l 0 false s).map (λx=>some x.2=some x.2)) (λp a=>by
  rcases zr.1 a with rfl|a
  .rfl
  .obtain⟨x,_,rfl⟩:=ud.1 a;rfl)
 | ok f k=>exact Ce func25 [] [⟨gF f25,Oj l 0 false s,2,rowP l (.ok f k)⟩] (by intro x c;rw[js]at c;subst c;exact g) [] (ob:=(gF f25=gF f25)::(Oj l 0 false s).map (λx=>some x.2=some x.2)) (λp a=>by
  rcases zr.1 a with rfl|a
  .rfl
  .obtain⟨x,_,rfl⟩:=ud.1 a;rfl)
open Go.ChangeShapes Go.WideShapes Go.ChangeAt Go.RowKit
def wo (ts:ao) (W:bx) (e:Ending) (w':bx):Prop :=
 cm W w' none/\∃a c V,e =.returned (.slice a ts.length c)/\ts.length<=c/\dw (W.heap.size <= ·) w' ts a V
def gz.V9{H:Nat}{w w':bx}{v:cg}{ts:ao}{vs:bk}(h:gz H w v ts vs)(c:cm w w' none):gz H w' v ts vs:=by refine⟨yq h.own c ?_,h.len,λi t u d e=>(h.lies i t u d e).same (λb o _ a=>qt (c.block b a ot))⟩;cases v.ownBlock<;>simp
def KD(ts:ao)(j:Nat)(h:j<ts.length):ts.take (j+1)=ts.take j++[ts[j]]:=by rw[qb2 h]
def copies_any:∀(N:Nat) {W:bx}{ts:ao}{a:bj}{l c:Nat},jo W ts (.slice a l c)->tysizes ts<=N->N<=1000000->Calls prog 46 #[.slice a l c] W (wo ts W):=by
 intro N
 induction N with
 | zero =>
  intro W ts a l c G hz hN;have h0:ts.length=0:=by have:=pW ts;omega
  have⟨hl,O,_⟩:=G.len;obtain rfl:l=0:=od
  obtain rfl:ts=[]:=jx h0;clear G hz hl O;go_enter func46,ntmps46;go_wp2_with fail;go_loopw [3,8] (λlv T wr=>wr=W/\lv =.n0/\T =.i 0) (λ_ _ _=>0)
  case atStart=>exact⟨rfl,rfl,rfl⟩
  case round =>
   obtain⟨hw,rfl,rfl⟩:=hrel;replace hw:=hw.symm;subst hw;go_wp2;go_ret;exact⟨bM _ _,none,0,λ_=>.i 0,rfl,qS _,dw.nil _ _ _ _⟩
 | succ N ih =>
  intro W ts a l c G hz hN;have⟨hl,O,hm⟩:=G.len;subst hl;unfold maxLen at hm;have bh:=pW ts;have HS:=jh G;have ad:Hid (∀{W:bx} {ts:ao} {a:bj} {l c:Nat},jo W ts (.slice a l c)->tysizes ts<=N->Calls prog 46 #[.slice a l c] W (wo ts W)):=λE s=>ih E s od;have HZ:=jh hz;clear G ih hz;go_enter func46,ntmps46;go_wp2_with fail;go_loopw [3,8] (λlv T wr=>∃(j:Nat) (U:bk),j<=ts.length/\T =.i j/\gz W.heap.size wr lv (ts.take j) U/\cm W wr none) (λ_ T _=>ts.length - (intOf T).toNat)
  case atStart=>exact⟨0,[],zE _,rfl,gz.nil _ _,bM _ _⟩
  case round =>
   obtain⟨j,U,hj,rfl,m,F⟩:=hrel;have B:=m.len;rw[qc5,jd1 hj]at B
   by_cases q:j<ts.length
   .obtain⟨b,o,t,C,H,D,rfl,x0,x1,X⟩:=(HS.out.grow F).at j q;have R:bB ts j=ts[j]:=by unfold bB;rw[qn q];rfl
    rw[R]at X;rw[show 2*j=j*2 from jc1 _ _]at x0 x1;rw[<-qd6]at x1;have aO:(j:Int)<(ts.length:Int):=od
    have v:tysizes (ts[j]).args<=N:=by
     have E:=jS (zd q);have s:=HZ.out;have h3:(ts[j]).size=tysizes (ts[j]).args+1:=by cases ts[j];rfl
     omega
    have⟨ht,f⟩:=X.args;have it:bD t:=by have⟨_,_,_,_,h,_⟩:=X.inv;rw[ht]at h;exact h
    have hT:ts[j] =.nd t (ts[j]).args:=by rw[<-ht];cases ts[j];rfl
    have bb:U.length<=1000000000000:=by have:=HZ.out;omega
    have ar:=jh hT;clear hT;have p:=aK (w:=wr) (.cells #[.i t,.slice C H D] 54);have z:=jj wr (.cells #[.i t,.slice C H D] 54);have n3:some wr.heap.size≠u3.ownBlock:=λe=>by have:=(zp m.own wr.heap.size e.symm).2;omega
    have x:Hid (∀V,cm wr V none->Calls prog 46 #[.slice C H D] V (wo (ts[j]).args V)):=λV s=>ad (f.grow s) v;have⟨HK,HG,ab⟩:=we (m.V9 p) (aJ F p) p;have bc:W.heap.size<=wr.heap.size:=F.size;have aj:Hid (∀k,u3.ownBlock=some k->k<wr.heap.size):=λk hk=>(zp m.own k hk).2;clear X R v ht f p m F;go_wp2_with fail;have d:wr.heap.size<(wr.alloc (.cells #[.i t,.slice C H D] 54)).heap.size:=ot
    generalize wr.alloc (.cells #[.i t,.slice C H D] 54)=r at *;have y0:∀w',cm r w' u3.ownBlock->w'.cell? ⟨wr.heap.size,0,none⟩=some (.i t):=λw' h=>xq ((h.block _ d n3).trans z);have y1:∀w',cm r w' u3.ownBlock->w'.cell? ⟨wr.heap.size,1,none⟩=some (.slice C H D):=λw' h=>wy ((h.block _ d n3).trans z);have ax:cm r r u3.ownBlock:=bM _ _;have K:=jh d;clear z n3 x0 x1 d;go_region_held3 (λw'=>cm r w' u3.ownBlock) (first|with_reducible assumption|with_reducible exact fK (bM _ _)|with_reducible exact fF oS (kL (aK _))) (first
     | (go_at_call 46;refine (x _ (fK ab)).mono ?_;rintro e w2 ba;obtain⟨n,a2,c2,V2,rfl,aC,Q⟩:=ba;have y:=jh (HK.V9 (KJ n));have I:=jh (aJ HG (KJ n));have aq:=jh Q;have ay:cm r w2 u3.ownBlock:=kL (KJ n);clear n Q)
     | (refine oJ W.heap.size U t a2 (ts[j]).args.length c2 w2 u3 rfl (.tmp 12) (.tmp 19) rfl rfl rfl rfl y.own I.size bb ?_;intro g au w6 P A;have az:cm r w6 u3.ownBlock:=fF ay A.1;have ai:=jh P;have J:=jh A;clear P A))
    have ah:Hid (aH (r.heap.size <= ·) w2 ts[j] (bY t a2 (ts[j]).args.length c2)):=by have h:=aH.ofRow (t:=t) it aC aq;rw[<-ar.out]at h;exact h
    have HP:=jh (y.push (S:=wr.heap.size) bc aj (ah.ae (λb _ h=>by have E:=K.out;have s:r.heap.size<=b:=h;show wr.heap.size<=b;omega)) J ai);have aa:=jh (dX I y.own (qS _) J.1);clear az y0 y1 ax;go_wp2;go_roundw
    case rel =>
     refine⟨j+1,U++[bY t a2 (ts[j]).args.length c2],od,OS,?_,aa⟩;rw[KD ts j q];have h:=HP.out;rw[B]at h;exact h
    case measure=>simp[intOf];omega
   .have M:ts.take j=ts:=qc0 od;rw[M]at m;have⟨a5,c5,V5,Y,E,s⟩:=m.done;have u:ts.length<=c5:=by
     rcases m.own.2 with⟨e2,h0⟩|⟨g,au,bf,e2,_,_,h4,h5,_⟩
     .have:=m.len;omega
     .rw[e2]at Y;simp only[kl]at Y;omega
    have HV:=jh Y;have L:Hid (dw (W.heap.size <= ·) wr ts a5 V5):=⟨On,E,s⟩;have HG:=jh F;have Z:=jh u;have aO:¬(j:Int)<(ts.length:Int):=od
    clear m Y E s F u M B;go_wp2;go_ret;exact⟨HG,a5,c5,V5,by rw[HV.out];rfl,Z,L⟩
def Jr(W:bx)(a:bj)(c:Nat):Calls prog 46 #[.slice a 0 c] W λe w'=>e =.returned (.n0)/\w'=W:=by
 go_enter func46,ntmps46;go_wp2_with fail;go_loopw [3,8] (λf d wr=>wr=W/\f =.n0/\d =.i 0) (λ_ _ _=>0)
 case atStart=>exact⟨rfl,rfl,rfl⟩
 case round =>
  obtain⟨b,rfl,rfl⟩:=hrel;replace b:=b.symm;subst b;go_wp2;go_ret;exact⟨rfl,rfl⟩
def TS{n:Tr}{s ts:ao}{f:Bool}(h:codeF n s =.ok f ts):dS n=0/\n.k0=3/\s.length<=40/\s.all bn/\iG (stepF 300) n.args0 false s =.ok f ts:=by
 unfold codeF at h
 by_cases a:dS n=0
 .by_cases b:n.k0=3
  .by_cases c:40<s.length
   .simp[a,b,c]at h
   .by_cases d:s.all bn
    .rw[if_neg (by simp[a]),if_neg (by simp[b]),if_neg c,if_pos d]at h;exact⟨a,b,od,d,h⟩
    .rw[if_neg (by simp[a]),if_neg (by simp[b]),if_neg c,if_neg d]at h;cases h
  .rw[if_neg (by simp[a]),if_pos b]at h;cases h
 .rw[if_pos a]at h;cases h
def uV{n:Tr}{s ts:ao}{f:Bool}(h:codeF n s =.ok f ts):ts.length<=40/\ts.all bn/\(f->ts=[]):=by have⟨_,_,a,b,c⟩:=TS h;exact Ec (noTys_step 300) _ _ _ a b ot c
def GG{n:Tr}(h:dS n=0):bG 2 n.args0=0/\n.size<=300:=by
 have⟨k,m,p,s,a⟩:=n;unfold dS at h
 by_cases b:bC 1 (.nd k m p s a)=0
 .rw[if_neg (by simp[b])]at h
  by_cases d:300<(Tr.nd k m p s a).size
  .rw[if_pos d]at h;cases h
  .refine⟨?_,od⟩;rw[bC,oa]at b
   by_cases c:Lf.fD k m p s a.length=0
   .rw[if_neg (by simp[c])]at b;exact b
   .rw[if_pos c]at b;exact absurd b c
 .rw[if_pos b]at h;exact absurd h b
def Zd (i:Ins):A1:=uq i.p i.n i.types i.rows i.data.k0 i.data.n0 i.data.p0 i.data.s0 i.data.args0
def readV:Option Ins->AV
 | none=>.rz [.agg [.d (.v (.i 0)),.d (.v (.i 0)),.d (.s 0 []),.d (.s 0 []),.d (.v (.i 0)),.d (.v (.i 0)),.d (.v (.i 0)),.d (.v (.string ⟨#[]⟩)),.d (.s 0 [])],bA false]
 | some i=>.rz [Zd i,bA true]
def U1{ok:br}{w:bx} : fI ok w (.s 0 []) (.n0):=.s (λ_ _=>undef) (qS _) (zE _) ot ot ot (λ_=>⟨rfl,rfl⟩)
def Ed(rows:List aE):rowsD rows=rows.map λr=>[D.s 5 (ndsD r)]:=by
 induction rows with
 | nil=>rfl
 | cons r b a=>simp[rowsD,a]
def U8{t:Tr}{i:Ins}(h:iY t=some i):i.rows.length<=3:=by
 unfold iY at h;split at h
 .rename_i b;have⟨c,d,a,_⟩:=takesF_facts _ _ _ _ b.2.2.symm h;rw[a];simp only[xT,qa2];refine km (List.length_filter_le _ _) ?_;unfold bR
  repeat' split
  all_goals simp
 .cases h
def ZX(r:Option Ins):(readV r).keys=[]:=by
 cases r with
 | none=>rfl
 | some i=>rfl
def Pm{t:Tr}(M:okN t):Hd ⟨67,[ndA t],readV (iY t)⟩:=by
 refine⟨rM func67 (nk:=ZX _),λok w R h=>?_⟩
 match R,h with
 | [v],⟨L,_⟩ =>
  refine (Oc (oK M L)).mono ?_;rintro e w' ⟨F,⟨hr,rfl⟩|⟨i,ta,tc,J,Q,da,S,hr,rfl,⟨B,V,N⟩,H,U,O⟩⟩
  .rw[hr];exact⟨F,_,rfl,[_,_],rfl,⟨_,rfl,.v _,.v _,U1,U1,.v _,.v _,.v _,.v _,U1,trivial⟩,.v _,trivial⟩
  .rw[hr];have P:=(qV N B).2.keep (ok':=λb=>ok b\/w.heap.size<=b) (w':=w') ⟨qS _,λb _ f=>⟨.inr f,λ_=>rfl⟩⟩;have⟨_,k,n,p,s,a,c,T,G,C⟩:=qL O;have C:=C.keep (ok':=λb=>ok b\/w.heap.size<=b) (w':=w') ⟨qS _,λb _ f=>⟨.inl f,λ_=>rfl⟩⟩;simp only[af,qd7,qf0,xo,kl,true_and,and_true]at G;obtain⟨_,_,_,_,rfl,rfl⟩:=G;have z:(rowsD i.rows).length=i.rows.length:=by simp[Ed]
   have I:fI (λb=>ok b\/w.heap.size<=b) w' (.s 1 (rowsD i.rows)) (.slice J (rowsD i.rows).length Q):=by
    have d:∀(j:Nat) (r:bd),(rowsD i.rows)[j]?=some r->∃l,i.rows[j]?=some l/\r=[D.s 5 (ndsD l)]:=λj r e=>by rw[Ed,qb7,kd]at e;obtain⟨l,g,rfl⟩:=e;exact⟨l,g,rfl⟩
    refine .s (λj _=>match J with|some E=>(w'.cell? ⟨E.block,E.off+j,none⟩).getD undef|none=>undef) od (by have : i.rows.length<=3:=U8 hr;simp only[maxLen];omega) (λj r e=>by obtain⟨l,_,rfl⟩:=d j r e;rfl) (λj r m x g q=>?_) (λj r m x g q=>?_)
    .obtain⟨l,y,rfl⟩:=d j r g;obtain⟨b,o,na,nc,K,rfl,f,u,hN⟩:=H j l y;have A:m=0:=by have:=(qv.1 q).1;simpa using this
     subst A;exact⟨b,o,rfl,f.1,by simp only[Nat.mul_one,qd3];rw[u];rfl⟩
    .obtain⟨l,y,rfl⟩:=d j r g;obtain⟨b,o,na,nc,K,rfl,f,u,hN⟩:=H j l y;have A:m=0:=by have:=(qv.1 q).1;simpa using this
     subst A;simp only[kA,qk]at q;subst q;simp only;rw[u];exact uI hN f.2
   rw[z]at I;exact⟨F,_,rfl,[_,_],rfl,⟨_,rfl,.v _,.v _,P,I,.v _,.v _,.v _,.v _,C,trivial⟩,.v _,trivial⟩
def Fj (r:iF):Prop:=(∀e,r =.no e->SA e)/\∀f ts,r =.ok f ts->ts.all bn
def Fj.K{r:iF}(h:Fj r):sS r:=⟨h.1,λf a e=>ak (h.2 f a e)⟩
def MB{e:Int}(h:SA e):sS (.no e):=⟨λb a=>by cases a;exact h,λf c a=>by cases a⟩
def K_fail:sS (.ok true []):=⟨λe h=>by simp at h,λf a h=>by simp only[iF.ok.injEq]at h;rw[<-h.2];trivial⟩
def K_5:sS (.no 5):=MB (.inr (.inr (.inl rfl)))
def K4{s top:ao}(a:okTs s)(b:okTs top):sS (fQ s top):=⟨λe h=>by simp[fQ]at h,λf c h=>by simp only[fQ,iF.ok.injEq]at h;obtain⟨_,rfl⟩:=h;exact uD b a⟩
def QZ{s:ao}(h:okTs s)(k:Nat):okT (bB s k):=by
 unfold bB
 cases e:s[k]? with
 | none=>exact⟨⟨ov,ov⟩,trivial⟩
 | some T=>exact okTs_at.1 h T (zj e)
def NU{T:Ty}(h:okT T):okTs T.args:=by cases T;exact h.2
def Yc{c:Prop}[Decidable c]{a b:iF}(d:c->sS a)(hb:sS b):sS (if c then a else b):=by
 by_cases h:c
 .rw[if_pos h];exact d h
 .rw[if_neg h];exact hb
def Ii{st:Tr->ao->iF}(a:∀t s,s.all bn->sS (st t s)):∀(l:aE) (f:Bool) (s:ao),s.all bn->Fj (iG st l f s)
 | [],f,s,c=>⟨λe h=>by simp[iG]at h,λg b h=>by simp only[iG,iF.ok.injEq]at h;obtain⟨_,rfl⟩:=h;exact c⟩
 | t::l,f,s,c=>by
  simp only[iG];split
  .exact⟨λe h=>by cases h;exact .inl rfl,λg b h=>by cases h⟩
  .have d:=LA (a t s c)
   cases hk:keptF (st t s)with
   | no e=>exact⟨λi h=>by cases h;exact d.1 e hk,λg b h=>by cases h⟩
   | ok g b=>exact Ii a l g b (d.2 g b hk).1
section
variable {row:aE->ao->iF}(hr:∀ l s,s.all bn=true->Fj (row l s)) {i:Ins}{s:ao}
def OY{a b:iF}(c:Fj a)(hb:Fj b):Fj (meetF a b):=by
 cases a with
 | no e=>exact c
 | ok f x =>
  cases b with
  | no e=>exact hb
  | ok g y =>
   simp only[meetF];split
   .exact hb
   .split
    .exact c
    .exact⟨λe h=>by cases h;exact .inr (.inr (.inl rfl)),λf d h=>by cases h⟩
def wY(a:∀l s,s.all bn->Fj (row l s)){s x y:ao}(b:s.all bn)(c:x.all bn)(d:y.all bn):sS (iC row i s x y):=(OY (a _ _ (um c b)) (a _ _ (um d b))).K
def uS(d:∀l s,s.all bn->Fj (row l s)){x y z:ao}(g:x.all bn)(j:y.all bn)(k:okTs z):sS (dM row i x y z):=by
 have a:=OY (d (rowAt i 0) x g) (b:=fQ y []) ⟨λe h=>by simp[fQ]at h,λf m h=>by simp only[fQ,iF.ok.injEq,qe5]at h;obtain⟨_,rfl⟩:=h;exact j⟩;unfold dM;split
 .rename_i e c;exact MB (a.1 e c)
 .exact K4 k trivial
def Tq(d:∀l s,s.all bn->Fj (row l s)){T:Ty}(c:okT T)(g:s.all bn):sS (l7 row i T s):=by
 have b:=d (rowAt i 0) s g;unfold l7;split
 .rename_i e a;exact MB (b.1 e a)
 .rename_i f h a;split
  .exact MB (.inl rfl)
  .exact K4 (ak (b.2 f h a)) ⟨c,trivial⟩
def Yb(b:∀l s,s.all bn->Fj (row l s))(j:i.types.all bn)(a:s.all bn):sS (vP row i s):=by
 have f:=ak a;have q:=ak j;have d:∀{k:Int} {l:List Int},sFq s (k::l)->bn (bB s 0):=λh=>Lt a (by have:=slq h;simp at this;omega);unfold vP dG bO aP eG bP bJ dI cZ bF dO
 repeat' (apply Yc;intro c)
 all_goals first
  | exact K_5
  | exact wY b (iI a 1) (Dz (gX (d c.2)) 1) (iI (gX (d c.2)) 1)
  | exact wY b (iI a 1) rfl (gX (d c.2))
  | exact wY b (iI a 1) rfl rfl
  | exact uS b (um (gX (d c.2)) (iI a 1)) (iI a 1) (jD f 1)
  | exact uS b (iI a 1) a (jD f 1)
  | exact uS b (Dz j 1) (iI j 1) (uD ⟨⟨⟨ov,ov⟩,q⟩,trivial⟩ f)
  | exact Tq b (QZ f 0) (iI a 1)
  | exact wY b (iI a 1) (by have g:=d c.2;have n:=gX g;have o:=Ip c.2 0 10 rfl ov;have m:=xL g;rw[o]at m;rw[xf,xf,g,Lt n (i:=0) (by simp[bT]at m;omega)];rfl) rfl
  | exact uS b (um (by rw[xf,Bl (d c.2) (Ip c.2 0 13 rfl ov)];rfl) (iI a 1)) (iI a 1) (jD f 1)
  | exact K_fail
  | (cases e:IP i.p (bB s 0).t (bB s 1).t with
     | none=>exact K_5
     | some T=>exact K4 (jD f 2) ⟨(xZ e).1,trivial⟩)
  | (refine K4 ?_ ?_<;>repeat' first|assumption|exact trivial|exact⟨ov,ov⟩|apply jD|apply nW|apply uD|apply QZ|apply NU|(refine⟨?_,?_⟩))
def K_step:∀(N:Nat) (t:Tr) (s:ao),s.all bn->sS (stepF N t s)
 | 0,t,s,a=>MB (.inl rfl)
 | N+1,t,s,a=>by
  have hr:∀l s,s.all bn->Fj (iG (stepF N) l false s):=λl s a=>Ii (K_step N) l false s a;rw[stepF];split
  .exact (hr _ _ a).K
  .split
   .exact MB (.inl rfl)
   .rename_i i b;refine Yb hr ?_ a;unfold iY at b;split at b
    .rename_i c;exact (takesF_facts _ _ _ _ c.2.2.symm b).2.2.2.1 rfl
    .cases b
end
section
variable {N M:Nat}{n:Int}{types:ao}{rows:List aE}{dk dn dp:Int}{ds:bo}{da:aE}{row:aE->ao->iF}{s:ao}
def ym{rows:List aE}(h:rows.length=1):∃r,rows=[r]:=by
 match rows,h with
 | [r],_=>exact⟨r,rfl⟩
def yo{rows:List aE}(h:rows.length=2):∃r q,rows=[r,q]:=by
 match rows,h with
 | [r,q],_=>exact⟨r,q,rfl⟩
def sh{g:FuncId}{a:List A1}(r:iF)(h:Hd ⟨g,a,iH r⟩):Hd ⟨g,a,iH r⟩:=h
def aR{p:Int}{t:Tr}{g:FuncId}{r:iF}(j:Hd ⟨g,[uq p n types rows dk dn dp ds da,dZ s],iH r⟩)(hR:Hd ⟨67,[ndA t],readV (some ⟨p,n,types,rows,.nd dk dn dp ds da⟩)⟩)(k:t.k0=2)
 (h:∀(a n0 b:Int) (c:bo) (az:aE) (d:Hd ⟨67,[ndA (.nd a n0 b c az)],readV (some ⟨p,n,types,rows,.nd dk dn dp ds da⟩)⟩) (f:Bool) (ts:ao) (i:Hd ⟨g,[uq p n types rows dk dn dp ds da,dZ s],iH (.ok f ts)⟩),a=2->Hd ⟨48,[ndA (.nd a n0 b c az),dZ s],iH (.ok f ts)⟩:=by intro a n0 b c az d f ts i hk;subst hk;exact aF func48 [⟨_,d⟩,⟨_,i⟩])
 (h':∀(a n0 b:Int) (c:bo) (az:aE) (d:Hd ⟨67,[ndA (.nd a n0 b c az)],readV (some ⟨p,n,types,rows,.nd dk dn dp ds da⟩)⟩) (e:Int) (i:Hd ⟨g,[uq p n types rows dk dn dp ds da,dZ s],iH (.no e)⟩),a=2->Hd ⟨48,[ndA (.nd a n0 b c az),dZ s],iH (.no e)⟩:=by intro a n0 b c az d e i hk;subst hk;exact aF func48 [⟨_,d⟩,⟨_,i⟩]):Hd ⟨48,[ndA t,dZ s],iH r⟩:=by
 have⟨a,n0,b,c,az⟩:=t
 cases r with
 | no e=>exact h' a n0 b c az hR e j k
 | ok f ts=>exact h a n0 b c az hR f ts j k
def stepL:List (Nat×Int):=[(30,40),(31,41),(32,42),(33,43),(34,44),(41,46),(42,47),(43,48),(44,49),(45,50),(46,51),(47,53),(48,54),(55,56),(56,57),(57,59),(58,61),(59,62),(60,63),(67,52),(68,55),(69,58),(70,64),(77,60),(78,65),(79,66),(80,67),(81,68),(88,69),(89,70),(90,71),(91,72),(92,93),(93,94),(94,95),(101,73),(102,74),(103,75),(104,76),(105,77),(106,78),(107,79),(114,45),(115,80),(116,81),(117,82),(118,83),(125,84),(126,85),(127,86),(128,87)]
def stepL_le:∀x∈stepL,x.2<=95:=ov
def RQ{i:Ins}{t:Tr}(c:t.k0=2)(b:VO N i)(hN:N<=300)(v:iY t=some i)(w:okN t)(hR:xg row i.rows M)(d:s.all bn)(h:s.length<=M):Hd ⟨48,[ndA t,dZ s],iH (vP row i s)⟩:=by
 have a:=Pm w;rw[v]at a;have g:s.length<=1000:=km h hR.top;have⟨p,n,types,rows,⟨dk,dn,dp,ds,da⟩⟩:=i;have B:=b.p40;simp only at B hR
 by_cases r:95<p
 .rw[show vP row ⟨p,n,types,rows,.nd dk dn dp ds da⟩ s=dO ⟨p,n,types,rows,.nd dk dn dp ds da⟩ s by
   unfold vP;rw[if_neg oB,if_neg oB,if_neg oB,if_neg oB,if_neg oB,if_neg oB,if_neg oB,if_neg oB,if_neg oB]]
  have A:=FZ (n:=n) (types:=types) (rows:=rows) (dk:=dk) (dn:=dn) (dp:=dp) (ds:=ds) (da:=da) (s:=s) (p:=p) (.inr r);have l:∀q∈stepL.map (λx=>nq p x.2),q:=λq l=>by obtain⟨x,C,rfl⟩:=ud.1 l;exact oL (by have : x.2<=95:=stepL_le x C;omega)
  exact aR A a c
   (λD n0 E F z m f G o hk=>by subst hk;exact runT func48 (stepL.map λx=>(x.1,fA)) [⟨_,m⟩,⟨_,o⟩] l)
   (λD n0 E F z m e o hk=>by subst hk;exact runT func48 (stepL.map λx=>(x.1,fA)) [⟨_,m⟩,⟨_,o⟩] l)
 .have u:p=40\/p=41\/p=42\/p=43\/p=44\/p=45\/p=46\/p=47\/p=48\/p=49\/p=50\/p=51\/p=52\/p=53\/p=54\/p=55\/p=56\/p=57\/p=58\/p=59\/p=60\/p=61\/p=62\/p=63\/p=64\/p=65\/p=66\/p=67\/p=68\/p=69\/p=70\/p=71\/p=72\/p=73\/p=74\/p=75\/p=76\/p=77\/p=78\/p=79\/p=80\/p=81\/p=82\/p=83\/p=84\/p=85\/p=86\/p=87\/p=88\/p=89\/p=90\/p=91\/p=92\/p=93\/p=94\/p=95:=by omega
  rcases u with rfl|rfl|rfl|rfl|rfl|rfl|rfl|rfl|rfl|rfl|rfl|rfl|rfl|rfl|rfl|rfl|rfl|rfl|rfl|rfl|rfl|rfl|rfl|rfl|rfl|rfl|rfl|rfl|rfl|rfl|rfl|rfl|rfl|rfl|rfl|rfl|rfl|rfl|rfl|rfl|rfl|rfl|rfl|rfl|rfl|rfl|rfl|rfl|rfl|rfl|rfl|rfl|rfl|rfl|rfl|rfl
  .exact aR (sh (dG ⟨40,n,types,_,.nd dk dn dp ds da⟩ s) (ML d g b.gt)) a c
  .exact aR (sh (dG ⟨41,n,types,_,.nd dk dn dp ds da⟩ s) (MM b.n0 d g)) a c
  .exact aR (sh (dG ⟨42,n,types,_,.nd dk dn dp ds da⟩ s) (MN d g b.gt)) a c
  .exact aR (sh (dG ⟨43,n,types,_,.nd dk dn dp ds da⟩ s) (MO b.n0 d g)) a c
  .exact aR (sh (dG ⟨44,n,types,_,.nd dk dn dp ds da⟩ s) (MP b.n0 d g)) a c
  .exact aR (sh (cZ ⟨45,n,types,_,.nd dk dn dp ds da⟩ s) (MW d g b.gt b.nt b.Zg (by have:=b.data;simp only at this;omega))) a c
  .exact aR (sh (bO ⟨46,n,types,_,.nd dk dn dp ds da⟩ s) (MC d g b.gt)) a c
  .exact aR (sh (bO ⟨47,n,types,_,.nd dk dn dp ds da⟩ s) (ME d g b.gt)) a c
  .exact aR (sh (bO ⟨48,n,types,_,.nd dk dn dp ds da⟩ s) (MF d g b.gt)) a c
  .exact aR (sh (bO ⟨49,n,types,_,.nd dk dn dp ds da⟩ s) (MG d g b.gt)) a c
  .exact aR (sh (bO ⟨50,n,types,_,.nd dk dn dp ds da⟩ s) (MH d g b.gt b.nt)) a c
  .exact aR (sh (bO ⟨51,n,types,_,.nd dk dn dp ds da⟩ s) (MI d g b.gt b.nt)) a c
  .obtain⟨j,y,rfl⟩:=yo b.nr;exact aR (show Hd ⟨71,_,iH (eG row ⟨52,n,types,_,.nd dk dn dp ds da⟩ s)⟩ from wZ (k:=12) ov d h hR) a c
  .exact aR (sh (bO ⟨53,n,types,_,.nd dk dn dp ds da⟩ s) (MJ d g b.gt)) a c
  .exact aR (sh (bO ⟨54,n,types,_,.nd dk dn dp ds da⟩ s) (MK d g b.gt b.nt)) a c
  .obtain⟨j,y,rfl⟩:=yo b.nr;exact aR (show Hd ⟨71,_,iH (eG row ⟨55,n,types,_,.nd dk dn dp ds da⟩ s)⟩ from wZ (k:=9) ov d h hR) a c
  .exact aR (sh (aP ⟨56,n,types,_,.nd dk dn dp ds da⟩ s) (FP d g b.gt b.nt)) a c
  .exact aR (sh (aP ⟨57,n,types,_,.nd dk dn dp ds da⟩ s) (FQ d g b.gt)) a c
  .obtain⟨j,y,rfl⟩:=yo b.nr;exact aR (show Hd ⟨71,_,iH (eG row ⟨58,n,types,_,.nd dk dn dp ds da⟩ s)⟩ from wZ (k:=10) ov d h hR) a c
  .exact aR (sh (aP ⟨59,n,types,_,.nd dk dn dp ds da⟩ s) (FR d g)) a c
  .obtain⟨j,rfl⟩:=ym b.nr;exact aR (show Hd ⟨72,_,iH (bP row ⟨60,n,types,_,.nd dk dn dp ds da⟩ s)⟩ from I5 d h hR) a c
  .exact aR (sh (aP ⟨61,n,types,_,.nd dk dn dp ds da⟩ s) (FT d g b.gt b.nt)) a c
  .exact aR (sh (aP ⟨62,n,types,_,.nd dk dn dp ds da⟩ s) (FU d g b.gt)) a c
  .exact aR (sh (aP ⟨63,n,types,_,.nd dk dn dp ds da⟩ s) (FV d g b.gt)) a c
  .obtain⟨j,y,rfl⟩:=yo b.nr;exact aR (show Hd ⟨71,_,iH (eG row ⟨64,n,types,_,.nd dk dn dp ds da⟩ s)⟩ from wZ (k:=2) ov d h hR) a c
  .obtain⟨j,rfl⟩:=ym b.nr;exact aR (show Hd ⟨72,_,iH (bP row ⟨65,n,types,_,.nd dk dn dp ds da⟩ s)⟩ from I6 d h hR) a c
  .obtain⟨j,rfl⟩:=ym b.nr;exact aR (show Hd ⟨72,_,iH (bP row ⟨66,n,types,_,.nd dk dn dp ds da⟩ s)⟩ from I7 d h hR b.gt b.nt) a c
  .exact aR (show Hd ⟨72,_,iH (bP row ⟨67,n,types,_,.nd dk dn dp ds da⟩ s)⟩ from I8 d g b.gt) a c
  .obtain⟨j,rfl⟩:=ym b.nr;exact aR (show Hd ⟨72,_,iH (bP row ⟨68,n,types,_,.nd dk dn dp ds da⟩ s)⟩ from I9 d h hR) a c
  .exact aR (sh (bJ ⟨69,n,types,_,.nd dk dn dp ds da⟩ s) (xe ov d g)) a c
  .exact aR (sh (bJ ⟨70,n,types,_,.nd dk dn dp ds da⟩ s) (xe ov d g)) a c
  .exact aR (sh (bJ ⟨71,n,types,_,.nd dk dn dp ds da⟩ s) (xe ov d g)) a c
  .exact aR (sh (bJ ⟨72,n,types,_,.nd dk dn dp ds da⟩ s) (xe ov d g)) a c
  .exact aR (sh (dI ⟨73,n,types,_,.nd dk dn dp ds da⟩ s) (Pw d g b.gt)) a c
  .exact aR (sh (dI ⟨74,n,types,_,.nd dk dn dp ds da⟩ s) (Px d g b.gt)) a c
  .exact aR (sh (dI ⟨75,n,types,_,.nd dk dn dp ds da⟩ s) (Py d g b.gt)) a c
  .exact aR (sh (dI ⟨76,n,types,_,.nd dk dn dp ds da⟩ s) (Pz d g b.gt)) a c
  .exact aR (sh (dI ⟨77,n,types,_,.nd dk dn dp ds da⟩ s) (PD d g b.gt)) a c
  .exact aR (sh (dI ⟨78,n,types,_,.nd dk dn dp ds da⟩ s) (PE d g b.gt)) a c
  .exact aR (sh (dI ⟨79,n,types,_,.nd dk dn dp ds da⟩ s) (PG d g b.gt)) a c
  .exact aR (sh (cZ ⟨80,n,types,_,.nd dk dn dp ds da⟩ s) (MX d g b.gt)) a c
  .exact aR (sh (cZ ⟨81,n,types,_,.nd dk dn dp ds da⟩ s) (MZ d g b.gt)) a c
  .exact aR (sh (cZ ⟨82,n,types,_,.nd dk dn dp ds da⟩ s) (M0 d g b.gt b.nt)) a c
  .exact aR (sh (cZ ⟨83,n,types,_,.nd dk dn dp ds da⟩ s) (M3 d g)) a c
  .exact aR (sh (bF ⟨84,n,types,_,.nd dk dn dp ds da⟩ s) (F3 d g b.gt)) a c
  .exact aR (sh (bF ⟨85,n,types,_,.nd dk dn dp ds da⟩ s) (F4 d g b.gt)) a c
  .exact aR (sh (bF ⟨86,n,types,_,.nd dk dn dp ds da⟩ s) (F5 d g b.gt)) a c
  .exact aR (sh (bF ⟨87,n,types,_,.nd dk dn dp ds da⟩ s) (F6 d g b.gt)) a c
  .exact aR (sh (dO ⟨88,n,types,_,.nd dk dn dp ds da⟩ s) (MQ d g b.gt b.nt)) a c
  .exact aR (sh (dO ⟨89,n,types,_,.nd dk dn dp ds da⟩ s) (MR d g b.gt)) a c
  .exact aR (sh (dO ⟨90,n,types,_,.nd dk dn dp ds da⟩ s) (MS d g b.gt)) a c
  .exact aR (sh (dO ⟨91,n,types,_,.nd dk dn dp ds da⟩ s) (MU d g b.gt)) a c
  .exact aR (sh (dO ⟨92,n,types,_,.nd dk dn dp ds da⟩ s) (MV d g b.gt)) a c
  .exact aR (sh (bJ ⟨93,n,types,_,.nd dk dn dp ds da⟩ s) (FW d g b.gt)) a c
  .exact aR (sh (bJ ⟨94,n,types,_,.nd dk dn dp ds da⟩ s) (FX d g b.gt)) a c
  .exact aR (sh (bJ ⟨95,n,types,_,.nd dk dn dp ds da⟩ s) (FY d g b.gt)) a c
end
def Wo{N:Nat}{l:aE}{s:ao}(a:s.all bn)(b:s.length<=1001):yI (iG (stepF N) l false s) :=
 have h:=Ii (K_step N) l false s a
 ⟨h.1,λf c e=>⟨h.2 f c e,(Cc l false s b a e).1⟩⟩
def UX{t:Tr}{i:Ins}(h:iY t=some i):t.k0=2:=by
 unfold iY at h;split at h
 .rename_i a;exact a.1
 .cases h
def I1{N:Nat}(h:∀t:Tr,okN t->t.size<=N->∀s:ao,s.all bn->s.length+N<=1001->Hd ⟨48,[ndA t,dZ s],iH (stepF N t s)⟩)(i:N<=300){l:aE}(hk:okNs l)(g:∀x∈l,x.size<=N)(d:l.length<=100000){s:ao}(f:s.all bn)(hn:s.length+N<=1001) :
 Hd ⟨25,[CW l,dZ s],iH (iG (stepF N) l false s)⟩ :=
 X7 (L:=1001 - N) d od (λt b c a e=>⟨h t (okNs_at.1 hk t b) (g t b) c a od,K_step N t c a⟩) f od
def H_step:∀(N:Nat),N<=300->∀t:Tr,okN t->t.size<=N->∀s:ao,s.all bn->s.length+N<=1001->Hd ⟨48,[ndA t,dZ s],iH (stepF N t s)⟩
 | 0,_,t,_,r,_,_,_=>by have:=size_pos t;omega
 | N+1,B,t,e,r,s,p,C=>by
  have u:=H_step N od;have⟨g,v,w,y,c⟩:=t;have m:sizes c<=N:=by simp only[Tr.size]at r;omega
  have o:=cB c;rw[stepF]
  by_cases h:g=3
  .subst h;have hr:=I1 u od e.2 (λx z=>km (og z) m) od p od;simp only[Tr.k0,Tr.args0,if_true];generalize iG (stepF N) c false s=q at *;cases q<;>exact aF func48 [⟨_,hr⟩]
  .rw[if_neg (show ¬(Tr.nd g v w y c).k0=3 from h)]
   cases a:iY (.nd g v w y c)with
   | none =>
    have n:=Pm e;rw[a]at n;exact runT func48 [(10,fA)] [⟨_,n⟩,⟨_,ag 1⟩] (al (oL h) al0)
   | some i =>
    have d:=Rm (N:=N) e od a;refine RQ (UX a) d od a e (M:=1000 - N) ⟨d.Zx,λl f A b k=>?_,λl f A b k=>Wo b od,od⟩ p od;have j:l.length<=100000:=by have:=U7 a f;simp only[Tr.args0]at this;omega
    exact I1 u od (d.Zx l f) (d.rows l f) j b od
def O7{ts:ao}(hk:okTs ts)(hz:tysizes ts<=1000000):Hd ⟨46,[dZ ts],.of (dZ ts)⟩:=by
 refine⟨rM func46,λok w m h=>?_⟩
 match m,h with
 | [v],⟨g,_⟩ =>
  obtain⟨a,c,V,rfl,k,i⟩:=jR hk (.inl rfl) g;refine (copies_any 1000000 ⟨a,c,V,rfl,k,i.ae (λ_ _ _=>trivial)⟩ hz (qS _)).mono ?_;rintro e w' ⟨l,o,p,n,rfl,f,d⟩;exact⟨l,_,rfl,(qV d f).2.keep ⟨qS _,λb _ j=>⟨.inr j,λ_=>rfl⟩⟩⟩
def H_copies0:Hd ⟨46,[nilA],.of nilA⟩:=by
 refine⟨rM func46,λd w f h=>?_⟩
 match f,h with
 | [v],⟨b,_⟩ =>
  obtain⟨a,c,U,rfl,_⟩:=fH (b:fI d w (.s 0 []) v);refine (Jr w a c).mono ?_;rintro e w' ⟨rfl,rfl⟩;exact⟨bM _ _,_,rfl,U1⟩
def Ms{r:iF}(h:yI r):Hd ⟨24,ledA r,iH r⟩:=by
 cases r with
 | no e=>exact aF func24 [⟨_,H_copies0⟩]
 | ok f b =>
  have⟨a,c⟩:=h.2 f b rfl;have:=sz_len a;exact aF func24 [⟨_,O7 (ak a) od⟩]
def Wi{a b:Int}(h:a≠b):mD (aQ (!decide (a=b))) (bA true):=by simp[mD,h,aQ,bA]
def IY{n:Tr}{s:ao}(hk:okN n)(hz:n.size<=4611686018427387904)(u:okTs s):Hd ⟨8,[ndA n,dZ s],iH (codeF n s)⟩:=by
 have c:=K3 hk hz;have⟨f,n0,m,o,b⟩:=n;unfold codeF
 by_cases d:dS (.nd f n0 m o b)=0
 .have k:=(GG d).2;rw[if_neg (by simp[d])];rw[d]at c
  by_cases j:f=3
  .subst j;rw[if_neg (by simp[Tr.k0])]
   by_cases g:(40:Int)<((tysD s).length:Int)
   .have i:=is_lt g;rw[eY]at g;rw[oc];exact runT func8 [(26,bA true)] [⟨_,c⟩,⟨_,ag 7⟩] (al i al0)
   .have i:=wH g;rw[eY]at g;rw[oa];have h:=C9 u
    cases a:s.all bn with
    | false =>
     rw[a]at h;rw[if_neg ot];exact runT func8 [(26,bA false)] [⟨_,c⟩,⟨_,h⟩,⟨_,ag 5⟩] (al i al0)
    | true =>
     rw[a]at h;rw[if_pos rfl];have w:sizes b<=299:=by simp only[Tr.size]at k;omega
     have p:=cB b;have hr:=I1 (H_step 300 (qS _)) (qS _) hk.2 (λx v=>km (og v) od) od a od;have r:=Wo (N:=300) (l:=b) a od;simp only[Tr.args0];generalize iG (stepF 300) b false s=q at *;have t:=Ms r;cases q<;>exact runT func8 [(26,bA false)] [⟨_,c⟩,⟨_,h⟩,⟨_,hr⟩,⟨_,t⟩] (al i al0)
  .rw[if_pos (show (Tr.nd f n0 m o b).k0≠3 from j)];exact runT func8 [(19,bA true)] [⟨_,c⟩,⟨_,ag 1⟩] (al (Wi j) al0)
 .rw[if_pos d];generalize dS (.nd f n0 m o b)=e at *;exact runT func8 [(11,bA true)] [⟨_,c⟩,⟨_,ag e⟩] (al (Wi d) al0)
def EO{n:Tr}{s:ao}{e:Int}(h:codeF n s =.no e):e≠0:=by
 unfold codeF at h;split at h
 .cases h;assumption
 .split at h
  .cases h;decide
  .split at h
   .cases h;decide
   .split at h
    .rename_i a;rcases (Ii (K_step 300) _ false s a).1 e h with rfl|rfl|rfl|rfl<;>decide
    .cases h;decide
def Di{n:Tr}{s:ao}{f:Bool}{ts:ao}(b:okTs s)(h:codeF n s =.ok f ts):okTs ts:=by
 unfold codeF at h;split at h
 .cases h
 .split at h
  .cases h
  .split at h
   .cases h
   .split at h
    .rename_i a;exact ak ((Ii (K_step 300) _ false s a).2 f ts h)
    .cases h
def Zm (f:Bool) (ts:ao):A1:=.agg [.d (.s 2 (tysD ts)),.d (.v (.bool f))]
def SY{f:Bool}{ts:ao}{t:Int}{l:ao}(hk:okTs ts)(a:okT (.nd t l))(hz:tysizes ts<=50000000):Hd ⟨89,[Zm f ts,tyA (.nd t l)],aQ (rU f ts (.nd t l))⟩:=by
 cases f with
 | true=>exact aF func89 []
 | false =>
  match ts,hk,hz with
  | [],_,_=>exact aF func89 []
  | [.nd u m],hk,hz =>
   have h:=Po (U:=.nd t l) hk.1 (by simp only[tysizes]at hz;omega) a;rw[show rU false [.nd u m] (.nd t l)=sameT (.nd u m) (.nd t l) by simp[rU]];generalize sameT (.nd u m) (.nd t l)=b at *;cases b<;>exact aF func89 [⟨_,h⟩]
  | .nd u m :: .nd v k::r,_,_=>exact aF func89 []
def S9{x:Va}(r:x.types.length=2)(A:okV x)(hz:sizes x.code<=6000000):Hd ⟨57,[pF x],aQ (jG x)⟩:=by
 have⟨k,n,a,s,args,types,code⟩:=x;have⟨_,_,hk,u⟩:=A;simp only[Va.types,Va.code]at r hz;obtain⟨i,g,p,j,rfl⟩:=Uk r;have l:=IY (n:=.nd 3 0 0 ⟨#[]⟩ code) (s:=[.nd i g]) ⟨⟨⟨ov,ov⟩,⟨ov,ov⟩,⟨ov,ov⟩,zE _⟩,u⟩ (by simp only[Tr.size];omega) ⟨hk.1,trivial⟩;have z:=KZ u;have m:∀e,codeF (.nd 3 0 0 ⟨#[]⟩ code) [.nd i g] =.no e->e≠0:=λe h=>EO h;have o:∀f d,codeF (.nd 3 0 0 ⟨#[]⟩ code) [.nd i g] =.ok f d->okTs d/\tysizes d<=50000000:=λf d h=>⟨Di (s:=[.nd i g]) (show okTs [.nd i g] from ⟨hk.1,trivial⟩) h,by have:=uV h;have t:=sz_len this.2.1;omega⟩
 have w:jG (.mk k n a s args [.nd i g,.nd p j] code)=(match codeF (.nd 3 0 0 ⟨#[]⟩ code) [.nd i g]with | .no _=>false | .ok f d=>rU f d (.nd p j) && !mintsTs code):=rfl;rw[w];generalize codeF (.nd 3 0 0 ⟨#[]⟩ code) [.nd i g]=q at *
 cases q with
 | no e=>exact runT func57 [(18,fA)] [⟨_,l⟩] (al (oL (m e rfl)) al0)
 | ok f d =>
  have⟨t,y⟩:=o f d rfl;have v:=SY (f:=f) t hk.2.1 y;simp only;generalize rU f d (.nd p j)=b at *;generalize mintsTs code=c at *;cases b
  .exact aF func57 [⟨_,l⟩,⟨_,v⟩]
  .cases c<;>exact aF func57 [⟨_,l⟩,⟨_,v⟩,⟨_,z⟩]
def mr:(prog.info? 36).map (λi=>(i.zero,i.size,i.bytes))=some (some (.agg #[.i 0,.i 0,.i 0,.string ⟨#[]⟩,.n0,.n0,.n0]),7,112):=oA
def dF (B:Nat) (w:bx) (v:cg) (vs:bk):Prop:=w.ownsRow B 36 7 v vs.length (flat vs)
structure iL (K:br) (H:Nat) (w:bx) (v:cg) (ts:an) (vs:bk):Prop where
 own:dF H w v vs
 len:vs.length=ts.length
 lies:∀(i:Nat) (t:Va) (u:cg),ts[i]?=some t->vs[i]?=some u->aA (λb=>(K b\/H<=b)/\some b≠v.ownBlock) w t u
def iL.push{K:br}{H:Nat}{w w':bx}{v v' u:cg}{ts:an}{vs:bk}{t:Va}{S:Nat}(h:iL K H w v ts vs)(f:∀b,K b->b<H)(E:H<=S)(m:∀k,v.ownBlock=some k->k<S)(y:aA (λb=>K b\/S<=b) w t u)(p:Gr w v w' v')(B:dF H w' v' (vs++[u])):iL K H w' v' (ts++[t]) (vs++[u]):=by
 have n:∀t u,aA (λb=>(K b\/H<=b)/\some b≠v.ownBlock) w t u->aA (λb=>(K b\/H<=b)/\some b≠v'.ownBlock) w' t u:=by
  intro t u A;have x:=A.ae (ok':=λb=>(K b\/H<=b)/\some b≠v.ownBlock/\some b≠v'.ownBlock) (λb a hk=>⟨hk.1,hk.2,by
   rcases p.2 with e|⟨g,e,z⟩
   .rw[e];exact hk.2
   .rw[e];simp;omega⟩)
  refine (x.same (w':=w') ?_).ae (λb _ a=>⟨a.1,a.2.2⟩);intro b o a l;exact qt (p.block l a.2.1)
 refine⟨B,by simp[h.len],λi r s c d=>n r s ?_⟩
 by_cases q:i<ts.length
 .rw[jz q]at c;rw[jz (by rw[h.len];exact q)]at d;exact h.lies i r s c d
 .have j:i=ts.length:=by
   have:=(qv.1 c).1;simp at this;omega
  subst j;rw[ju (qS _)]at c;rw[<-h.len,ju (qS _)]at d;simp at c d;subst c;subst d;exact y.ae (λb _ a=>⟨a.imp id od,λe=>by have C:=m b e.symm;have D:=(zp h.own b e.symm).1;rcases a with a|a;have:=f b a;all_goals omega⟩)
def flatV_get:∀(vs:bk),(∀u∈vs,(nodeCells u).length=7)->∀(i j:Nat) (u:cg),vs[i]?=some u->j<7->(flat vs)[i*7+j]?=(nodeCells u)[j]?
 | [],_,i,j,u,h,_=>by simp at h
 | x::vs,a,0,j,u,h,b=>by simp at h;subst h;have:=a x ot;simp only[flat,qd4];rw[jz od];simp
 | x::vs,a,i+1,j,u,h,b=>by have c:=a x ot;have:=flatV_get vs (λu d=>a u (by simp[d])) i j u (by simpa using h) b;simp only[flat,qd4]at this|-;rw[ju od,c,show (i+1)*7+j - 7=i*7+j from by omega];exact this
def iL.done{K:br}{H:Nat}{w:bx}{v:cg}{ts:an}{vs:bk}(h:iL K H w v ts vs)(L:ts.length<=maxLen) :
 ∃(a:bj) (c:Nat) (V:bt),v =.slice a ts.length c/\ts.length<=c/\aT (λb=>K b\/H<=b) w ts a V:=by
 have J:=h.len;have f:∀i (l:i<ts.length),∃u,vs[i]?=some u/\aA (λb=>K b\/H<=b) w ts[i] u:=by
  intro i l;have B:i<vs.length:=od
  exact⟨vs[i],qn B,(h.lies i ts[i] vs[i] (qn l) (qn B)).ae (λb _ E=>E.1)⟩
 have D:∀u∈vs,(nodeCells u).length=7:=by intro u N;obtain⟨i,l,rfl⟩:=ub N;have⟨u,e,m⟩:=f i od;rw[qn l]at e;simp at e;have⟨k,n,p,s,aa,al,ac,ta,tl,tc,na,nl,nc,q⟩:=m.bg;rw[e,q];rfl
 have z:=h.own;unfold dF at z;rcases z.2 with⟨rfl,P⟩|⟨g,r,C,rfl,y,Q,M,F,G,A⟩
 .have t:ts.length=0:=by omega
  exact⟨none,0,λ_=>.i 0,by rw[t],od,od,λi l=>od,λi l=>od⟩
 .refine⟨some ⟨g,0,none⟩,r,λi=>(vs[i]?).getD (.i 0),by rw[J],od,L,λi l=>?_,λi l=>?_⟩
  .have⟨u,e,m⟩:=f i l;have⟨k,n,p,s,aa,al,ac,ta,tl,tc,na,nl,nc,q⟩:=m.bg;have d:∀j x,j<7->(nodeCells u)[j]?=some x->w.cell? ⟨g,i*7+j,none⟩=some x:=by
    intro j x I O;have:=qb0 z (g:=g) rfl (i*7+j) x (by rw[flatV_get vs D i j u e I];exact O);have o:(⟨g,0,none⟩:Addr).add (i*7+j)=⟨g,i*7+j,none⟩:=oX
    rwa [o]at this
   rw[q]at d;refine⟨g,0,rfl,.inr y,k,n,p,s,aa,al,ac,ta,tl,tc,na,nl,nc,by show (vs[i]?).getD _=_;rw[e];exact q,?_,?_,?_,?_,?_,?_,?_⟩
   .have:=d 0 _ od rfl;simpa using this
   .have:=d 1 _ od rfl;simpa using this
   .have:=d 2 _ od rfl;simpa using this
   .have:=d 3 _ od rfl;simpa using this
   .have:=d 4 _ od rfl;simpa using this
   .have:=d 5 _ od rfl;simpa using this
   .have:=d 6 _ od rfl;simpa using this
  .have⟨u,e,m⟩:=f i l;show aA _ _ _ ((vs[i]?).getD _);rw[e];exact m
structure dB (O:br) (w:bx) (O':br) (w':bx):Prop where
 os:w'.os=w.os
 tape:w'.tape=w.tape
 output:w'.output=w.output
 size:w.heap.size<=w'.heap.size
 block:∀b,b<w.heap.size->¬O b->w'.heap[b]?=w.heap[b]?
 new:∀b,O' b->O b\/w.heap.size<=b
def dB.refl(O:br)(w:bx):dB O w O w:=⟨rfl,rfl,rfl,qS _,λ_ _ _=>rfl,λ_ h=>.inl h⟩
def dB.trans{O d e:br}{w i j:bx}(h:dB O w d i)(k:dB d i e j):dB O w e j :=
 ⟨k.os.trans h.os,k.tape.trans h.tape,k.output.trans h.output,km h.size k.size,λb c g=>(k.block b (ki c h.size) (λa=>by rcases h.new b a with f|f;exact g f;omega)).trans (h.block b c g),
  λb c=>by
   rcases k.new b c with a|a
   .exact h.new b a
   .exact .inr (km h.size a)⟩
def dB.grow{O:br}{w w':bx}(h:cm w w' none):dB O w O w':=⟨h.os,h.tape,h.output,h.size,λb a _=>h.block b a ot,λ_ h=>.inl h⟩
def dB.ofRow{O:br}{w w':bx}{r:Option Nat}(h:cm w w' r)(d:∀g,r=some g->O g):dB O w O w' :=
 ⟨h.os,h.tape,h.output,h.size,λb c a=>h.block b c (λe=>a (d b e.symm)),λ_ h=>.inl h⟩
def qx (O:br) (v v':cg):br:=λb=>(O b/\v.ownBlock≠some b)\/v'.ownBlock=some b
def dB.gr{O:br}{w w':bx}{v v':cg}(h:Gr w v w' v')(c:∀g,v.ownBlock=some g->O g):dB O w (qx O v v') w' :=
 ⟨h.1.os,h.1.tape,h.1.output,h.1.size,λb a d=>h.1.block b a (λe=>d (c b e.symm)),λb a=>by
  rcases a with a|a
  .exact .inl a.1
  .rcases h.2 with e|⟨g,e,f⟩
   .rw[e]at a;exact .inl (c b a)
   .rw[e]at a;simp only[qk]at a;exact .inr od⟩
def dB.same{O c:br}{w w':bx}(h:dB O w c w'):Same (λb=>¬O b) w w':=λb o d a=>qt (h.block b a d)
def dB.lies{O c:br}{w w':bx}{x:Va}{u:cg}(h:dB O w c w')(i:aA (λb=>¬O b) w x u):aA (λb=>¬c b) w' x u :=
 ((i.ae (ok':=λb=>¬O b/\¬c b) (λb a f=>⟨f,λg=>by rcases h.new b g with e|e;exact f e;omega⟩)).same (λb o a d=>h.same b o a.1 d)).ae (λb _ a=>a.2)
def dB.Kl{O d:br}{w w':bx}{l:aE}{a:bj}{V:bt}(h:dB O w d w')(j:cK (λb=>¬O b) w l a V):cK (λb=>¬d b) w' l a V :=
 ((j.ae (ok':=λb=>¬O b/\¬d b) (λb c g=>⟨g,λi=>by rcases h.new b i with f|f;exact g f;omega⟩)).same (λb o c e=>h.same b o c.1 e)).ae (λb _ c=>c.2)
def dB.U5{O d:br}{w w':bx}{l:an}{a:bj}{V:bt}(h:dB O w d w')(j:aT (λb=>¬O b) w l a V):aT (λb=>¬d b) w' l a V :=
 ((j.ae (ok':=λb=>¬O b/\¬d b) (λb c g=>⟨g,λi=>by rcases h.new b i with f|f;exact g f;omega⟩)).same (λb o c e=>h.same b o c.1 e)).ae (λb _ c=>c.2)
def fe (w:bx) (b:Nat):Prop:=∃cs e fz,w.heap[b]?=some (.cells cs e fz)/\2<=cs.size
def qz{w:bx}{b o:Nat}{u v:cg}(f:w.cell? ⟨b,o,none⟩=some u)(h:w.cell? ⟨b,o+1,none⟩=some v):fe w b:=by
 unfold World.cell? at h
 cases a:w.heap[b]? with
 | none=>simp[a]at h
 | some d =>
  cases d with
  | cells cs e c =>
   refine⟨cs,e,c,a,?_⟩;simp only[a]at h;have:=(qq.1 h).1;omega
  | _=>simp[a]at h
def bI.LM{ok ok':br}{w:bx}{t:Tr}{v:cg}(h:bI ok w t v)(r:∀b,fe w b->ok b->ok' b):bI ok' w t v:=by
 induction h with
 | mk V q f A y B j _ z =>
  refine .mk (hk:=by assumption) V q f A y B (λi m=>?_) z;have⟨b,o,u,g,k,n,p,s,a,l,c,x,d,e⟩:=j i m;exact⟨b,o,u,r b (qz d e.1) g,k,n,p,s,a,l,c,x,d,e⟩
def cK.LM{ok ok':br}{w:bx}{l:aE}{a:bj}{V:bt}(h:cK ok w l a V)(g:∀b,fe w b->ok b->ok' b):cK ok' w l a V :=
 ⟨h.1,λi d=>by have⟨b,o,m,j,k,n,p,s,a,l,c,q,e,f⟩:=h.2.1 i d;exact⟨b,o,m,g b (qz e f.1) j,k,n,p,s,a,l,c,q,e,f⟩,λi d=>(h.2.2 i d).LM g⟩
def aH.LM{ok ok':br}{w:bx}{t:Ty}{v:cg}(h:aH ok w t v)(p:∀b,fe w b->ok b->ok' b):aH ok' w t v:=by
 induction h with
 | mk V n d u j _ s =>
  refine .mk V n d u (λi m=>?_) s;have⟨b,o,q,g,k,a,l,c,r,e,f⟩:=j i m;exact⟨b,o,q,p b (qz e f) g,k,a,l,c,r,e,f⟩
def dw.LM{ok ok':br}{w:bx}{l:ao}{a:bj}{V:bt}(h:dw ok w l a V)(g:∀b,fe w b->ok b->ok' b):dw ok' w l a V :=
 ⟨h.1,λi d=>by have⟨b,o,m,j,k,a,l,c,n,e,f⟩:=h.2.1 i d;exact⟨b,o,m,g b (qz e f) j,k,a,l,c,n,e,f⟩,λi d=>(h.2.2 i d).LM g⟩
def aA.LM{ok ok':br}{w:bx}{t:Va}{v:cg}(h:aA ok w t v)(d:∀b,fe w b->ok b->ok' b):aA ok' w t v:=by
 induction h with
 | mk V j g u c l C z A m hN q _ B =>
  refine .mk (hnk:=by assumption) V j g u c l C z A (m.LM d) (hN.LM d) (λi r=>?_) B;have⟨b,o,x,p,k,n,a,s,aa,al,ac,ta,tl,tc,na,nl,nc,y,e,f⟩:=q i r;exact⟨b,o,x,d b (qz e f.1) p,k,n,a,s,aa,al,ac,ta,tl,tc,na,nl,nc,y,e,f⟩
def aT.LM{ok ok':br}{w:bx}{l:an}{a:bj}{V:bt}(h:aT ok w l a V)(f:∀b,fe w b->ok b->ok' b):aT ok' w l a V :=
 ⟨h.1,λi c=>by have⟨b,o,j,g,k,n,a,s,aa,al,ac,ta,tl,tc,na,nl,nc,m,d,e⟩:=h.2.1 i c;exact⟨b,o,j,f b (qz d e.1) g,k,n,a,s,aa,al,ac,ta,tl,tc,na,nl,nc,m,d,e⟩,λi c=>(h.2.2 i c).LM f⟩
structure sU (B:Nat) (O:br) (w:bx) (l:an) (v:cg) (us:bk):Prop where
 own:dF B w v us
 len:us.length=l.length
 lies:∀(i:Nat) (x:Va) (u:cg),l[i]?=some x->us[i]?=some u->aA (λb=>¬O b) w x u
 mine:∀g,v.ownBlock=some g->O g
def yF (ra:bj) (rl rc:Nat) (op:Int) (wa:bj) (wl wc:Nat) (aa:bj) (al ac:Nat):cg:=.agg #[.slice ra rl rc,.i op,.slice wa wl wc,.slice aa al ac]
def asideV:cg->cg
 | .agg cs=>(cs[3]?).getD (.n0)
 | v=>v
def lM (f:Fr) (u:cg):List Nat:=if f.op=67 then (asideV u).ownBlock.toList else []
def wU (B:Nat) (O:br) (w:bx) (f:Fr) (u:cg):Prop :=
 ∃ra rc wa wc aa ac VR VW,u=yF ra f.rest.length rc f.op wa f.row.length wc aa f.aside.length ac/\bD f.op/\(f.rest.length<=rc/\f.row.length<=wc/\f.aside.length<=ac)/\cK (λb=>¬O b) w f.rest ra VR/\cK (λb=>¬O b) w f.row wa VW /\
  (f.op=67->∃us,sU B O w f.aside (.slice aa f.aside.length ac) us)/\(f.op≠67->∃VA,aT (λb=>¬O b) w f.aside aa VA)
def jc (B:Nat) (O:br) (w:bx):List Fr->bk->Prop
 | [],[]=>True
 | f::fs,u::us=>wU B O w f u/\jc B O w fs us
 | [],_::_=>False
 | _::_,[]=>False
def keptBs:List Fr->bk->List Nat
 | f::fs,u::us=>lM f u++keptBs fs us
 | _,_=>[]
def kU (B:Nat) (w:bx) (v:cg) (us:bk):Prop:=w.ownsRow B 68 4 v us.length (flat us)
def yG (en:En) (aC paid aO k n a:Int) (s:bo) (aa:bj) (al ac:Nat) (ta:bj) (tl tc:Nat) (na:bj) (nl nc:Nat) (sv fv:cg):Array cg :=
 #[.i en.self,.i en.sender,.i en.amount,.i en.balance,.i aC,.i paid,.i aO,.i k,.i n,.i a,.string s,.slice aa al ac,.slice ta tl tc,.slice na nl nc,sv,fv]
structure bU (B:Nat) (O:br) (w:bx) (mb:Nat) (en:En) (aC:Int) (m:Ma) (k n a:Int) (s:bo) (aa:bj) (al ac:Nat) (ta:bj) (tl tc:Nat) (na:bj) (nl nc:Nat) (sv fv:cg) (us fs:bk):Prop where
 blk:w.heap[mb]?=some (.cells (yG en aC m.paid m.aO k n a s aa al ac ta tl tc na nl nc sv fv) 65)
 said:aA (λb=>¬O b) w m.said (bg k n a s aa al ac ta tl tc na nl nc)
 jL:sU B O w m.st.reverse sv us
 own:kU B w fv fs
 sZ:jc B O w m.fr.reverse fs
 nodup:(sv.ownBlock.toList++keptBs m.fr.reverse fs).Nodup
 mine:O mb/\∀g,fv.ownBlock=some g->O g
 low:∀b,O b->B<=b
 cells:∀b,O b->∃cs e,w.heap[b]?=some (.cells cs e)
 num:bD m.paid/\bD m.aO/\bD aC
def dm (B:Nat) (O:br) (w:bx) (mb:Nat) (en:En) (aC:Int) (m:Ma):Prop:=∃k n a s aa al ac ta tl tc na nl nc sv fv us fs,bU B O w mb en aC m k n a s aa al ac ta tl tc na nl nc sv fv us fs
def iT{w w':bx}{B:Nat}{e:TypeId}{size n:Nat}{v:cg}{xs:bk}(h:w.ownsRow B e size v n xs)(hb:∀g,v.ownBlock=some g->w'.heap[g]?=w.heap[g]?):w'.ownsRow B e size v n xs:=by
 refine⟨h.1,?_⟩;rcases h.2 with h|⟨g,a,b,rfl,c,d,f⟩
 .exact .inl h
 .exact .inr ⟨g,a,b,rfl,c,(hb g rfl).trans d,f⟩
def sU.kept{B:Nat}{O a:br}{w w':bx}{l:an}{v:cg}{us:bk}(h:sU B O w l v us)(b:dB O w a w')(hb:∀g,v.ownBlock=some g->a g/\w'.heap[g]?=w.heap[g]?):sU B a w' l v us :=
 ⟨iT h.own λg e=>(hb g e).2,h.len,λi x u f d=>b.lies (h.lies i x u f d),λg c=>(hb g c).1⟩
def wU.kept{B:Nat}{O c:br}{w w':bx}{f:Fr}{u:cg}(h:wU B O w f u)(b:dB O w c w')(hb:∀g∈lM f u,c g/\w'.heap[g]?=w.heap[g]?):wU B c w' f u:=by
 obtain⟨r,s,t,wc,aa,ac,i,j,rfl,k,l,m,n,o,p⟩:=h;refine⟨r,s,t,wc,aa,ac,i,j,rfl,k,l,b.Kl m,b.Kl n,λa=>?_,λa=>?_⟩
 .have⟨us,d⟩:=o a;exact⟨us,d.kept b λg q=>hb g (by simp[lM,asideV,yF,a,q])⟩
 .have⟨e,d⟩:=p a;exact⟨e,b.U5 d⟩
def jc.kept{B:Nat}{O a:br}{w w':bx}(d:dB O w a w'):∀{fs:List Fr}{us:bk},jc B O w fs us->(∀g∈keptBs fs us,a g/\w'.heap[g]?=w.heap[g]?)->jc B a w' fs us
 | [],[],_,_=>trivial
 | f::fs,u::us,h,c=>⟨h.1.kept d λg b=>c g (by simp[keptBs,b]),jc.kept d h.2 λg b=>c g (by simp[keptBs,b])⟩
 | [],_::_,h,_=>h.elim
 | _::_,[],h,_=>h.elim
def wU.mine{B:Nat}{O:br}{w:bx}{f:Fr}{u:cg}(h:wU B O w f u){g:Nat}(a:g∈lM f u):O g/\∃cs,w.heap[g]?=some (.cells cs 36):=by
 obtain⟨t,v,x,wc,aa,ac,l,m,rfl,o,p,q,r,j,s⟩:=h;unfold lM at a;split at a
 .rename_i b;have⟨us,c⟩:=j b;have a:(Value.slice aa f.aside.length ac).ownBlock=some g:=Option.mem_toList.1 a;refine⟨c.mine g a,?_⟩;rcases c.own.2 with⟨e,_⟩|⟨n,d,i,e,_,k,_⟩
  .rw[e]at a;cases a
  .rw[e]at a;cases a;exact⟨_,k⟩
 .simp at a
def jc.mine{B:Nat}{O:br}{w:bx} : ∀{fs:List Fr}{us:bk},jc B O w fs us->∀g∈keptBs fs us,O g/\∃cs,w.heap[g]?=some (.cells cs 36)
 | f::fs,u::us,h,g,a=>by
  simp only[keptBs,xb]at a;rcases a with a|a
  .exact h.1.mine a
  .exact jc.mine h.2 g a
 | [],_,_,g,a=>by simp[keptBs]at a
 | _::_,[],h,_,_=>h.elim
section
variable {B:Nat}{O O':br}{w w':bx}{mb:Nat}{en:En}{aC:Int}{m:Ma}{k n a:Int}{s:bo}{aa:bj}{al ac:Nat}{ta:bj}{tl tc:Nat}{na:bj}{nl nc:Nat}{sv fv:cg}{us fs:bk}
def bU.high(h:bU B O w mb en aC m k n a s aa al ac ta tl tc na nl nc sv fv us fs)(b:Nat)(hb:O b):b<w.heap.size:=by have⟨cs,e,c⟩:=h.cells b hb;exact (qq.1 c).1
def bU.grow(h:bU B O w mb en aC m k n a s aa al ac ta tl tc na nl nc sv fv us fs)(i:cm w w' none):bU B O w' mb en aC m k n a s aa al ac ta tl tc na nl nc sv fv us fs:=by have f:dB O w O w':=dB.grow i;have d:∀g,O g->w'.heap[g]?=w.heap[g]?:=λg e=>i.block g (h.high g e) ot;exact⟨(d mb h.mine.1).trans h.blk,f.lies h.said,h.jL.kept f λg c=>⟨h.jL.mine g c,d g (h.jL.mine g c)⟩,iT h.own λg c=>d g (h.mine.2 g c),h.sZ.kept f λg c=>⟨(h.sZ.mine g c).1,d g (h.sZ.mine g c).1⟩,h.nodup,h.mine,h.low,λb e=>by rw[d b e];exact h.cells b e,h.num⟩
def Cx{W c:bx}{row:Option Nat}(f:cm W c row)(h:∀r,row=some r->¬fe W r){b:Nat}(hb:fe W b):c.heap[b]?=W.heap[b]?:=by have a:=hb;have⟨cs,e,i,g,_⟩:=hb;exact f.block b (qq.1 g).1 (λd=>h b d.symm a)
def DZ{W:bx}{r:Nat}(h:∃o:Obj,W.heap[r]?=some o/\o.isCells=false):¬fe W r:=by rintro⟨cs,e,d,c,_⟩;have⟨o,a,b⟩:=h;rw[c]at a;cases a;cases b
def vK{W a:bx}{row:Option Nat}{O:br}(d:cm W a row)(f:∀r,row=some r->¬fe W r/\¬O r):Same (λb=>¬O b/\fe W b) W a:=λb o c _=>qt (Cx d (λr e=>(f r e).1) c.2)
def Eo{W a:bx}{row:Option Nat}{x:Va}{u:cg}(f:cm W a row)(g:∀r,row=some r->¬fe W r/\¬O r)(h:aA (λb=>¬O b) W x u):aA (λb=>¬O b) a x u :=
 ((h.LM (ok':=λb=>¬O b/\fe W b) λb e c=>⟨c,e⟩).same (vK f g)).ae λb _ d=>d.1
def sU.turn{W a:bx}{row:Option Nat}{l:an}{v:cg}{us:bk}(b:cm W a row)(c:∀r,row=some r->¬fe W r/\¬O r)(h:sU B O W l v us):sU B O a l v us:=by exact⟨iT h.own λg e=>b.block g (zp h.own g e).2 (λd=>(c g d.symm).2 (h.mine g e)),h.len,λi x u j f=>Eo b c (h.lies i x u j f),h.mine⟩
def jc.turn{W k:bx}{row:Option Nat}(g:cm W k row)(i:∀r,row=some r->¬fe W r/\¬O r):∀{fs:List Fr}{us:bk},jc B O W fs us->jc B O k fs us
 | [],[],_=>trivial
 | f::fs,u::us,h=>by
  refine⟨?_,jc.turn g i h.2⟩;obtain⟨v,w,x,wc,aa,ac,l,m,rfl,n,o,p,q,s,t⟩:=h.1;exact⟨v,w,x,wc,aa,ac,l,m,rfl,n,o,((p.LM (ok':=λb=>¬O b/\fe W b) λb e c=>⟨c,e⟩).same (vK g i)).ae λb _ d=>d.1,((q.LM (ok':=λb=>¬O b/\fe W b) λb e c=>⟨c,e⟩).same (vK g i)).ae λb _ d=>d.1,
   λa=>(s a).imp λus j=>j.turn g i,λa=>(t a).imp λy j=>((j.LM (ok':=λb=>¬O b/\fe W b) λb e c=>⟨c,e⟩).same (vK g i)).ae λb _ d=>d.1⟩
 | [],_::_,h=>h.elim
 | _::_,[],h=>h.elim
def bU.turn{row:Option Nat}(h:bU B O w mb en aC m k n a s aa al ac ta tl tc na nl nc sv fv us fs)(d:cm w w' row)(f:∀r,row=some r->¬fe w r/\¬O r):bU B O w' mb en aC m k n a s aa al ac ta tl tc na nl nc sv fv us fs:=by have i:∀b,O b->w'.heap[b]?=w.heap[b]?:=λb c=>d.block b (h.high b c) (λe=>(f b e.symm).2 c);exact⟨(i mb h.mine.1).trans h.blk,Eo d f h.said,h.jL.turn d f,iT h.own λg e=>i g (h.mine.2 g e),h.sZ.turn d f,h.nodup,h.mine,h.low,λb c=>by rw[i b c];exact h.cells b c,h.num⟩
def bU.stack(h:bU B O w mb en aC m k n a s aa al ac ta tl tc na nl nc sv fv us fs)(o:dB O w O' w'){st:an}{sv':cg}{us':bk}(f:w'.heap[mb]?=some (.cells (yG en aC m.paid m.aO k n a s aa al ac ta tl tc na nl nc sv' fv) 65))
 (hstk:sU B O' w' st.reverse sv' us') (hnd:sv'.ownBlock=sv.ownBlock\/sv'.ownBlock=none\/∃g,sv'.ownBlock=some g/\w.heap.size<=g) (hO:∀g,O g->sv.ownBlock≠some g->O' g) (hk:∀g,O g->g≠mb->sv.ownBlock≠some g->w'.heap[g]?=w.heap[g]?) (hcells:∀b,O' b->∃cs e,w'.heap[b]?=some (.cells cs e)) :
 bU B O' w' mb en aC { m with st:=st } k n a s aa al ac ta tl tc na nl nc sv' fv us' fs:=by
 have l:∀g,fv.ownBlock=some g->g≠mb/\sv.ownBlock≠some g:=λg c=>by
  have z:=h.own;rcases z.2 with⟨e,_⟩|⟨C,r,t,e,_,i,_⟩
  .rw[e]at c;cases c
  .rw[e]at c;cases c;refine⟨dC i h.blk ov,λu=>?_⟩;have:=aD h.jL.own i ov;exact this u.symm
 have j:∀g∈keptBs m.fr.reverse fs,g≠mb/\sv.ownBlock≠some g:=λg c=>by have⟨_,cs,i⟩:=h.sZ.mine g c;refine⟨dC i h.blk ov,λe=>?_⟩;have:=qc6.1 h.nodup;exact this.2.2 g (by simp[e]) g c rfl
 refine⟨f,o.lies h.said,hstk,iT h.own λg d=>hk g (h.mine.2 g d) (l g d).1 (l g d).2,h.sZ.kept o λg d=>⟨hO g (h.sZ.mine g d).1 (j g d).2,hk g (h.sZ.mine g d).1 (j g d).1 (j g d).2⟩,?_,⟨hO _ h.mine.1 (λe=>aD h.jL.own h.blk ov e.symm),λg c=>hO _ (h.mine.2 g c) (l g c).2⟩,λb v=>?_,hcells,h.num⟩
 .rcases hnd with e|e|⟨g,e,c⟩
  .rw[e];exact h.nodup
  .rw[e];exact (qc6.1 h.nodup).2.1
  .rw[e];refine qc6.2 ⟨ot,(qc6.1 h.nodup).2.1,λx q y A=>?_⟩;simp at q;subst q;have:=h.high y (h.sZ.mine y A).1;omega
 .rcases o.new b v with p|p
  .exact h.low b p
  .have:=h.low _ h.mine.1;have:=h.high _ h.mine.1;omega
def iM{w:bx}{b:Nat}{T:TypeId}{c d:Int}(h:w.heap[b]?=some (.cells (yG en aC c d k n a s aa al ac ta tl tc na nl nc sv fv) T)) :
 w.cell? ⟨b,0,none⟩=some (.i en.self)/\w.cell? ⟨b,1,none⟩=some (.i en.sender)/\w.cell? ⟨b,2,none⟩=some (.i en.amount)/\w.cell? ⟨b,3,none⟩=some (.i en.balance)/\w.cell? ⟨b,4,none⟩=some (.i aC)/\w.cell? ⟨b,5,none⟩=some (.i c)/\w.cell? ⟨b,6,none⟩=some (.i d) /\
 w.cell? ⟨b,14,none⟩=some sv/\w.cell? ⟨b,15,none⟩=some fv/\∀o,w.frozen? ⟨b,o,none⟩=false:=by
 simp[World.cell?,World.frozen?,h,yG]
def nG{w:bx}{b:Nat}{T:TypeId}{c d:Int}(h:w.heap[b]?=some (.cells (yG en aC c d k n a s aa al ac ta tl tc na nl nc sv fv) T))(v:cg) :
 (w.setCell ⟨b,14,none⟩ v).heap[b]?=some (.cells (yG en aC c d k n a s aa al ac ta tl tc na nl nc v fv) T)/\(w.setCell ⟨b,15,none⟩ v).heap[b]?=some (.cells (yG en aC c d k n a s aa al ac ta tl tc na nl nc sv v) T) /\
 (∀q:Int,(w.setCell ⟨b,5,none⟩ (.i q)).heap[b]?=some (.cells (yG en aC q d k n a s aa al ac ta tl tc na nl nc sv fv) T))/\(∀q:Int,(w.setCell ⟨b,6,none⟩ (.i q)).heap[b]?=some (.cells (yG en aC c q k n a s aa al ac ta tl tc na nl nc sv fv) T)):=by
 unfold yG at h|-;simp[World.setCell,ux,h]
end
def qW (w:bx) (g:Nat) (y0 y1 y2 y3 y4 y5 y6:cg):bx:=((((((w.setCell ⟨g,0,none⟩ y0).setCell ⟨g,1,none⟩ y1).setCell ⟨g,2,none⟩ y2).setCell ⟨g,3,none⟩ y3).setCell ⟨g,4,none⟩ y4).setCell ⟨g,5,none⟩ y5).setCell ⟨g,6,none⟩ y6
def wN{w:bx}{g:Nat}{T:TypeId}{x0 j k l m n o:cg}(h:w.heap[g]?=some (.cells #[x0,j,k,l,m,n,o] T (0,0)))(a b c d e f i:cg) :
 (qW w g a b c d e f i).heap[g]?=some (.cells #[a,b,c,d,e,f,i] T (0,0)):=by
 simp[qW,World.setCell,ux,h]
def zy(w:bx)(g:Nat)(a b c d e f h:cg):cm w (qW w g a b c d e f h) (some g) :=
 dY (dY (dY (dY (dY (dY (dY (bM _ _) _ _ _) _ _ _) _ _ _) _ _ _) _ _ _) _ _ _) _ _ _
def qD{w:bx}{g:Nat}{T:TypeId}{x0 a b c d e f:cg}(h:w.heap[g]?=some (.cells #[x0,a,b,c,d,e,f] T (0,0))):∀o,w.frozen? ⟨g,o,none⟩=false:=by intro o;simp[World.frozen?,h]
