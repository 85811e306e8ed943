import Derived.Test.YtgfdimkbfnpepaaGreatKfZak
namespace Go.Proofs.YtgfdimkbfnpepaaGreat
set_option linter.all false
open Go.Proofs.Tryz
set_option maxRecDepth 100000
set_option maxHeartbeats 4000000
open Pe
def sS (r:iF):Prop:=(∀e,r =.no e->SA e)/\∀f ts,r =.ok f ts->okTs ts
def WA{r:iF}(h:sS r):Hd ⟨47,ledA r,iH (keptF r)⟩:=by
 cases r with
 | no e =>
  have hr:=ag e;rcases h.1 e rfl with rfl|rfl|rfl|rfl
  all_goals exact aF func47 [⟨_,hr⟩]
 | ok f a =>
  have hk:=h.2 f a rfl
  by_cases b:(40:Int)<((tysD a).length:Int)
  .have g:=is_lt b;rw[eY]at b;rw[show keptF (.ok f a) =.no 7 by simp only[keptF];rw[oc]];exact runT func47 [(17,bA true)] [⟨_,ag 7⟩] (al g al0)
  .have g:=wH b;rw[eY]at b;have c:=C9 hk
   cases d:a.all bn with
   | true =>
    rw[d]at c;rw[show keptF (.ok f a) =.ok f a by simp only[keptF];rw[oa,if_pos d]];exact runT func47 [(17,bA false)] [⟨_,c⟩] (al g al0)
   | false =>
    rw[d]at c;rw[show keptF (.ok f a) =.no 4 by simp only[keptF];rw[oa,if_neg (by simp[d])]];exact runT func47 [(17,bA false)] [⟨_,c⟩,⟨_,ag 4⟩] (al g al0)
def Oj (l:aE) (j:Nat) (f:Bool) (cur:ao):St :=
 [((0,4),.of (.one (.p 4 0))),((0,5),.of (iA 0)),((0,6),.of (.one (.p 6 0))),((0,13),.of (CW l)),((0,14),lW (ndsD l).length),((0,15),.of (jA j)),
  ((5,0),.of nilA),((5,1),.of (bA false)),((7,0),.of (dZ cur)),((7,1),.of (bA f))]
def rowE:iF->Nat
 | .no _=>1
 | .ok _ _=>2
def rowP (l:aE):iF->St
 | .no e=>[((0,4),.of (.one (.p 4 0))),((0,5),.of (iA e)),((5,0),.of nilA),((5,1),.of (bA false))]
 | .ok f ts=>Oj l l.length f ts
def LA{r:iF}(h:sS r):yI (keptF r):=by
 cases r with
 | no e=>exact⟨λc a=>h.1 c (by simpa[keptF]using a),λf b a=>by simp[keptF]at a⟩
 | ok f b =>
  refine⟨λe a=>?_,λf b a=>by have⟨_,g,d⟩:=nP a;exact⟨d,od⟩⟩;simp only[keptF]at a;split at a
  .cases a;exact .inr (.inr (.inr rfl))
  .split at a
   .cases a
   .cases a;exact .inr (.inl rfl)
def Ry{l:aE}{st:Tr->ao->iF}{L:Nat}(E:l.length<=100000)(F:40<=L)(w:∀t∈l,∀s:ao,s.all bn->s.length<=L->Hd ⟨48,[ndA t,dZ s],iH (st t s)⟩/\sS (st t s)) :
 ∀(k j:Nat) (f:Bool) (c:ao),j+k=l.length->c.all bn->c.length<=L->vO prog f25.ntmps ⟨gF f25,Oj l j f c,rowE (iG st (l.drop j) f c),rowP l (iG st (l.drop j) f c)⟩:=λk=>by
 induction k with
 | zero =>
  intro j f c G C D;have v:=wH (a:=Int.ofNat j) (b:=((ndsD l).length:Int)) Kf;obtain rfl:j=l.length:=od
  rw[List.drop_length];exact xQ (e:=1) [(16,bA false)] [] (al v al0)
 | succ k K =>
  intro j f c G C D;have i:j<l.length:=od
  have v:=is_lt (a:=Int.ofNat j) (b:=((ndsD l).length:Int)) Kf;have x:=WV (qn i);have J:mD (lW (IntKind.i64.wrap (Int.ofNat j+1))) (jA (j+1)):=yY (zF ot oB oB);have u:l[j]∈l:=kA i;rw[qa0 i];generalize l[j]=t at *
  cases f with
  | true =>
   have⟨m,n0,n,o,d⟩:=t;exact xQ (e:=0) [(16,bA true),(17,.one (.e (ndD (.nd m n0 n o d)) 0))] [⟨_,ag 1⟩] (al v (al x al0))
  | false =>
   have⟨y,B⟩:=w t u c C D;have z:=WA B;have A:=LA B;rw[show iG st (t::l.drop (j+1)) false c=(match keptF (st t c)with | .no e=>.no e | .ok g M=>iG st (l.drop (j+1)) g M) by simp only[iG,ja2,if_false];cases keptF (st t c)<;>rfl];have I:∀f p,keptF (st t c) =.ok f p->p.length<=40:=λf p h=>(nP h).2.1;generalize keptF (st t c)=q at *;generalize st t c=r at *;have⟨m,n0,n,o,d⟩:=t
   cases q with
   | no e =>
    have hr:=ag e;rcases A.1 e rfl with rfl|rfl|rfl|rfl
    all_goals cases r<;>exact xQ (e:=0) [(16,bA true),(17,.one (.e (ndD (.nd m n0 n o d)) 0))] [⟨_,y⟩,⟨_,z⟩,⟨_,hr⟩] (al v (al x al0))
   | ok g p =>
    have H:=K (j+1) g p od (A.2 g p rfl).1 (by have:=I g p rfl;omega);cases r<;>exact LG [(16,bA true),(17,.one (.e (ndD (.nd m n0 n o d)) 0)),(41,jA (j+1))] [⟨_,y⟩,⟨_,z⟩] H (al v (al x (al J al0)))
def X7{l:aE}{st:Tr->ao->iF}{L:Nat}(b:l.length<=100000)(d:40<=L)(h:∀t∈l,∀s:ao,s.all bn->s.length<=L->Hd ⟨48,[ndA t,dZ s],iH (st t s)⟩/\sS (st t s)){s:ao}(j:s.all bn)(i:s.length<=L) :
 Hd ⟨25,[CW l,dZ s],iH (iG st l false s)⟩:=by
 have g:=Ry b d h l.length 0 false s od j i;rw[je4]at g;generalize iG st l false s=q at *
 cases q with
 | no e=>exact Ce func25 [] [⟨gF f25,Oj l 0 false s,1,rowP l (.no e)⟩] (by intro x c;rw[jx]at c;subst c;exact g) [] (ob:=(gF f25=gF f25)::(Oj l 0 false s).map (λx=>some x.2=some x.2)) (λp a=>by
  rcases zj.1 a with rfl|a
  .rfl
  .obtain⟨x,_,rfl⟩:=yv.1 a;rfl)
 | ok f k=>exact Ce func25 [] [⟨gF f25,Oj l 0 false s,2,rowP l (.ok f k)⟩] (by intro x c;rw[jx]at c;subst c;exact g) [] (ob:=(gF f25=gF f25)::(Oj l 0 false s).map (λx=>some x.2=some x.2)) (λp a=>by
  rcases zj.1 a with rfl|a
  .rfl
  .obtain⟨x,_,rfl⟩:=yv.1 a;rfl)
open Go.ChangeShapes Go.WideShapes Go.ChangeAt Go.RowKit
def wo (ts:ao) (W:bx) (e:Ending) (w':bx):Prop :=
 cm W w' none/\∃a c V,e =.returned (.slice a ts.length c)/\ts.length<=c/\dw (W.heap.size <= ·) w' ts a V
def gz.V9{H:Nat}{w w':bx}{v:cg}{ts:ao}{vs:bk}(h:gz H w v ts vs)(c:cm w w' none):gz H w' v ts vs:=by refine⟨yd h.own c ?_,h.len,λi t u d e=>(h.lies i t u d e).same (λb o _ a=>qt (c.block b a ot))⟩;cases v.ownBlock<;>simp
def KD(ts:ao)(j:Nat)(h:j<ts.length):ts.take (j+1)=ts.take j++[ts[j]]:=by rw[qa5 h]
def copies_any:∀(N:Nat) {W:bx}{ts:ao}{a:bj}{l c:Nat},jo W ts (.slice a l c)->tysizes ts<=N->N<=1000000->Calls prog 46 #[.slice a l c] W (wo ts W):=by
 intro N
 induction N with
 | zero =>
  intro W ts a l c H hz hN;have h0:ts.length=0:=by have:=pW ts;omega
  have⟨hl,P,_⟩:=H.len;obtain rfl:l=0:=od
  obtain rfl:ts=[]:=jt h0;clear H hz hl P;go_enter func46,ntmps46;go_wp2_with fail;go_loopw [3,8] (λlv U wr=>wr=W/\lv =.n0/\U =.i 0) (λ_ _ _=>0)
  case atStart=>exact⟨rfl,rfl,rfl⟩
  case round =>
   obtain⟨hw,rfl,rfl⟩:=hrel;replace hw:=hw.symm;subst hw;go_wp2;go_ret;exact⟨bM _ _,none,0,λ_=>.i 0,rfl,qS _,dw.nil _ _ _ _⟩
 | succ N ih =>
  intro W ts a l c H hz hN;have⟨hl,P,hm⟩:=H.len;subst hl;unfold maxLen at hm;have bl:=pW ts;have HS:=jh H;have ah:Hid (∀{W:bx} {ts:ao} {a:bj} {l c:Nat},jo W ts (.slice a l c)->tysizes ts<=N->Calls prog 46 #[.slice a l c] W (wo ts W)):=λF u=>ih F u od;have HZ:=jh hz;clear H ih hz;go_enter func46,ntmps46;go_wp2_with fail;go_loopw [3,8] (λlv U wr=>∃(j:Nat) (V:bk),j<=ts.length/\U =.i j/\gz W.heap.size wr lv (ts.take j) V/\cm W wr none) (λ_ U _=>ts.length - (intOf U).toNat)
  case atStart=>exact⟨0,[],zv _,rfl,gz.nil _ _,bM _ _⟩
  case round =>
   obtain⟨j,V,hj,rfl,m,G⟩:=hrel;have C:=m.len;rw[qc0,jc6 hj]at C
   by_cases q:j<ts.length
   .obtain⟨b,o,t,D,I,E,rfl,x0,x1,Y⟩:=(HS.out.grow G).at j q;have T:bB ts j=ts[j]:=by unfold bB;rw[qn q];rfl
    rw[T]at Y;rw[show 2*j=j*2 from jb5 _ _]at x0 x1;rw[<-qe6]at x1;have ba:(j:Int)<(ts.length:Int):=od
    have x:tysizes (ts[j]).args<=N:=by
     have F:=jS (kA q);have u:=HZ.out;have h3:(ts[j]).size=tysizes (ts[j]).args+1:=by cases ts[j];rfl
     omega
    have⟨ht,f⟩:=Y.args;have it:bD t:=by have⟨_,_,_,_,h,_⟩:=Y.inv;rw[ht]at h;exact h
    have hT:ts[j] =.nd t (ts[j]).args:=by rw[<-ht];cases ts[j];rfl
    have bc:V.length<=1000000000000:=by have:=HZ.out;omega
    have au:=jh hT;clear hT;have p:=aK (w:=wr) (.cells #[.i t,.slice D I E] 54);have A:=jj wr (.cells #[.i t,.slice D I E] 54);have n3:some wr.heap.size≠u3.ownBlock:=λe=>by have:=(zd m.own wr.heap.size e.symm).2;omega
    have y:Hid (∀X,cm wr X none->Calls prog 46 #[.slice D I E] X (wo (ts[j]).args X)):=λX u=>ah (f.grow u) x;have⟨HK,HG,ad⟩:=we (m.V9 p) (aJ G p) p;have bf:W.heap.size<=wr.heap.size:=G.size;have aq:Hid (∀k,u3.ownBlock=some k->k<wr.heap.size):=λk hk=>(zd m.own k hk).2;clear Y T x ht f p m G;go_wp2_with fail;have d:wr.heap.size<(wr.alloc (.cells #[.i t,.slice D I E] 54)).heap.size:=ot
    generalize wr.alloc (.cells #[.i t,.slice D I E] 54)=s at *;have y0:∀r,cm s r u3.ownBlock->r.cell? ⟨wr.heap.size,0,none⟩=some (.i t):=λr h=>xq ((h.block _ d n3).trans A);have y1:∀r,cm s r u3.ownBlock->r.cell? ⟨wr.heap.size,1,none⟩=some (.slice D I E):=λr h=>wy ((h.block _ d n3).trans A);have ay:cm s s u3.ownBlock:=bM _ _;have L:=jh d;clear A n3 x0 x1 d;go_region_held3 (λr=>cm s r u3.ownBlock) (first|with_reducible assumption|with_reducible exact fK (bM _ _)|with_reducible exact fF oS (kL (aK _))) (first
     | (go_at_call 46;refine (y _ (fK ad)).mono ?_;rintro e w2 bb;obtain⟨n,a2,c2,V2,rfl,aO,R⟩:=bb;have z:=jh (HK.V9 (KJ n));have J:=jh (aJ HG (KJ n));have ar:=jh R;have az:cm s w2 u3.ownBlock:=kL (KJ n);clear n R)
     | (refine p8 W.heap.size V t a2 (ts[j]).args.length c2 w2 u3 rfl (.tmp 12) (.tmp 19) rfl rfl rfl rfl z.own J.size bc ?_;intro g ax w6 Q B;have aC:cm s w6 u3.ownBlock:=fF az B.1;have aj:=jh Q;have K:=jh B;clear Q B))
    have ai:Hid (aH (s.heap.size <= ·) w2 ts[j] (bY t a2 (ts[j]).args.length c2)):=by have h:=aH.ofRow (t:=t) it aO ar;rw[<-au.out]at h;exact h
    have HP:=jh (z.push (S:=wr.heap.size) bf aq (ai.ae (λb _ h=>by have F:=L.out;have u:s.heap.size<=b:=h;show wr.heap.size<=b;omega)) K aj);have ab:=jh (dX J z.own (qS _) K.1);clear aC y0 y1 ay;go_wp2;go_roundw
    case rel =>
     refine⟨j+1,V++[bY t a2 (ts[j]).args.length c2],od,OS,?_,ab⟩;rw[KD ts j q];have h:=HP.out;rw[C]at h;exact h
    case measure=>simp[intOf];omega
   .have O:ts.take j=ts:=qb2 od;rw[O]at m;have⟨a5,c5,V5,Z,F,u⟩:=m.done;have v:ts.length<=c5:=by
     rcases m.own.2 with⟨e2,h0⟩|⟨g,ax,bh,e2,_,_,h4,h5,_⟩
     .have:=m.len;omega
     .rw[e2]at Z;simp only[kj]at Z;omega
    have HV:=jh Z;have M:Hid (dw (W.heap.size <= ·) wr ts a5 V5):=⟨On,F,u⟩;have HG:=jh G;have aa:=jh v;have ba:¬(j:Int)<(ts.length:Int):=od
    clear m Z F u G v O C;go_wp2;go_ret;exact⟨HG,a5,c5,V5,by rw[HV.out];rfl,aa,M⟩
def Jr(W:bx)(a:bj)(c:Nat):Calls prog 46 #[.slice a 0 c] W λe w'=>e =.returned (.n0)/\w'=W:=by
 go_enter func46,ntmps46;go_wp2_with fail;go_loopw [3,8] (λf d wr=>wr=W/\f =.n0/\d =.i 0) (λ_ _ _=>0)
 case atStart=>exact⟨rfl,rfl,rfl⟩
 case round =>
  obtain⟨b,rfl,rfl⟩:=hrel;replace b:=b.symm;subst b;go_wp2;go_ret;exact⟨rfl,rfl⟩
def TS{n:Tr}{s ts:ao}{f:Bool}(h:codeF n s =.ok f ts):dS n=0/\n.k0=3/\s.length<=40/\s.all bn/\iG (stepF 300) n.args0 false s =.ok f ts:=by
 unfold codeF at h
 by_cases a:dS n=0
 .by_cases b:n.k0=3
  .by_cases c:40<s.length
   .simp[a,b,c]at h
   .by_cases d:s.all bn
    .rw[if_neg (by simp[a]),if_neg (by simp[b]),if_neg c,if_pos d]at h;exact⟨a,b,od,d,h⟩
    .rw[if_neg (by simp[a]),if_neg (by simp[b]),if_neg c,if_neg d]at h;cases h
  .rw[if_neg (by simp[a]),if_pos b]at h;cases h
 .rw[if_pos a]at h;cases h
def uV{n:Tr}{s ts:ao}{f:Bool}(h:codeF n s =.ok f ts):ts.length<=40/\ts.all bn/\(f->ts=[]):=by have⟨_,_,a,b,c⟩:=TS h;exact Ec (noTys_step 300) _ _ _ a b ot c
def GG{n:Tr}(h:dS n=0):bG 2 n.args0=0/\n.size<=300:=by
 have⟨k,m,p,s,a⟩:=n;unfold dS at h
 by_cases b:bC 1 (.nd k m p s a)=0
 .rw[if_neg (by simp[b])]at h
  by_cases d:300<(Tr.nd k m p s a).size
  .rw[if_pos d]at h;cases h
  .refine⟨?_,od⟩;rw[bC,oa]at b
   by_cases c:Lf.fD k m p s a.length=0
   .rw[if_neg (by simp[c])]at b;exact b
   .rw[if_pos c]at b;exact absurd b c
 .rw[if_pos b]at h;exact absurd h b
def Zd (i:Ins):A1:=uq i.p i.n i.types i.rows i.data.k0 i.data.n0 i.data.p0 i.data.s0 i.data.args0
def readV:Option Ins->AV
 | none=>.rz [.agg [.d (.v (.i 0)),.d (.v (.i 0)),.d (.s 0 []),.d (.s 0 []),.d (.v (.i 0)),.d (.v (.i 0)),.d (.v (.i 0)),.d (.v (.string ⟨#[]⟩)),.d (.s 0 [])],bA false]
 | some i=>.rz [Zd i,bA true]
def U1{ok:br}{w:bx} : fI ok w (.s 0 []) (.n0):=.s (λ_ _=>undef) (qS _) (zv _) ot ot ot (λ_=>⟨rfl,rfl⟩)
def Ed(rows:List aE):rowsD rows=rows.map λr=>[D.s 5 (ndsD r)]:=by
 induction rows with
 | nil=>rfl
 | cons r b a=>simp[rowsD,a]
def U8{t:Tr}{i:Ins}(h:iY t=some i):i.rows.length<=3:=by
 unfold iY at h;split at h
 .rename_i b;have⟨c,d,a,_⟩:=takesF_facts _ _ _ _ b.2.2.symm h;rw[a];simp only[xF,qa4];refine kl (List.length_filter_le _ _) ?_;unfold bR
  repeat' split
  all_goals simp
 .cases h
def ZX(r:Option Ins):(readV r).keys=[]:=by
 cases r with
 | none=>rfl
 | some i=>rfl
def Pm{t:Tr}(N:okN t):Hd ⟨67,[ndA t],readV (iY t)⟩:=by
 refine⟨vT func67 (nk:=ZX _),λok w U h=>?_⟩
 match U,h with
 | [v],⟨M,_⟩ =>
  refine (Oc (oK N M)).mono ?_;rintro e g ⟨G,⟨hr,rfl⟩|⟨i,Z,tc,K,T,da,W,hr,rfl,⟨C,V,O⟩,I,Y,P⟩⟩
  .rw[hr];exact⟨G,_,rfl,[_,_],rfl,⟨_,rfl,.v _,.v _,U1,U1,.v _,.v _,.v _,.v _,U1,trivial⟩,.v _,trivial⟩
  .rw[hr];have S:=(qV O C).2.keep (ok':=λb=>ok b\/w.heap.size<=b) (w':=g) ⟨qS _,λb _ f=>⟨.inr f,λ_=>rfl⟩⟩;have⟨_,k,n,p,s,a,c,X,H,E⟩:=qL P;have E:=E.keep (ok':=λb=>ok b\/w.heap.size<=b) (w':=g) ⟨qS _,λb _ f=>⟨.inl f,λ_=>rfl⟩⟩;simp only[af,qd4,qe4,xo,kj,true_and,and_true]at H;obtain⟨_,_,_,_,rfl,rfl⟩:=H;have A:(rowsD i.rows).length=i.rows.length:=by simp[Ed]
   have J:fI (λb=>ok b\/w.heap.size<=b) g (.s 1 (rowsD i.rows)) (.slice K (rowsD i.rows).length T):=by
    have d:∀(j:Nat) (r:bd),(rowsD i.rows)[j]?=some r->∃l,i.rows[j]?=some l/\r=[D.s 5 (ndsD l)]:=λj r e=>by rw[Ed,qb1,jz]at e;obtain⟨l,q,rfl⟩:=e;exact⟨l,q,rfl⟩
    refine .s (λj _=>match K with|some F=>(g.cell? ⟨F.block,F.off+j,none⟩).getD undef|none=>undef) od (by have : i.rows.length<=3:=U8 hr;simp only[maxLen];omega) (λj r e=>by obtain⟨l,_,rfl⟩:=d j r e;rfl) (λj r m x q u=>?_) (λj r m x q u=>?_)
    .obtain⟨l,z,rfl⟩:=d j r q;obtain⟨b,o,Q,R,L,rfl,f,y,hN⟩:=I j l z;have B:m=0:=by have:=(qv.1 u).1;simpa using this
     subst B;exact⟨b,o,rfl,f.1,by simp only[Nat.mul_one,qd5];rw[y];rfl⟩
    .obtain⟨l,z,rfl⟩:=d j r q;obtain⟨b,o,Q,R,L,rfl,f,y,hN⟩:=I j l z;have B:m=0:=by have:=(qv.1 u).1;simpa using this
     subst B;simp only[kp,qk]at u;subst u;simp only;rw[y];exact uI hN f.2
   rw[A]at J;exact⟨G,_,rfl,[_,_],rfl,⟨_,rfl,.v _,.v _,S,J,.v _,.v _,.v _,.v _,E,trivial⟩,.v _,trivial⟩
def Hm (r:iF):Prop:=(∀e,r =.no e->SA e)/\∀f ts,r =.ok f ts->ts.all bn
def Hm.K{r:iF}(h:Hm r):sS r:=⟨h.1,λf a e=>ak (h.2 f a e)⟩
def MB{e:Int}(h:SA e):sS (.no e):=⟨λb a=>by cases a;exact h,λf c a=>by cases a⟩
def K_fail:sS (.ok true []):=⟨λe h=>by simp at h,λf a h=>by simp only[iF.ok.injEq]at h;rw[<-h.2];trivial⟩
def K_5:sS (.no 5):=MB (.inr (.inr (.inl rfl)))
def K4{s top:ao}(a:okTs s)(b:okTs top):sS (fQ s top):=⟨λe h=>by simp[fQ]at h,λf c h=>by simp only[fQ,iF.ok.injEq]at h;obtain⟨_,rfl⟩:=h;exact uD b a⟩
def QZ{s:ao}(h:okTs s)(k:Nat):okT (bB s k):=by
 unfold bB
 cases e:s[k]? with
 | none=>exact⟨⟨ov,ov⟩,trivial⟩
 | some T=>exact okTs_at.1 h T (zE e)
def NU{T:Ty}(h:okT T):okTs T.args:=by cases T;exact h.2
def Yc{c:Prop}[Decidable c]{a b:iF}(d:c->sS a)(hb:sS b):sS (if c then a else b):=by
 by_cases h:c
 .rw[if_pos h];exact d h
 .rw[if_neg h];exact hb
def Ii{st:Tr->ao->iF}(a:∀t s,s.all bn->sS (st t s)):∀(l:aE) (f:Bool) (s:ao),s.all bn->Hm (iG st l f s)
 | [],f,s,c=>⟨λe h=>by simp[iG]at h,λg b h=>by simp only[iG,iF.ok.injEq]at h;obtain⟨_,rfl⟩:=h;exact c⟩
 | t::l,f,s,c=>by
  simp only[iG];split
  .exact⟨λe h=>by cases h;exact .inl rfl,λg b h=>by cases h⟩
  .have d:=LA (a t s c)
   cases hk:keptF (st t s)with
   | no e=>exact⟨λi h=>by cases h;exact d.1 e hk,λg b h=>by cases h⟩
   | ok g b=>exact Ii a l g b (d.2 g b hk).1
section
variable {row:aE->ao->iF}(hr:∀ l s,s.all bn=true->Hm (row l s)) {i:Ins}{s:ao}
def OY{a b:iF}(c:Hm a)(hb:Hm b):Hm (meetF a b):=by
 cases a with
 | no e=>exact c
 | ok f x =>
  cases b with
  | no e=>exact hb
  | ok g y =>
   simp only[meetF];split
   .exact hb
   .split
    .exact c
    .exact⟨λe h=>by cases h;exact .inr (.inr (.inl rfl)),λf d h=>by cases h⟩
def wY(a:∀l s,s.all bn->Hm (row l s)){s x y:ao}(b:s.all bn)(c:x.all bn)(d:y.all bn):sS (iC row i s x y):=(OY (a _ _ (um c b)) (a _ _ (um d b))).K
def uS(d:∀l s,s.all bn->Hm (row l s)){x y z:ao}(g:x.all bn)(j:y.all bn)(k:okTs z):sS (dM row i x y z):=by
 have a:=OY (d (rowAt i 0) x g) (b:=fQ y []) ⟨λe h=>by simp[fQ]at h,λf m h=>by simp only[fQ,iF.ok.injEq,qd0]at h;obtain⟨_,rfl⟩:=h;exact j⟩;unfold dM;split
 .rename_i e c;exact MB (a.1 e c)
 .exact K4 k trivial
def Tq(d:∀l s,s.all bn->Hm (row l s)){T:Ty}(c:okT T)(g:s.all bn):sS (l7 row i T s):=by
 have b:=d (rowAt i 0) s g;unfold l7;split
 .rename_i e a;exact MB (b.1 e a)
 .rename_i f h a;split
  .exact MB (.inl rfl)
  .exact K4 (ak (b.2 f h a)) ⟨c,trivial⟩
def Yb(b:∀l s,s.all bn->Hm (row l s))(j:i.types.all bn)(a:s.all bn):sS (vP row i s):=by
 have f:=ak a;have q:=ak j;have d:∀{k:Int} {l:List Int},sFq s (k::l)->bn (bB s 0):=λh=>Lt a (by have:=slq h;simp at this;omega);unfold vP dG bO aP eG bP bJ dI cZ bF dO
 repeat' (apply Yc;intro c)
 all_goals first
  | exact K_5
  | exact wY b (iI a 1) (Dz (gX (d c.2)) 1) (iI (gX (d c.2)) 1)
  | exact wY b (iI a 1) rfl (gX (d c.2))
  | exact wY b (iI a 1) rfl rfl
  | exact uS b (um (gX (d c.2)) (iI a 1)) (iI a 1) (jD f 1)
  | exact uS b (iI a 1) a (jD f 1)
  | exact uS b (Dz j 1) (iI j 1) (uD ⟨⟨⟨ov,ov⟩,q⟩,trivial⟩ f)
  | exact Tq b (QZ f 0) (iI a 1)
  | exact wY b (iI a 1) (by have g:=d c.2;have n:=gX g;have o:=Ip c.2 0 10 rfl ov;have m:=xL g;rw[o]at m;rw[xb,xb,g,Lt n (i:=0) (by simp[bT]at m;omega)];rfl) rfl
  | exact uS b (um (by rw[xb,Bl (d c.2) (Ip c.2 0 13 rfl ov)];rfl) (iI a 1)) (iI a 1) (jD f 1)
  | exact K_fail
  | (cases e:IP i.p (bB s 0).t (bB s 1).t with
     | none=>exact K_5
     | some T=>exact K4 (jD f 2) ⟨(xZ e).1,trivial⟩)
  | (refine K4 ?_ ?_<;>repeat' first|assumption|exact trivial|exact⟨ov,ov⟩|apply jD|apply nW|apply uD|apply QZ|apply NU|(refine⟨?_,?_⟩))
def K_step:∀(N:Nat) (t:Tr) (s:ao),s.all bn->sS (stepF N t s)
 | 0,t,s,a=>MB (.inl rfl)
 | N+1,t,s,a=>by
  have hr:∀l s,s.all bn->Hm (iG (stepF N) l false s):=λl s a=>Ii (K_step N) l false s a;rw[stepF];split
  .exact (hr _ _ a).K
  .split
   .exact MB (.inl rfl)
   .rename_i i b;refine Yb hr ?_ a;unfold iY at b;split at b
    .rename_i c;exact (takesF_facts _ _ _ _ c.2.2.symm b).2.2.2.1 rfl
    .cases b
end
section
variable {N M:Nat}{n:Int}{types:ao}{rows:List aE}{dk dn dp:Int}{ds:bo}{da:aE}{row:aE->ao->iF}{s:ao}
def ym{rows:List aE}(h:rows.length=1):∃r,rows=[r]:=by
 match rows,h with
 | [r],_=>exact⟨r,rfl⟩
def yo{rows:List aE}(h:rows.length=2):∃r q,rows=[r,q]:=by
 match rows,h with
 | [r,q],_=>exact⟨r,q,rfl⟩
def sh{g:FuncId}{a:List A1}(r:iF)(h:Hd ⟨g,a,iH r⟩):Hd ⟨g,a,iH r⟩:=h
def aR{p:Int}{t:Tr}{g:FuncId}{r:iF}(j:Hd ⟨g,[uq p n types rows dk dn dp ds da,dZ s],iH r⟩)(hR:Hd ⟨67,[ndA t],readV (some ⟨p,n,types,rows,.nd dk dn dp ds da⟩)⟩)(k:t.k0=2)
 (h:∀(a n0 b:Int) (c:bo) (az:aE) (d:Hd ⟨67,[ndA (.nd a n0 b c az)],readV (some ⟨p,n,types,rows,.nd dk dn dp ds da⟩)⟩) (f:Bool) (ts:ao) (i:Hd ⟨g,[uq p n types rows dk dn dp ds da,dZ s],iH (.ok f ts)⟩),a=2->Hd ⟨48,[ndA (.nd a n0 b c az),dZ s],iH (.ok f ts)⟩:=by intro a n0 b c az d f ts i hk;subst hk;exact aF func48 [⟨_,d⟩,⟨_,i⟩])
 (h':∀(a n0 b:Int) (c:bo) (az:aE) (d:Hd ⟨67,[ndA (.nd a n0 b c az)],readV (some ⟨p,n,types,rows,.nd dk dn dp ds da⟩)⟩) (e:Int) (i:Hd ⟨g,[uq p n types rows dk dn dp ds da,dZ s],iH (.no e)⟩),a=2->Hd ⟨48,[ndA (.nd a n0 b c az),dZ s],iH (.no e)⟩:=by intro a n0 b c az d e i hk;subst hk;exact aF func48 [⟨_,d⟩,⟨_,i⟩]):Hd ⟨48,[ndA t,dZ s],iH r⟩:=by
 have⟨a,n0,b,c,az⟩:=t
 cases r with
 | no e=>exact h' a n0 b c az hR e j k
 | ok f ts=>exact h a n0 b c az hR f ts j k
def stepL:List (Nat×Int):=[(30,40),(31,41),(32,42),(33,43),(34,44),(41,46),(42,47),(43,48),(44,49),(45,50),(46,51),(47,53),(48,54),(55,56),(56,57),(57,59),(58,61),(59,62),(60,63),(67,52),(68,55),(69,58),(70,64),(77,60),(78,65),(79,66),(80,67),(81,68),(88,69),(89,70),(90,71),(91,72),(92,93),(93,94),(94,95),(101,73),(102,74),(103,75),(104,76),(105,77),(106,78),(107,79),(114,45),(115,80),(116,81),(117,82),(118,83),(125,84),(126,85),(127,86),(128,87)]
def stepL_le:∀x∈stepL,x.2<=95:=ov
def RQ{i:Ins}{t:Tr}(c:t.k0=2)(b:VO N i)(hN:N<=300)(v:iY t=some i)(w:okN t)(hR:xg row i.rows M)(d:s.all bn)(h:s.length<=M):Hd ⟨48,[ndA t,dZ s],iH (vP row i s)⟩:=by
 have a:=Pm w;rw[v]at a;have g:s.length<=1000:=kl h hR.top;have⟨p,n,types,rows,⟨dk,dn,dp,ds,da⟩⟩:=i;have B:=b.p40;simp only at B hR
 by_cases r:95<p
 .rw[show vP row ⟨p,n,types,rows,.nd dk dn dp ds da⟩ s=dO ⟨p,n,types,rows,.nd dk dn dp ds da⟩ s by
   unfold vP;rw[if_neg oB,if_neg oB,if_neg oB,if_neg oB,if_neg oB,if_neg oB,if_neg oB,if_neg oB,if_neg oB]]
  have A:=FZ (n:=n) (types:=types) (rows:=rows) (dk:=dk) (dn:=dn) (dp:=dp) (ds:=ds) (da:=da) (s:=s) (p:=p) (.inr r);have l:∀q∈stepL.map (λx=>nq p x.2),q:=λq l=>by obtain⟨x,C,rfl⟩:=yv.1 l;exact oL (by have : x.2<=95:=stepL_le x C;omega)
  exact aR A a c
   (λD n0 E F z m f G o hk=>by subst hk;exact runT func48 (stepL.map λx=>(x.1,fA)) [⟨_,m⟩,⟨_,o⟩] l)
   (λD n0 E F z m e o hk=>by subst hk;exact runT func48 (stepL.map λx=>(x.1,fA)) [⟨_,m⟩,⟨_,o⟩] l)
 .have u:p=40\/p=41\/p=42\/p=43\/p=44\/p=45\/p=46\/p=47\/p=48\/p=49\/p=50\/p=51\/p=52\/p=53\/p=54\/p=55\/p=56\/p=57\/p=58\/p=59\/p=60\/p=61\/p=62\/p=63\/p=64\/p=65\/p=66\/p=67\/p=68\/p=69\/p=70\/p=71\/p=72\/p=73\/p=74\/p=75\/p=76\/p=77\/p=78\/p=79\/p=80\/p=81\/p=82\/p=83\/p=84\/p=85\/p=86\/p=87\/p=88\/p=89\/p=90\/p=91\/p=92\/p=93\/p=94\/p=95:=by omega
  rcases u with rfl|rfl|rfl|rfl|rfl|rfl|rfl|rfl|rfl|rfl|rfl|rfl|rfl|rfl|rfl|rfl|rfl|rfl|rfl|rfl|rfl|rfl|rfl|rfl|rfl|rfl|rfl|rfl|rfl|rfl|rfl|rfl|rfl|rfl|rfl|rfl|rfl|rfl|rfl|rfl|rfl|rfl|rfl|rfl|rfl|rfl|rfl|rfl|rfl|rfl|rfl|rfl|rfl|rfl|rfl|rfl
  .exact aR (sh (dG ⟨40,n,types,_,.nd dk dn dp ds da⟩ s) (ML d g b.gt)) a c
  .exact aR (sh (dG ⟨41,n,types,_,.nd dk dn dp ds da⟩ s) (MM b.n0 d g)) a c
  .exact aR (sh (dG ⟨42,n,types,_,.nd dk dn dp ds da⟩ s) (MN d g b.gt)) a c
  .exact aR (sh (dG ⟨43,n,types,_,.nd dk dn dp ds da⟩ s) (MO b.n0 d g)) a c
  .exact aR (sh (dG ⟨44,n,types,_,.nd dk dn dp ds da⟩ s) (MP b.n0 d g)) a c
  .exact aR (sh (cZ ⟨45,n,types,_,.nd dk dn dp ds da⟩ s) (MW d g b.gt b.nt b.Zg (by have:=b.data;simp only at this;omega))) a c
  .exact aR (sh (bO ⟨46,n,types,_,.nd dk dn dp ds da⟩ s) (MC d g b.gt)) a c
  .exact aR (sh (bO ⟨47,n,types,_,.nd dk dn dp ds da⟩ s) (ME d g b.gt)) a c
  .exact aR (sh (bO ⟨48,n,types,_,.nd dk dn dp ds da⟩ s) (MF d g b.gt)) a c
  .exact aR (sh (bO ⟨49,n,types,_,.nd dk dn dp ds da⟩ s) (MG d g b.gt)) a c
  .exact aR (sh (bO ⟨50,n,types,_,.nd dk dn dp ds da⟩ s) (MH d g b.gt b.nt)) a c
  .exact aR (sh (bO ⟨51,n,types,_,.nd dk dn dp ds da⟩ s) (MI d g b.gt b.nt)) a c
  .obtain⟨j,y,rfl⟩:=yo b.nr;exact aR (show Hd ⟨71,_,iH (eG row ⟨52,n,types,_,.nd dk dn dp ds da⟩ s)⟩ from wZ (k:=12) ov d h hR) a c
  .exact aR (sh (bO ⟨53,n,types,_,.nd dk dn dp ds da⟩ s) (MJ d g b.gt)) a c
  .exact aR (sh (bO ⟨54,n,types,_,.nd dk dn dp ds da⟩ s) (MK d g b.gt b.nt)) a c
  .obtain⟨j,y,rfl⟩:=yo b.nr;exact aR (show Hd ⟨71,_,iH (eG row ⟨55,n,types,_,.nd dk dn dp ds da⟩ s)⟩ from wZ (k:=9) ov d h hR) a c
  .exact aR (sh (aP ⟨56,n,types,_,.nd dk dn dp ds da⟩ s) (FP d g b.gt b.nt)) a c
  .exact aR (sh (aP ⟨57,n,types,_,.nd dk dn dp ds da⟩ s) (FQ d g b.gt)) a c
  .obtain⟨j,y,rfl⟩:=yo b.nr;exact aR (show Hd ⟨71,_,iH (eG row ⟨58,n,types,_,.nd dk dn dp ds da⟩ s)⟩ from wZ (k:=10) ov d h hR) a c
  .exact aR (sh (aP ⟨59,n,types,_,.nd dk dn dp ds da⟩ s) (FR d g)) a c
  .obtain⟨j,rfl⟩:=ym b.nr;exact aR (show Hd ⟨72,_,iH (bP row ⟨60,n,types,_,.nd dk dn dp ds da⟩ s)⟩ from I5 d h hR) a c
  .exact aR (sh (aP ⟨61,n,types,_,.nd dk dn dp ds da⟩ s) (FT d g b.gt b.nt)) a c
  .exact aR (sh (aP ⟨62,n,types,_,.nd dk dn dp ds da⟩ s) (FU d g b.gt)) a c
  .exact aR (sh (aP ⟨63,n,types,_,.nd dk dn dp ds da⟩ s) (FV d g b.gt)) a c
  .obtain⟨j,y,rfl⟩:=yo b.nr;exact aR (show Hd ⟨71,_,iH (eG row ⟨64,n,types,_,.nd dk dn dp ds da⟩ s)⟩ from wZ (k:=2) ov d h hR) a c
  .obtain⟨j,rfl⟩:=ym b.nr;exact aR (show Hd ⟨72,_,iH (bP row ⟨65,n,types,_,.nd dk dn dp ds da⟩ s)⟩ from I6 d h hR) a c
  .obtain⟨j,rfl⟩:=ym b.nr;exact aR (show Hd ⟨72,_,iH (bP row ⟨66,n,types,_,.nd dk dn dp ds da⟩ s)⟩ from I7 d h hR b.gt b.nt) a c
  .exact aR (show Hd ⟨72,_,iH (bP row ⟨67,n,types,_,.nd dk dn dp ds da⟩ s)⟩ from I8 d g b.gt) a c
  .obtain⟨j,rfl⟩:=ym b.nr;exact aR (show Hd ⟨72,_,iH (bP row ⟨68,n,types,_,.nd dk dn dp ds da⟩ s)⟩ from I9 d h hR) a c
  .exact aR (sh (bJ ⟨69,n,types,_,.nd dk dn dp ds da⟩ s) (xe ov d g)) a c
  .exact aR (sh (bJ ⟨70,n,types,_,.nd dk dn dp ds da⟩ s) (xe ov d g)) a c
  .exact aR (sh (bJ ⟨71,n,types,_,.nd dk dn dp ds da⟩ s) (xe ov d g)) a c
  .exact aR (sh (bJ ⟨72,n,types,_,.nd dk dn dp ds da⟩ s) (xe ov d g)) a c
  .exact aR (sh (dI ⟨73,n,types,_,.nd dk dn dp ds da⟩ s) (Pw d g b.gt)) a c
  .exact aR (sh (dI ⟨74,n,types,_,.nd dk dn dp ds da⟩ s) (Px d g b.gt)) a c
  .exact aR (sh (dI ⟨75,n,types,_,.nd dk dn dp ds da⟩ s) (Py d g b.gt)) a c
  .exact aR (sh (dI ⟨76,n,types,_,.nd dk dn dp ds da⟩ s) (Pz d g b.gt)) a c
  .exact aR (sh (dI ⟨77,n,types,_,.nd dk dn dp ds da⟩ s) (PD d g b.gt)) a c
  .exact aR (sh (dI ⟨78,n,types,_,.nd dk dn dp ds da⟩ s) (PE d g b.gt)) a c
  .exact aR (sh (dI ⟨79,n,types,_,.nd dk dn dp ds da⟩ s) (PG d g b.gt)) a c
  .exact aR (sh (cZ ⟨80,n,types,_,.nd dk dn dp ds da⟩ s) (MX d g b.gt)) a c
  .exact aR (sh (cZ ⟨81,n,types,_,.nd dk dn dp ds da⟩ s) (MZ d g b.gt)) a c
  .exact aR (sh (cZ ⟨82,n,types,_,.nd dk dn dp ds da⟩ s) (M0 d g b.gt b.nt)) a c
  .exact aR (sh (cZ ⟨83,n,types,_,.nd dk dn dp ds da⟩ s) (M3 d g)) a c
  .exact aR (sh (bF ⟨84,n,types,_,.nd dk dn dp ds da⟩ s) (F3 d g b.gt)) a c
  .exact aR (sh (bF ⟨85,n,types,_,.nd dk dn dp ds da⟩ s) (F4 d g b.gt)) a c
  .exact aR (sh (bF ⟨86,n,types,_,.nd dk dn dp ds da⟩ s) (F5 d g b.gt)) a c
  .exact aR (sh (bF ⟨87,n,types,_,.nd dk dn dp ds da⟩ s) (F6 d g b.gt)) a c
  .exact aR (sh (dO ⟨88,n,types,_,.nd dk dn dp ds da⟩ s) (MQ d g b.gt b.nt)) a c
  .exact aR (sh (dO ⟨89,n,types,_,.nd dk dn dp ds da⟩ s) (MR d g b.gt)) a c
  .exact aR (sh (dO ⟨90,n,types,_,.nd dk dn dp ds da⟩ s) (MS d g b.gt)) a c
  .exact aR (sh (dO ⟨91,n,types,_,.nd dk dn dp ds da⟩ s) (MU d g b.gt)) a c
  .exact aR (sh (dO ⟨92,n,types,_,.nd dk dn dp ds da⟩ s) (MV d g b.gt)) a c
  .exact aR (sh (bJ ⟨93,n,types,_,.nd dk dn dp ds da⟩ s) (FW d g b.gt)) a c
  .exact aR (sh (bJ ⟨94,n,types,_,.nd dk dn dp ds da⟩ s) (FX d g b.gt)) a c
  .exact aR (sh (bJ ⟨95,n,types,_,.nd dk dn dp ds da⟩ s) (FY d g b.gt)) a c
end
def Wo{N:Nat}{l:aE}{s:ao}(a:s.all bn)(b:s.length<=1001):yI (iG (stepF N) l false s) :=
 have h:=Ii (K_step N) l false s a
 ⟨h.1,λf c e=>⟨h.2 f c e,(Cc l false s b a e).1⟩⟩
def UX{t:Tr}{i:Ins}(h:iY t=some i):t.k0=2:=by
 unfold iY at h;split at h
 .rename_i a;exact a.1
 .cases h
def I1{N:Nat}(h:∀t:Tr,okN t->t.size<=N->∀s:ao,s.all bn->s.length+N<=1001->Hd ⟨48,[ndA t,dZ s],iH (stepF N t s)⟩)(i:N<=300){l:aE}(hk:okNs l)(g:∀x∈l,x.size<=N)(d:l.length<=100000){s:ao}(f:s.all bn)(hn:s.length+N<=1001) :
 Hd ⟨25,[CW l,dZ s],iH (iG (stepF N) l false s)⟩ :=
 X7 (L:=1001 - N) d od (λt b c a e=>⟨h t (okNs_at.1 hk t b) (g t b) c a od,K_step N t c a⟩) f od
def H_step:∀(N:Nat),N<=300->∀t:Tr,okN t->t.size<=N->∀s:ao,s.all bn->s.length+N<=1001->Hd ⟨48,[ndA t,dZ s],iH (stepF N t s)⟩
 | 0,_,t,_,r,_,_,_=>by have:=size_pos t;omega
 | N+1,B,t,e,r,s,p,C=>by
  have u:=H_step N od;have⟨g,v,w,y,c⟩:=t;have m:sizes c<=N:=by simp only[Tr.size]at r;omega
  have o:=cB c;rw[stepF]
  by_cases h:g=3
  .subst h;have hr:=I1 u od e.2 (λx z=>kl (og z) m) od p od;simp only[Tr.k0,Tr.args0,if_true];generalize iG (stepF N) c false s=q at *;cases q<;>exact aF func48 [⟨_,hr⟩]
  .rw[if_neg (show ¬(Tr.nd g v w y c).k0=3 from h)]
   cases a:iY (.nd g v w y c)with
   | none =>
    have n:=Pm e;rw[a]at n;exact runT func48 [(10,fA)] [⟨_,n⟩,⟨_,ag 1⟩] (al (oL h) al0)
   | some i =>
    have d:=Rm (N:=N) e od a;refine RQ (UX a) d od a e (M:=1000 - N) ⟨d.Zx,λl f A b k=>?_,λl f A b k=>Wo b od,od⟩ p od;have j:l.length<=100000:=by have:=U7 a f;simp only[Tr.args0]at this;omega
    exact I1 u od (d.Zx l f) (d.rows l f) j b od
def O7{ts:ao}(hk:okTs ts)(hz:tysizes ts<=1000000):Hd ⟨46,[dZ ts],.of (dZ ts)⟩:=by
 refine⟨vT func46,λok w m h=>?_⟩
 match m,h with
 | [v],⟨g,_⟩ =>
  obtain⟨a,c,V,rfl,k,i⟩:=jR hk (.inl rfl) g;refine (copies_any 1000000 ⟨a,c,V,rfl,k,i.ae (λ_ _ _=>trivial)⟩ hz (qS _)).mono ?_;rintro e q ⟨l,o,p,n,rfl,f,d⟩;exact⟨l,_,rfl,(qV d f).2.keep ⟨qS _,λb _ j=>⟨.inr j,λ_=>rfl⟩⟩⟩
def H_copies0:Hd ⟨46,[nilA],.of nilA⟩:=by
 refine⟨vT func46,λd w f h=>?_⟩
 match f,h with
 | [v],⟨b,_⟩ =>
  obtain⟨a,c,U,rfl,_⟩:=fH (b:fI d w (.s 0 []) v);refine (Jr w a c).mono ?_;rintro e g ⟨rfl,rfl⟩;exact⟨bM _ _,_,rfl,U1⟩
def Ms{r:iF}(h:yI r):Hd ⟨24,ledA r,iH r⟩:=by
 cases r with
 | no e=>exact aF func24 [⟨_,H_copies0⟩]
 | ok f b =>
  have⟨a,c⟩:=h.2 f b rfl;have:=sz_len a;exact aF func24 [⟨_,O7 (ak a) od⟩]
def Wi{a b:Int}(h:a≠b):mD (aQ (!decide (a=b))) (bA true):=by simp[mD,h,aQ,bA]
def IY{n:Tr}{s:ao}(hk:okN n)(hz:n.size<=4611686018427387904)(u:okTs s):Hd ⟨8,[ndA n,dZ s],iH (codeF n s)⟩:=by
 have c:=K3 hk hz;have⟨f,n0,m,o,b⟩:=n;unfold codeF
 by_cases d:dS (.nd f n0 m o b)=0
 .have k:=(GG d).2;rw[if_neg (by simp[d])];rw[d]at c
  by_cases j:f=3
  .subst j;rw[if_neg (by simp[Tr.k0])]
   by_cases g:(40:Int)<((tysD s).length:Int)
   .have i:=is_lt g;rw[eY]at g;rw[oc];exact runT func8 [(26,bA true)] [⟨_,c⟩,⟨_,ag 7⟩] (al i al0)
   .have i:=wH g;rw[eY]at g;rw[oa];have h:=C9 u
    cases a:s.all bn with
    | false =>
     rw[a]at h;rw[if_neg ot];exact runT func8 [(26,bA false)] [⟨_,c⟩,⟨_,h⟩,⟨_,ag 5⟩] (al i al0)
    | true =>
     rw[a]at h;rw[if_pos rfl];have w:sizes b<=299:=by simp only[Tr.size]at k;omega
     have p:=cB b;have hr:=I1 (H_step 300 (qS _)) (qS _) hk.2 (λx v=>kl (og v) od) od a od;have r:=Wo (N:=300) (l:=b) a od;simp only[Tr.args0];generalize iG (stepF 300) b false s=q at *;have t:=Ms r;cases q<;>exact runT func8 [(26,bA false)] [⟨_,c⟩,⟨_,h⟩,⟨_,hr⟩,⟨_,t⟩] (al i al0)
  .rw[if_pos (show (Tr.nd f n0 m o b).k0≠3 from j)];exact runT func8 [(19,bA true)] [⟨_,c⟩,⟨_,ag 1⟩] (al (Wi j) al0)
 .rw[if_pos d];generalize dS (.nd f n0 m o b)=e at *;exact runT func8 [(11,bA true)] [⟨_,c⟩,⟨_,ag e⟩] (al (Wi d) al0)
def EO{n:Tr}{s:ao}{e:Int}(h:codeF n s =.no e):e≠0:=by
 unfold codeF at h;split at h
 .cases h;assumption
 .split at h
  .cases h;decide
  .split at h
   .cases h;decide
   .split at h
    .rename_i a;rcases (Ii (K_step 300) _ false s a).1 e h with rfl|rfl|rfl|rfl<;>decide
    .cases h;decide
def Di{n:Tr}{s:ao}{f:Bool}{ts:ao}(b:okTs s)(h:codeF n s =.ok f ts):okTs ts:=by
 unfold codeF at h;split at h
 .cases h
 .split at h
  .cases h
  .split at h
   .cases h
   .split at h
    .rename_i a;exact ak ((Ii (K_step 300) _ false s a).2 f ts h)
    .cases h
def rU (f:Bool) (ts:ao) (T:Ty):Bool:=f||(match ts with
 | [t]=>sameT t T
 | _=>false)
def jG (v:Va):Bool:=match codeF (.nd 3 0 0 ⟨#[]⟩ v.code) (v.types.take 1)with
 | .no _=>false
 | .ok f ts=>rU f ts (bB v.types 1) && !mintsTs v.code
mutual
def lamsF:Va->Bool
 | .mk k n a s args types code=>(!decide (k=14)||jG (.mk k n a s args types code))&&lamsFs args
def lamsFs:an->Bool
 | []=>true
 | x::xs=>lamsF x&&lamsFs xs
end
def qC (T:Ty) (v:Va):Bool:=pY T v&&lamsF v
def Zm (f:Bool) (ts:ao):A1:=.agg [.d (.s 2 (tysD ts)),.d (.v (.bool f))]
def SY{f:Bool}{ts:ao}{t:Int}{l:ao}(hk:okTs ts)(a:okT (.nd t l))(hz:tysizes ts<=50000000):Hd ⟨89,[Zm f ts,tyA (.nd t l)],aQ (rU f ts (.nd t l))⟩:=by
 cases f with
 | true=>exact aF func89 []
 | false =>
  match ts,hk,hz with
  | [],_,_=>exact aF func89 []
  | [.nd u m],hk,hz =>
   have h:=Po (U:=.nd t l) hk.1 (by simp only[tysizes]at hz;omega) a;rw[show rU false [.nd u m] (.nd t l)=sameT (.nd u m) (.nd t l) by simp[rU]];generalize sameT (.nd u m) (.nd t l)=b at *;cases b<;>exact aF func89 [⟨_,h⟩]
  | .nd u m :: .nd v k::r,_,_=>exact aF func89 []
def S9{x:Va}(r:x.types.length=2)(A:okV x)(hz:sizes x.code<=6000000):Hd ⟨57,[pF x],aQ (jG x)⟩:=by
 have⟨k,n,a,s,args,types,code⟩:=x;have⟨_,_,hk,u⟩:=A;simp only[Va.types,Va.code]at r hz;obtain⟨i,g,p,j,rfl⟩:=Uk r;have l:=IY (n:=.nd 3 0 0 ⟨#[]⟩ code) (s:=[.nd i g]) ⟨⟨⟨ov,ov⟩,⟨ov,ov⟩,⟨ov,ov⟩,zv _⟩,u⟩ (by simp only[Tr.size];omega) ⟨hk.1,trivial⟩;have z:=KZ u;have m:∀e,codeF (.nd 3 0 0 ⟨#[]⟩ code) [.nd i g] =.no e->e≠0:=λe h=>EO h;have o:∀f d,codeF (.nd 3 0 0 ⟨#[]⟩ code) [.nd i g] =.ok f d->okTs d/\tysizes d<=50000000:=λf d h=>⟨Di (s:=[.nd i g]) (show okTs [.nd i g] from ⟨hk.1,trivial⟩) h,by have:=uV h;have t:=sz_len this.2.1;omega⟩
 have w:jG (.mk k n a s args [.nd i g,.nd p j] code)=(match codeF (.nd 3 0 0 ⟨#[]⟩ code) [.nd i g]with | .no _=>false | .ok f d=>rU f d (.nd p j) && !mintsTs code):=rfl;rw[w];generalize codeF (.nd 3 0 0 ⟨#[]⟩ code) [.nd i g]=q at *
 cases q with
 | no e=>exact runT func57 [(18,fA)] [⟨_,l⟩] (al (oL (m e rfl)) al0)
 | ok f d =>
  have⟨t,y⟩:=o f d rfl;have v:=SY (f:=f) t hk.2.1 y;simp only;generalize rU f d (.nd p j)=b at *;generalize mintsTs code=c at *;cases b
  .exact aF func57 [⟨_,l⟩,⟨_,v⟩]
  .cases c<;>exact aF func57 [⟨_,l⟩,⟨_,v⟩,⟨_,z⟩]
def Rd (w:bx) (rb:Nat) (rest:bo) (n x:Int):Prop:=w.heap[rb]?=some (.cells #[.string rest,.i n,.i x] 228 (0,0))
def Rd.cells{w:bx}{rb:Nat}{a:bo}{n x:Int}(h:Rd w rb a n x) :
 w.cell? ⟨rb,0,none⟩=some (.string a)/\w.cell? ⟨rb,1,none⟩=some (.i n)/\w.cell? ⟨rb,2,none⟩=some (.i x)/\w.frozen? ⟨rb,0,none⟩=false/\w.frozen? ⟨rb,1,none⟩=false/\w.frozen? ⟨rb,2,none⟩=false:=by
 unfold Rd at h;simp[World.cell?,World.frozen?,h]
def Rd.lt{w:bx}{rb:Nat}{a:bo}{n x:Int}(h:Rd w rb a n x):rb<w.heap.size:=(qq.1 h).1
def Rd.set0{w:bx}{rb:Nat}{a:bo}{n x:Int}(h:Rd w rb a n x)(r:bo):Rd (w.setCell ⟨rb,0,none⟩ (.string r)) rb r n x:=by unfold Rd at *;simp[World.setCell,ub,h]
def Rd.set1{w:bx}{rb:Nat}{a:bo}{n x:Int}(h:Rd w rb a n x)(m:Int):Rd (w.setCell ⟨rb,1,none⟩ (.i m)) rb a m x:=by unfold Rd at *;simp[World.setCell,ub,h]
def Rd.set2{w:bx}{rb:Nat}{a:bo}{n x:Int}(h:Rd w rb a n x)(m:Int):Rd (w.setCell ⟨rb,2,none⟩ (.i m)) rb a n m:=by unfold Rd at *;simp[World.setCell,ub,h]
def Rd.alloc{w:bx}{rb:Nat}{a:bo}{n x:Int}(h:Rd w rb a n x)(o:Obj):Rd (w.alloc o) rb a n x:=by unfold Rd at *;rw[qc5 (h:=(qq.1 h).1)];exact h
def lI{w:bx}{rb:Nat}{a:bo}{n:Int}(h:Rd w rb a n 0)(e:Int) :
 Calls prog 219 #[.po rb,.i e] w λr w'=>r =.returned (.tuple #[])/\Rd w' rb a n e/\cm w w' (some rb):=by
 have⟨b,c,d,f,g,j⟩:=h.cells;have H:=jh h;clear h;go_enter func219,ntmps219
 go_wp2
 go_end0
 exact⟨rfl,H.set2 e,dY (bM _ _) _ _ _⟩
def oG{w:bx}{rb:Nat}{a:bo}{n x:Int}(h:Rd w rb a n x)(k:x≠0)(e:Int) :
 Calls prog 219 #[.po rb,.i e] w λr w'=>r =.returned (.tuple #[])/\w'=w:=by
 have⟨b,c,d,f,g,j⟩:=h.cells;clear h;go_enter func219,ntmps219
 go_wp2
 go_end0
 exact⟨rfl,rfl⟩
def bs (l:bw):bo:=⟨l.toArray⟩
def eQ(l:bw):(bs l).size=l.length:=by simp[bs,ByteArray.size]
def TM(l:bw)(k:Nat)(h:k<=l.length):(bs l).extract 0 k=bs (l.take k):=by apply ByteArray.ext;rw[jd6];apply Array.ext';simp[bs]
def TL(l:bw)(k:Nat):(bs l).extract k l.length=bs (l.drop k):=by apply ByteArray.ext;rw[jd6];apply Array.ext';simp[bs];exact qb2 ot
def Mf{w:bx}{rb:Nat}{l:bw}{n:Int}(h:Rd w rb (bs l) n 0)(a:l.length<=maxLen)(k:Nat)(hk:k<=l.length) :
 Calls prog 232 #[.po rb,.i k] w λr w'=>r =.returned (.string (bs (l.take k)))/\Rd w' rb (bs (l.drop k)) n 0/\cm w w' (some rb):=by
 have⟨b,c,d,e,f,g⟩:=h.cells;have j:=eQ l;have H:=jh h;rw[<-TM l k hk,<-TL l k];clear h;generalize bs l=s at *;unfold maxLen at a;go_enter func232,ntmps232;go_wp2;go_ret;exact⟨rfl,H.set0 _,dY (bM _ _) _ _ _⟩
def Me{w:bx}{rb:Nat}{l:bw}{n:Int}(h:Rd w rb (bs l) n 0)(f:l.length<=maxLen)(k:Int)(hk:l.length<k) :
 Calls prog 232 #[.po rb,.i k] w λr w'=>r =.returned (.string ⟨#[]⟩)/\Rd w' rb (bs l) n 1/\cm w w' (some rb):=by
 have⟨g,j,m,t,u,v⟩:=h.cells;have A:=eQ l;have H:=jh h;clear h;generalize bs l=s at *;unfold maxLen at f;go_enter func232,ntmps232;go_wp2_with fail;refine (lI H 1).mono ?_;rintro e w' ⟨rfl,a,b⟩;have⟨o,p,q,x,y,z⟩:=a.cells;have c:=jh a;have d:=jh b;clear a b;go_wp2;go_ret;exact⟨rfl,c,d⟩
def wO{w:bx}{rb:Nat}{s:bo}{n x:Int}(h:Rd w rb s n x)(a:s.size<=maxLen)(b:x≠0)(k:Int) :
 Calls prog 232 #[.po rb,.i k] w λr w'=>r =.returned (.string ⟨#[]⟩)/\w'=w:=by
 have⟨c,d,f,g,j,l⟩:=h.cells;have H:=jh h;clear h;unfold maxLen at a
 by_cases m:(s.size:Int)<k
 .go_enter func232,ntmps232;go_wp2_with fail;refine (oG H b 1).mono ?_;rintro e w' ⟨rfl,rfl⟩;go_wp2;go_ret;exact⟨rfl,rfl⟩
 .go_enter func232,ntmps232;go_wp2;go_ret;exact⟨rfl,rfl⟩
def jB{w:bx}{rb:Nat}{b:UInt8}{l:bw}{n:Int}(h:Rd w rb (bs (b::l)) n 0)(f:(b::l).length<=maxLen) :
 Calls prog 227 #[.po rb] w λr w'=>r =.returned (.i b.toNat)/\Rd w' rb (bs l) n 0/\cm w w' (some rb):=by
 have c:Calls prog 232 #[.po rb,.i 1] w λr w'=>r =.returned (.string (bs [b]))/\Rd w' rb (bs l) n 0/\cm w w' (some rb):=Mf h f 1 ot;have k:=jh c;have m:(bs [b]).toList=[b]:=by simp[bs]
 have q:(b.toNat:Int)<=255:=by have:=b.toNat_lt;omega
 have o:(bs [b]).size=1:=rfl;have p:∀h,(bs [b])[0]'h=b:=λ_=>rfl;clear h f c;generalize bs [b]=s at *;go_enter func227,ntmps227;go_wp2_with fail;refine k.mono ?_;rintro e w' ⟨rfl,a,d⟩;have g:=jh a;have j:=jh d;clear a d;go_wp2;go_ret;exact⟨rfl,g,j⟩
def uC{w:bx}{rb:Nat}{n:Int}(h:Rd w rb (bs []) n 0) :
 Calls prog 227 #[.po rb] w λr w'=>r =.returned (.i 0)/\Rd w' rb (bs []) n 1/\cm w w' (some rb):=by
 have f:=jh (Me h ot 1 ot);clear h;go_enter func227,ntmps227;go_wp2_with fail;refine f.mono ?_;rintro e w' ⟨rfl,a,b⟩;have c:=jh a;have d:=jh b;clear a b;go_wp2;go_ret;exact⟨rfl,c,d⟩
def Hl{w:bx}{rb:Nat}{s:bo}{n x:Int}(h:Rd w rb s n x)(b:s.size<=maxLen)(c:x≠0) :
 Calls prog 227 #[.po rb] w λr w'=>r =.returned (.i 0)/\w'=w:=by
 have a:=jh (wO h b c 1);clear h;go_enter func227,ntmps227;go_wp2_with fail;refine a.mono ?_;rintro e w' ⟨rfl,rfl⟩;go_wp2;go_ret;exact⟨rfl,rfl⟩
def DL(w:bx):Calls prog 233 #[.int .u64 1152921504606846976] w λr w'=>r =.returned (.i 61)/\w'=w:=by
 go_enter func233,ntmps233
 go_wp2
 go_ret;exact Lf.lX vu rfl
def numTail:Nat->Nat->Nat->UInt8->bw->Option (Nat×UInt8×bw)
 | 0,_,size,last,l=>if last.toNat<128 then some (size,last,l)else none
 | k+1,sh,size,last,l=>if last.toNat<128 then some (size,last,l)else
  match l with
  | []=>none
  | b::l=>numTail k (sh+7) (size+b.toNat % 128*2 ^ sh) b l
def wK(k sh b:Nat)(a:UInt8)(l:bw)(h:a.toNat<128):numTail k sh b a l=some (b,a,l):=by
 cases k<;>rw[numTail.eq_def]<;>simp[h]
def zR(k sh b:Nat)(a:UInt8)(h:¬a.toNat<128):numTail (k+1) sh b a []=none:=by rw[numTail.eq_def];simp[h]
def xX(k sh c:Nat)(a b:UInt8)(l:bw)(h:¬a.toNat<128):numTail (k+1) sh c a (b::l)=numTail k (sh+7) (c+b.toNat % 128*2 ^ sh) b l:=by rw[numTail.eq_def];simp[h]
def pNum:bw->Option (Int×bw)
 | []=>none
 | f::l=>match numTail 8 6 (f.toNat % 64) f l with
  | none=>none
  | some (size,last,l')=>if (128<=f.toNat/\last.toNat=0)\/1152921504606846976<size\/(f.toNat / 64 % 2=1/\size=0)then none
   else some (if f.toNat / 64 % 2=1 then -(size:Int)else size,l')
def yE{a:UInt8}{n:Nat}(h:a.toNat=n):a=n.toUInt8:=by apply UInt8.toNat_inj.1;rw[h];have:=a.toNat_lt;show n=n % 256;omega
def CX(k:Nat):∀(sh e:Nat) (f:UInt8) (l:bw) (d:Nat) (b:UInt8) (i:bw),numTail k sh e f l=some (d,b,i) ->
 ∃m,d=e+m*2 ^ sh/\m<128 ^ k/\((f.toNat<128/\m=0/\b=f/\i=l)\/(128<=f.toNat/\(b.toNat≠0->m≠0/\f::l=wD (f.toNat - 128) m++i))):=by
 induction k with
 | zero =>
  intro sh e f l d b i h;rw[numTail]at h
  by_cases g:f.toNat<128
  .rw[if_pos g]at h;simp at h;obtain⟨rfl,rfl,rfl⟩:=h;exact⟨0,ot,ot,.inl ⟨g,rfl,rfl,rfl⟩⟩
  .rw[if_neg g]at h;simp at h
 | succ k u =>
  intro sh e f l d b i h
  by_cases g:f.toNat<128
  .rw[wK _ _ _ _ _ g]at h;simp at h;obtain⟨rfl,rfl,rfl⟩:=h;exact⟨0,ot,by have:=Nat.pow_pos (n:=k+1) (show 0<128 by omega);omega,.inl ⟨g,rfl,rfl,rfl⟩⟩
  .cases l with
   | nil=>rw[zR _ _ _ _ g]at h;simp at h
   | cons c x =>
    rw[xX _ _ _ _ _ _ g]at h;have⟨j,t,w,hr⟩:=u _ _ _ _ _ _ _ h;have v:=c.toNat_lt;refine⟨c.toNat % 128+128*j,?_,?_,.inr ⟨od,λs=>?_⟩⟩
    .rw[t,Nat.pow_add,qh6,qe6];congr 2;rw[jb5 128 j,Nat.mul_assoc];congr 1;rw[jb5]
    .rw[Nat.pow_succ];omega
    .rcases hr with⟨r,o,q,p⟩|⟨r,o⟩
     .subst o;subst q;subst p;refine⟨od,?_⟩;rw[wD,oa,show (b.toNat % 128+128*0) % 128=b.toNat from by omega,show (b.toNat % 128+128*0) / 128=0 from by omega,wD,if_pos rfl];rw[<-yE (a:=b) rfl,<-yE (a:=f) od];rfl
     .have⟨q,p⟩:=o s;refine⟨od,?_⟩;rw[wD,oa,show (c.toNat % 128+128*j) % 128=c.toNat - 128 from by omega,show (c.toNat % 128+128*j) / 128=j from by omega,p];rw[<-yE (a:=f) od];rfl
def oQ{l p:bw}{n:Int}(h:pNum l=some (n,p)):(-1152921504606846976<=n/\n<=1152921504606846976)/\l=pE n++p:=by
 cases l with
 | nil=>simp[pNum]at h
 | cons f l =>
  rw[pNum]at h
  cases j:numTail 8 6 (f.toNat % 64) f l with
  | none=>rw[j]at h;simp at h
  | some r =>
   have⟨size,c,x⟩:=r;rw[j]at h;simp only at h
   by_cases o:(128<=f.toNat/\c.toNat=0)\/1152921504606846976<size\/(f.toNat / 64 % 2=1/\size=0)
   .rw[if_pos o]at h;simp at h
   rw[if_neg o]at h;simp only[qk,ke]at h;obtain⟨e,rfl⟩:=h;have⟨m,t,w,hr⟩:=CX 8 _ _ _ _ _ _ _ j;have v:=f.toNat_lt;have i:(2:Nat) ^ 6=64:=rfl;rw[i]at t;have s:(-1152921504606846976<=n/\n<=1152921504606846976):=by split at e<;>omega
   have k:n.natAbs=size:=by split at e<;>omega
   have b:(if n<0 then 64 else 0)=f.toNat / 64 % 2*64:=by
    by_cases d:f.toNat / 64 % 2=1
    .rw[if_pos d]at e;rw[oc];omega
    .rw[if_neg d]at e;rw[oa];omega
   refine⟨s,?_⟩;unfold pE;rw[b,k,show size % 64=f.toNat % 64 from by omega,show size / 64=m from by omega];rcases hr with⟨d,g,u,q⟩|⟨d,g⟩
   .subst g;subst q;rw[show f.toNat / 64 % 2*64+f.toNat % 64=f.toNat from by omega,wD,if_pos rfl,<-yE (a:=f) rfl];rfl
   .rw[show f.toNat / 64 % 2*64+f.toNat % 64=f.toNat - 128 from by omega];exact (g od).2
def uT (w:bx) (rb:Nat) (n:Int) (l:bw) (r:Ending) (w':bx):Prop :=
 cm w w' (some rb)/\match pNum l with
  | some (m,l')=>r =.returned (.i m)/\Rd w' rb (bs l') n 0
  | none=>r =.returned (.i 0)/\∃s,s.size<=maxLen/\Rd w' rb s n 1
def xY{w:bx}{rb:Nat}{s:bo}{n x:Int}(h:Rd w rb s n x)(b:s.size<=maxLen)(c:x≠0) :
 Calls prog 228 #[.po rb] w λr w'=>r =.returned (.i 0)/\w'=w:=by
 have a:=jh (Hl h b c);have d:bits .and .i64 0 64=0:=ov
 have f:bits .and .i64 0 63=0:=ov
 clear h;go_enter func228,ntmps228;go_wp2_with fail;refine a.mono ?_;rintro e w' ⟨rfl,rfl⟩;go_wp2_with fail;refine je0 1 ?_;rw[jh4];go_wp2;go_ret;exact⟨rfl,rfl⟩
def JX{w:bx}{rb:Nat}{n:Int}(h:Rd w rb (bs []) n 0) :
 Calls prog 228 #[.po rb] w (uT w rb n []):=by
 have f:=jh (uC h);have g:bits .and .i64 0 64=0:=ov
 have i:bits .and .i64 0 63=0:=ov
 clear h;go_enter func228,ntmps228;go_wp2_with fail;refine f.mono ?_;rintro e j ⟨rfl,a,b⟩;have c:=jh a;have d:=jh b;clear a b;go_wp2_with fail;refine je0 1 ?_;rw[jh4];go_wp2;go_ret;exact⟨d,rfl,_,KK,c⟩
def AR (w:bx) (rb:Nat) (n:Int) (f:UInt8) (l:bw) (sz la sh:cg) (wr:bx):Prop :=
 cm w wr (some rb)/\((∃(k size:Nat) (last:UInt8) (l1:bw),k<=8/\size<2 ^ (6+7*(8 - k))/\l1.length<=maxLen/\sz =.i size/\la =.i last.toNat/\sh =.i (6+7*(8 - k):Nat)/\Rd wr rb (bs l1) n 0 /\
  numTail k (6+7*(8 - k)) size last l1=numTail 8 6 (f.toNat % 64) f l/\(128<=last.toNat->128<=f.toNat)) \/
  (∃(size k:Nat) (s:bo),size<9223372036854775808/\k<=8/\sz =.i size/\la =.i 0/\sh =.i (6+7*(8 - k):Nat)/\s.size<=maxLen/\Rd wr rb s n 1/\numTail 8 6 (f.toNat % 64) f l=none/\128<=f.toNat))
def Kb(k:Nat)(hk:k<=8):2 ^ (6+7*(8 - k))<=4611686018427387904:=by
 have : ∀k:Fin 9,2 ^ (6+7*(8 - k.val))<=4611686018427387904:=vu
 exact this ⟨k,od⟩
def KS(x:Nat)(h:x<9223372036854775808):wrap64 (x:Int)=(x:Int):=by unfold wrap64;omega
def Xt(sh size x:Nat)(h:size<2 ^ sh)(hx:x<128)(hs:sh<=55):bits .or .i64 (size:Int) (wrap64 ((x:Int)*2 ^ sh))=((size+x*2 ^ sh:Nat):Int)/\size+x*2 ^ sh<2 ^ (sh+7):=by
 have hp:2 ^ sh<=36028797018963968:=by
  have : (36028797018963968:Nat)=2 ^ 55:=vu
  rw[this];exact Nat.pow_le_pow_right od hs
 have hp0:0<2 ^ sh:=Nat.pow_pos od;have hxs:x*2 ^ sh+2 ^ sh<=128*2 ^ sh:=by have:=qg6 (2 ^ sh) (show x+1<=128 by omega);rw[qh6,Nat.one_mul]at this;exact this
 have e:((x:Int)*2 ^ sh)=((x*2 ^ sh:Nat):Int):=by push_cast;rfl
 rw[e,KS _ od,oO _ _ od od];have h2:=Nat.two_pow_add_eq_or_of_lt h x;rw[Nat.or_comm,jb5 x,<-h2];refine⟨by congr 1;omega,?_⟩;rw[Nat.pow_add,jb5];have : (2:Nat) ^ 7=128:=rfl;rw[this];omega
def Ea{w b:bx}{rb:Nat}{n:Int}{f:UInt8}{l:bw}(e:(f::l).length<=maxLen)(h:Rd b rb (bs l) n 0)(d:cm w b (some rb)){a:Int}(c:a=((f.toNat % 64:Nat):Int)) :
 AR w rb n f l (.i a) (.i f.toNat) (.i 6) b:=by
 subst c;exact⟨d,.inl ⟨8,f.toNat % 64,f,l,od,by show _<64;omega,by simp at e;omega,rfl,rfl,rfl,h,rfl,λh=>h⟩⟩
def Ib{w wr j:bx}{rb:Nat}{n:Int}{f b d:UInt8}{l l2:bw}{k c sh:Nat}(p:sh=6+7*(8 - (k+1)))(hk:k+1<=8)(g:c<2 ^ sh)(o:(b::l2).length<=maxLen)
 (hN:numTail (k+1) sh c d (b::l2)=numTail 8 6 (f.toNat % 64) f l) (hlast:128<=d.toNat) (hf:128<=f.toNat) (hg:cm w wr (some rb)) (h:Rd j rb (bs l2) n 0) (hg2:cm wr j (some rb)) {a:Int} (ha:a=bits .or .i64 (c:Int) (wrap64 (((b.toNat % 128:Nat):Int)*2 ^ sh))) :
 AR w rb n f l (.i a) (.i b.toNat) (.i ((sh:Int)+7)) j:=by
 have m:=Xt sh c (b.toNat % 128) g od od;rw[m.1]at ha;subst ha;rw[xX _ _ _ _ _ _ od]at hN;have e:6+7*(8 - k)=sh+7:=od
 exact⟨fF hg hg2,.inl ⟨k,_,b,l2,od,by rw[e];exact m.2,by simp at o;omega,rfl,rfl,by rw[e];rfl,h,by rw[e];exact hN,λ_=>hf⟩⟩
def Ia{w wr j:bx}{rb:Nat}{n:Int}{f c:UInt8}{l:bw}{k b sh:Nat}(g:sh=6+7*(8 - (k+1)))(hk:k+1<=8)(o:b<2 ^ sh)
 (hN:numTail (k+1) sh b c []=numTail 8 6 (f.toNat % 64) f l) (hlast:128<=c.toNat) (hf:128<=f.toNat) (hg:cm w wr (some rb)) (h:Rd j rb (bs []) n 1) (hg2:cm wr j (some rb)) {a:Int} (ha:a=bits .or .i64 (b:Int) 0) :
 AR w rb n f l (.i a) (.i 0) (.i ((sh:Int)+7)) j:=by
 have m:=Kb (k+1) hk;rw[<-g]at m;have d:=oO b 0 od od;rw[Nat.or_zero]at d;rw[show ((0:Nat):Int)=0 from rfl]at d;rw[d]at ha;subst ha;rw[zR _ _ _ _ od]at hN;have e:6+7*(8 - k)=sh+7:=od
 exact⟨fF hg hg2,.inr ⟨b,k,_,od,od,rfl,rfl,by rw[e];rfl,KK,h,hN.symm,hf⟩⟩
def eD{w w':bx}{rb:Nat}{n:Int}{l:bw}{s:bo}(b:pNum l=none)(a:cm w w' (some rb))(c:s.size<=maxLen)(h:Rd w' rb s n 1):uT w rb n l (.returned (.i 0)) w':=by refine⟨a,?_⟩;rw[b];exact⟨rfl,s,c,h⟩
def kY{w w':bx}{rb:Nat}{n m m':Int}{l a:bw}(d:pNum l=some (m,a))(c:m'=m)(b:cm w w' (some rb))(h:Rd w' rb (bs a) n 0):uT w rb n l (.returned (.i m')) w':=by subst c;refine⟨b,?_⟩;rw[d];exact⟨rfl,h⟩
def RJ{w:bx}{rb:Nat}{n:Int}{f:UInt8}{l:bw}(h:Rd w rb (bs (f::l)) n 0)(N:(f::l).length<=maxLen) :
 Calls prog 228 #[.po rb] w (uT w rb n (f::l)):=by
 have Z:=jh (jB h N);have hf:=f.toNat_lt;have Q:=VZ f.toNat od;rcases (show f.toNat / 64 % 2=0\/f.toNat / 64 % 2=1 by omega)with q|q
 case' inl=>rw[q,show (((0:Nat)*64:Nat):Int)=0 from rfl]at Q
 case' inr=>rw[q,show (((1:Nat)*64:Nat):Int)=64 from rfl]at Q
 all_goals
  have a2:=Le f.toNat od;have y:=jh q;have HL:=jh N;clear h q N;go_enter func228,ntmps228;go_wp2_with fail;refine Z.mono ?_;rintro e w1 ⟨rfl,F,G⟩;have Y:=jh F;have I:=jh G;clear F G;go_wp2_with fail;go_loopw [5,6,7] (λsz W sh wr=>AR w rb n f l sz W sh wr) (λsz W sh wr=>(2*(100 - intOf sh)).toNat)
  case atStart=>exact Ea HL Y I (by push_cast;rfl)
  case round =>
   have⟨z,hr⟩:=hrel;rcases hr with⟨k,size,g,H,hk,t,p,rfl,rfl,rfl,hR,hN,hF⟩|⟨size,k,s,t,hk,rfl,rfl,rfl,S,hR,hN,hF⟩
   .by_cases r:128<=g.toNat
    .have hF:=hF r
     cases k with
     | zero =>
      have K:Hid (pNum (f::l)=none):=by show _=_;rw[numTail.eq_def]at hN;simp[show ¬g.toNat<128 by omega]at hN;rw[pNum,<-hN]
      have i:=jh (lI hR 1);have o:=jh z;have u:Hid ((bs H).size<=maxLen):=by show _<=_;rw[eQ];exact p
      clear hR hN t p z hF;go_wp2_with (go_at_call 233;refine (DL _).mono ?_;rintro e X ⟨rfl,rfl⟩);refine i.mono ?_;rintro e x ⟨rfl,v,a⟩;have m:=jh v;have d:=jh a;clear v a;go_wp2;go_ret;exact eD K (fF o d) u m
     | succ k =>
      have⟨sh,A⟩:∃sh,sh=6+7*(8 - (k+1)):=⟨_,rfl⟩;rw[<-A]at hN t|-;have T:6<=sh:=od
      have U:sh<=55:=od
      have⟨D,P,E,J,O,o⟩:=wk A hN t p hF z
      cases H with
      | nil =>
       have M:=jh (uC hR);have a4:bits .and .i64 0 127=0:=ov
       clear A hR hN t p hF z;go_wp2_with (go_at_call 233;refine (DL _).mono ?_;rintro e X ⟨rfl,rfl⟩);refine M.mono ?_;rintro e x ⟨rfl,v,a⟩;have m:=jh v;have d:=jh a;clear v a;go_wp2;go_roundw
       case rel=>exact Ia D hk E P r O o m d ot
       case measure=>simp[intOf];omega
      | cons b l2 =>
       have M:=jh (jB hR p);have a4:=Jc b.toNat (by have:=b.toNat_lt;omega);clear A hR hN t p hF z;go_wp2_with (go_at_call 233;refine (DL _).mono ?_;rintro e X ⟨rfl,rfl⟩);refine M.mono ?_;rintro e x ⟨rfl,v,a⟩;have m:=jh v;have d:=jh a;clear v a;go_wp2;go_roundw
       case rel=>exact Ib D hk E J P r O o m d (by push_cast;rfl)
       case measure=>simp[intOf];omega
    .rw [wK _ _ _ _ _ od]at hN;have j:Hid (pNum (f::l)=if (128<=f.toNat/\g.toNat=0)\/1152921504606846976<size\/(f.toNat / 64 % 2=1/\size=0)then none else some (if f.toNat / 64 % 2=1 then -(size:Int)else size,H)):=by show _=_;rw[pNum,<-hN]
     have hp:=Kb k hk;have⟨i,C,o⟩:=we (lI hR 1) hR z;have u:Hid ((bs H).size<=maxLen):=by show _<=_;rw[eQ];exact p
     have V:size<4611686018427387904:=od
     clear hR hN t p z hF hp hk
     by_cases h3:1152921504606846976<size
     .by_cases F:128<=f.toNat
      .by_cases v:g.toNat=0
       .go_wp2_with fail;refine i.mono ?_;rintro e x ⟨rfl,c,a⟩;have m:=jh c;have d:=jh a;clear c a;go_wp2;go_ret;exact eD (by rw[j.out,oc]) (fF o d) u m
       .go_wp2_with fail;refine i.mono ?_;rintro e x ⟨rfl,c,a⟩;have m:=jh c;have d:=jh a;clear c a;go_wp2;go_ret;exact eD (by rw[j.out,oc]) (fF o d) u m
      .go_wp2_with fail;refine i.mono ?_;rintro e x ⟨rfl,c,a⟩;have m:=jh c;have d:=jh a;clear c a;go_wp2;go_ret;exact eD (by rw[j.out,oc]) (fF o d) u m
     .by_cases h4:size=0
      .by_cases F:128<=f.toNat
       .by_cases v:g.toNat=0
        .go_wp2_with fail;refine i.mono ?_;rintro e x ⟨rfl,c,a⟩;have m:=jh c;have d:=jh a;clear c a;go_wp2;go_ret;exact eD (by rw[j.out,oc]) (fF o d) u m
        .have L:((g.toNat:Int)==0)=false:=by simp;omega
         go_wp2_with fail;have B:=y.out
         first
         | (go_ret
            exact kY (by rw[j.out,oa]) vx o C)
         | (refine i.mono ?_;rintro e x ⟨rfl,c,a⟩
            have m:=jh c;have d:=jh a;clear c a;go_wp2;go_ret;exact eD (by rw[j.out,oc]) (fF o d) u m)
       .go_wp2_with fail;have B:=y.out
        first
        | (go_ret
           exact kY (by rw[j.out,oa]) vx o C)
        | (refine i.mono ?_;rintro e x ⟨rfl,c,a⟩
           have m:=jh c;have d:=jh a;clear c a;go_wp2;go_ret;exact eD (by rw[j.out,oc]) (fF o d) u m)
      .have aa:((size:Int)==0)=false:=by simp;omega
       have R:-(size:Int)≠0:=od
       by_cases F:128<=f.toNat
       .by_cases v:g.toNat=0
        .go_wp2_with fail;refine i.mono ?_;rintro e x ⟨rfl,c,a⟩;have m:=jh c;have d:=jh a;clear c a;go_wp2;go_ret;exact eD (by rw[j.out,oc]) (fF o d) u m
        .have L:((g.toNat:Int)==0)=false:=by simp;omega
         go_wp2_with fail;have B:=y.out;go_ret;exact kY (by rw[j.out,oa]) vx o C
       .go_wp2_with fail;have B:=y.out;go_ret;exact kY (by rw[j.out,oa]) vx o C
   .have K:Hid (pNum (f::l)=none):=by
     show _=_;rw[pNum,hN]
    have⟨i,C,o,u⟩:=JT (oG hR ov 1) hR z S;clear hR hN S z;have ab:(128:Int)<=f.toNat:=od
    go_wp2_with fail;refine i.mono ?_;rintro e x ⟨rfl,rfl⟩;go_wp2;go_ret;exact eD K o u C
def rZ{w:bx}{rb:Nat}{n:Int}{l:bw}(h:Rd w rb (bs l) n 0)(a:l.length<=maxLen) :
 Calls prog 228 #[.po rb] w (uT w rb n l):=by
 cases l with
 | nil=>exact JX h
 | cons f l =>
  exact RJ h a
def kR (l:bw):Option (Nat×bw):=match pNum l with
 | some (m,l')=>if m<0 then none else some (m.toNat,l')
 | none=>none
def A8{w:bx}{rb:Nat}{n:Int}{l j:bw}{m:Nat}(h:Rd w rb (bs l) n 0)(f:l.length<=maxLen)(a:kR l=some (m,j)) :
 Calls prog 234 #[.po rb] w λr w'=>r =.returned (.i m)/\cm w w' (some rb)/\Rd w' rb (bs j) n 0:=by
 have q:=jh (rZ h f);clear h f;unfold kR at a
 cases b:pNum l with
 | none=>rw[b]at a;simp at a
 | some r =>
  have⟨x,s⟩:=r;rw[b]at a;simp only at a
  by_cases g:x<0
  .rw[if_pos g]at a;simp at a
  .rw[if_neg g]at a;simp only[qk,ke]at a;obtain⟨rfl,rfl⟩:=a;have o:=jh b;clear b;have c:((x.toNat:Nat):Int)=x:=by omega
   rw[c];go_enter func234,ntmps234;go_wp2_with fail;refine q.mono ?_;rintro e t ⟨d,hr⟩;rw[o.out]at hr;obtain⟨rfl,hr⟩:=hr;have p:=jh hr;have k:=jh d;clear hr d;go_wp2;go_ret;exact⟨rfl,k,p⟩
def Gp{w:bx}{rb:Nat}{n:Int}{l:bw}(h:Rd w rb (bs l) n 0)(q:l.length<=maxLen)(a:kR l=none) :
 Calls prog 234 #[.po rb] w λr w'=>r =.returned (.i 0)/\cm w w' (some rb)/\∃s,s.size<=maxLen/\Rd w' rb s n 1:=by
 have u:=jh (rZ h q);have f:∀x g,pNum l=some (x,g)->g.length<=maxLen:=λx g e=>by have:=(oQ e).2;rw[this,qT]at q;omega
 clear h q;unfold kR at a
 cases b:pNum l with
 | none =>
  have m:=jh b;clear b a;go_enter func234,ntmps234;go_wp2_with fail;refine u.mono ?_;rintro e z ⟨c,hr⟩;rw[m.out]at hr;obtain⟨rfl,hr⟩:=hr;have o:=jh hr;have j:=jh c;clear hr c;go_wp2;go_ret;exact⟨rfl,j,o⟩
 | some r =>
  have⟨x,g⟩:=r;have t:=f x g b;rw[b]at a;simp only at a
  by_cases y:x<0
  .have m:=jh b;clear b a;go_enter func234,ntmps234;go_wp2_with fail;refine u.mono ?_;rintro e z ⟨c,hr⟩;rw[m.out]at hr;obtain⟨rfl,hr⟩:=hr;have o:=jh hr;have j:=jh c;clear hr c;go_wp2_with fail;refine (lI o 1).mono ?_;rintro e A ⟨rfl,v,d⟩;have p:=jh v;have k:=jh d;clear v d;go_wp2;go_ret;exact⟨rfl,fF j k,_,by rw[eQ];exact t,p⟩
  .rw[if_neg y]at a;simp at a
def Gq{w:bx}{rb:Nat}{s:bo}{n x:Int}(h:Rd w rb s n x)(b:s.size<=maxLen)(c:x≠0) :
 Calls prog 234 #[.po rb] w λr w'=>r =.returned (.i 0)/\w'=w:=by
 have a:=jh (xY h b c);clear h;go_enter func234,ntmps234;go_wp2_with fail;refine a.mono ?_;rintro e w' ⟨rfl,rfl⟩;go_wp2;go_ret;exact⟨rfl,rfl⟩
def yf (l:bw):Option (bw×bw):=match kR l with
 | some (m,l')=>if 200<m\/l'.length<m then none else some (l'.take m,l'.drop m)
 | none=>none
def wL{l c:bw}{m:Nat}(h:kR l=some (m,c)):c.length<=l.length:=by
 unfold kR at h
 cases a:pNum l with
 | none=>rw[a]at h;simp at h
 | some r =>
  have⟨x,d⟩:=r;have:=(oQ a).2;rw[a]at h;simp only at h
  by_cases b:x<0
  .rw[if_pos b]at h;simp at h
  .rw[if_neg b]at h;simp only[qk,ke]at h;obtain⟨_,rfl⟩:=h;rw[this,qT];omega
def Vv{w:bx}{rb:Nat}{n:Int}{l s u:bw}(h:Rd w rb (bs l) n 0)(t:l.length<=maxLen)(a:yf l=some (s,u)) :
 Calls prog 229 #[.po rb] w λr w'=>r =.returned (.string (bs s))/\cm w w' (some rb)/\Rd w' rb (bs u) n 0:=by
 unfold yf at a
 cases c:kR l with
 | none=>rw[c]at a;simp at a
 | some r =>
  have⟨m,o⟩:=r;have y:=jh (A8 h t c);have i:=wL c;rw[c]at a;simp only at a
  by_cases g:200<m\/o.length<m
  .rw[if_pos g]at a;simp at a
  rw[if_neg g]at a;simp only[qk,ke]at a;obtain⟨rfl,rfl⟩:=a;have z:(m:Int)<=200:=od
  have k:m<=o.length:=od
  have j:o.length<=maxLen:=od
  clear h t c i g;go_enter func229,ntmps229;go_wp2_with fail;refine y.mono ?_;rintro e A ⟨rfl,q,hr⟩;have x:=jh hr;have v:=jh q;clear hr q;go_wp2_with fail;refine (Mf x j m k).mono ?_;rintro e B ⟨rfl,p,b⟩;have f:=jh p;have d:=jh b;clear p b;go_wp2;go_ret;exact⟨rfl,fF v d,f⟩
def Vu{w:bx}{rb:Nat}{n:Int}{l:bw}(h:Rd w rb (bs l) n 0)(t:l.length<=maxLen)(i:yf l=none) :
 Calls prog 229 #[.po rb] w λr w'=>r =.returned (.string ⟨#[]⟩)/\cm w w' (some rb)/\∃s,s.size<=maxLen/\Rd w' rb s n 1:=by
 unfold yf at i
 cases k:kR l with
 | none =>
  have q:=jh (Gp h t k);clear h t i k;go_enter func229,ntmps229;go_wp2_with fail;refine q.mono ?_;rintro e A ⟨rfl,d,s,z,hr⟩;have j:=jh hr;have o:=jh d;clear hr d;go_wp2_with fail;refine (wO j z ov 0).mono ?_;rintro e B ⟨rfl,rfl⟩;go_wp2;go_ret;exact⟨rfl,o,s,z,j⟩
 | some r =>
  have⟨m,x⟩:=r;have q:=jh (A8 h t k);have u:=wL k;have c:x.length<=maxLen:=od
  rw[k]at i;simp only at i
  by_cases C:200<m\/x.length<m
  .clear h t k u i
   by_cases y:200<m
   .have g:(200:Int)<m:=by omega
    go_enter func229,ntmps229;go_wp2_with fail;refine q.mono ?_;rintro e A ⟨rfl,d,hr⟩;have j:=jh hr;have o:=jh d;clear hr d;go_wp2_with fail;refine (lI j 1).mono ?_;rintro e B ⟨rfl,p,a⟩;have b:=jh p;have f:=jh a;clear p a;go_wp2_with fail;refine (wO b (by rw[eQ];exact c) ov m).mono ?_;rintro e D ⟨rfl,rfl⟩;go_wp2;go_ret;exact⟨rfl,fF o f,_,by rw[eQ];exact c,b⟩
   .have g:(m:Int)<=200:=by omega
    have v:(x.length:Int)<m:=od
    go_enter func229,ntmps229;go_wp2_with fail;refine q.mono ?_;rintro e A ⟨rfl,d,hr⟩;have j:=jh hr;have o:=jh d;clear hr d;go_wp2_with fail;refine (Me j c m v).mono ?_;rintro e B ⟨rfl,p,a⟩;have b:=jh p;have f:=jh a;clear p a;go_wp2;go_ret;exact⟨rfl,fF o f,_,by rw[eQ];exact c,b⟩
  .rw[if_neg C]at i;simp at i
def Rk{w:bx}{rb:Nat}{n:Int}{b:UInt8}{l:bw}(h:Rd w rb (bs (b::l)) n 0)(c:(b::l).length<=maxLen)(j:Lf.gD b.toNat) :
 Calls prog 230 #[.po rb] w λr w'=>r =.returned (.i b.toNat)/\cm w w' (some rb)/\Rd w' rb (bs l) n 0:=by
 have g:=jh (jB h c);clear h c;go_enter func230,ntmps230;go_wp2_with fail;refine g.mono ?_;rintro e k ⟨rfl,hr,a⟩;have f:=jh hr;have d:=jh a;clear hr a;go_wp2_with fail;refine (Lf.rQ _ _).mono ?_;rintro e m ⟨rfl,rfl⟩;go_wp2;go_ret;exact⟨rfl,d,f⟩
def UI{w:bx}{rb:Nat}{n:Int}{l:bw}(h:Rd w rb (bs l) n 0)(f:l.length<=maxLen)(o:∀b u,l=b::u->Lf.gD b.toNat=false) :
 Calls prog 230 #[.po rb] w λr w'=>(∃p:Int,r =.returned (.i p))/\cm w w' (some rb)/\∃s,s.size<=maxLen/\Rd w' rb s n 1:=by
 cases l with
 | nil =>
  have m:=jh (uC h);have t:Lf.gD 0=false:=ov
  clear h f o;go_enter func230,ntmps230;go_wp2_with fail;refine m.mono ?_;rintro e v ⟨rfl,hr,a⟩;have d:=jh hr;have g:=jh a;clear hr a;go_wp2_with fail;refine (Lf.rQ _ _).mono ?_;rintro e x ⟨rfl,rfl⟩;go_wp2_with fail;refine (oG d ov 1).mono ?_;rintro e y ⟨rfl,rfl⟩;go_wp2;go_ret;exact⟨⟨0,rfl⟩,g,_,KK,d⟩
 | cons b l =>
  have m:=jh (jB h f);have t:=o b l rfl;have HL:Hid (l.length<=maxLen):=by show _<=_;simp at f;omega
  clear h f o;go_enter func230,ntmps230;go_wp2_with fail;refine m.mono ?_;rintro e v ⟨rfl,hr,a⟩;have d:=jh hr;have g:=jh a;clear hr a;go_wp2_with fail;refine (Lf.rQ _ _).mono ?_;rintro e x ⟨rfl,rfl⟩;go_wp2_with fail;refine (lI d 1).mono ?_;rintro e y ⟨rfl,q,c⟩;have k:=jh q;have j:=jh c;clear q c;go_wp2;go_ret;exact⟨⟨_,rfl⟩,fF g j,_,by rw[eQ];exact HL,k⟩
