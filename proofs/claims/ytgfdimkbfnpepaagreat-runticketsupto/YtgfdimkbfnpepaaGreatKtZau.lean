import Derived.Test.YtgfdimkbfnpepaaGreatKtZat
namespace Go.Proofs.YtgfdimkbfnpepaaGreat
set_option linter.all false
open Go.Proofs.Tryz
set_option maxRecDepth 100000
set_option maxHeartbeats 4000000
open Go.ChangeShapes Go.WideShapes Go.ChangeAt Go.RowKit
def jN (w:bx) (rb d n:Nat) (l:bw) (r:Ending) (w':bx):Prop:=cm w w' (some rb)/\match pNode d n l with
 | .ok (t,n',l')=>∃v,r =.returned v/\bI (w.heap.size <= ·) w' t v/\Rd w' rb (bs l') n' 0
 | .error e=>e≠0/\(∃k m p s a c c',r =.returned (af k m p s a c c'))/\∃(s:bo) (m:Int),s.size<=maxLen/\Rd w' rb s m e
def EF (dep:Int) (d:Nat):Prop:=∀(w:bx) (rb n:Nat) (l:bw),Rd w rb (bs l) n 0->l.length<=maxLen->n<=300 ->
 Calls prog 218 #[.po rb,.i dep] w (jN w rb d n l)
def OW (w:bx) (rb d n:Nat) (l:bw) (r:Ending) (w':bx):Prop:=cm w w' (some rb)/\match pQ (λn l=>pNode d n l) n l with
 | .ok (ts,n',l')=>∃(a:bj) (c:Nat) (V:bt),r =.returned (.slice a ts.length c)/\(∀i,i<ts.length->ky (w.heap.size <= ·) w' a i (V i))/\(∀i (h:i<ts.length),bI (w.heap.size <= ·) w' ts[i] (V i))/\Rd w' rb (bs l') n' 0/\ts.length<=c
 | .error e=>e≠0/\(∃a k c,r =.returned (.slice a k c))/\∃(s:bo) (m:Int),s.size<=maxLen/\Rd w' rb s m e
def UH (ts:aE):Except Int (aE×Nat×bw)->Except Int (aE×Nat×bw)
 | .ok (us,n,l)=>.ok (ts++us,n,l)
 | .error e=>.error e
def Su (w:bx) (rb d:Nat) (R:Except Int (aE×Nat×bw)) (v left:cg) (wr:bx):Prop:=cm w wr (some rb)/\(
 (∃(k n:Nat) (l:bw) (ts:aE) (vs:bk),k<=1152921504606846976/\left =.i k/\ts.length<=n/\n<=300/\l.length<=maxLen/\Rd wr rb (bs l) n 0/\kQ w.heap.size wr v ts vs/\R=UH ts (zm (λn l=>pNode d n l) k n l)) \/
 (∃(e:Int) (s:bo) (m:Int) (a:bj) (x c k:Nat),e≠0/\s.size<=maxLen/\Rd wr rb s m e/\v =.slice a x c/\left =.i k/\k<=1152921504606846976/\R =.error e))
def Jd{w:bx}{rb:Nat}{s:bo}{n x:Int}(h:Rd w rb s n x)(c:s.size<=maxLen)(d:x≠0)(a:Int) :
 Calls prog 231 #[.po rb,.i a] w λr w'=>r =.returned (.n0)/\w'=w:=by
 have b:=jh (Gq h c d);clear h;go_enter func231,ntmps231;go_wp2_with fail;refine b.mono ?_;rintro e w' ⟨rfl,rfl⟩;go_wp2_with fail;refine je4 1 ?_;rw[ka1];go_wp2;go_ret;exact⟨rfl,rfl⟩
def Lj{dep:Int}{d:Nat}(hd:d<=24)(au:0<=dep/\dep<=25)(hN:EF (dep+1) d)(w:bx)(rb n:Nat)(l:bw)(h:Rd w rb (bs l) n 0)(X:l.length<=maxLen)(hn:n<=300) :
 Calls prog 231 #[.po rb,.i dep] w (OW w rb d n l):=by
 have aj:=h.lt
 cases u:kR l with
 | none =>
  have HT:=jh (Gp h X u);have HQ:Hid (pQ (λn l=>pNode d n l) n l =.error 1):=by show _=_;unfold pQ;rw[u]
  clear h X u hN;go_enter func231,ntmps231;go_wp2_with fail;refine HT.mono ?_;rintro e w1 ⟨rfl,B,s,hs,H⟩;have HR:=jh H;have HG:=jh B;clear H B;go_wp2_with fail;refine je4 1 ?_;rw[ka1];go_wp2;go_ret;refine⟨HG,?_⟩;rw[HQ.out];exact⟨ov,⟨none,0,0,rfl⟩,s,n,hs,HR⟩
 | some r =>
  have⟨c,l1⟩:=r;have HT:=jh (A8 h X u);have ae:=wL u;have P:=(sF u).1;have HQ:Hid (pQ (λn l=>pNode d n l) n l=zm (λn l=>pNode d n l) c n l1):=by show _=_;unfold pQ;rw[u]
  have ai:l1.length<=maxLen:=od
  have HN:=jh hN;clear h X u hN ae;go_enter func231,ntmps231;go_wp2_with fail;refine HT.mono ?_;rintro e w1 ⟨rfl,B,H⟩;have HR:=jh H;have HG:=jh B;clear H B;go_wp2_with fail;go_loopw [5,6] (λv left wr=>Su w rb d (pQ (λn l=>pNode d n l) n l) v left wr) (λ_ left _=>(intOf left).toNat)
  case atStart=>exact⟨HG,.inl ⟨c,n,l1,[],[],P,rfl,zE _,hn,ai,HR,kQ.nil _ _,by rw[HQ.out];cases zm (λn l=>pNode d n l) c n l1<;>rfl⟩⟩
  case round =>
   have⟨B,H⟩:=hrel;rcases H with⟨k,n1,l2,ts,vs,hk,rfl,az,S,R,hR,K,z⟩|⟨e,s,m,a,x,cc,k,he,hs,hR,rfl,rfl,hk,z⟩
   .have⟨c0,c1,c2,f0,f1,f2⟩:=hR.cells
    cases k with
    | zero =>
     have⟨o,I,HL,q⟩:=JT B hR K z;clear B hR K z;go_wp2;go_ret;have⟨a,c',V,hv,h1,h2⟩:=HL.out.done;refine⟨o,?_⟩;rw[q.out];simp only[zm,UH,qd1];exact⟨a,c',V,by rw[<-hv];rfl,h1,h2,I,qP HL.own hv⟩
    | succ k =>
     have ax:(0:Int)<((k+1:Nat):Int):=od
     have⟨HI,o,I,HL,q⟩:=wg (HN wr rb n1 l2 hR R S) B hR K z;clear B hR K z;go_wp2_with fail;refine HI.mono ?_;rintro e w2 ⟨A,Y⟩;have U:w.heap.size<=w2.heap.size:=km o.size A.size;have J:=HL.out.keep A aj;have T:vs.length<=1000000000000:=by have:=HL.out.len;omega
     cases u:pNode d n1 l2 with
     | error x =>
      rw[u]at Y;obtain⟨hx,⟨Z,m',p',s',W,q',L,rfl⟩,sx,mx,aq,E⟩:=Y;have j:=q.out;rw[zm]at j;simp only[u,UH]at j;have⟨C,p,f,D⟩:=JT j J.own (fF o A) E;clear j J A E u q;unfold af;go_wp2_with (at_builtin;refine Yn w.heap.size vs Z m' p' s' W q' L w2 u5 rfl (.tmp 20) (.tmp 25) rfl rfl rfl rfl p U T ?_;intro g ad w3 G F;have b:=jh F;have O:=jh G;clear G F);go_roundw
      case rel =>
       refine⟨?_,.inr ⟨x,sx,mx,_,_,_,k,hx,aq,?_,rfl,OS,od,C⟩⟩
       .exact⟨b.1.os.trans f.os,b.1.tape.trans f.tape,b.1.output.trans f.output,km f.size b.1.size,λi Q H=>(b.block (ki Q f.size) (λe=>by have:=(zp p i e.symm).1;omega)).trans (f.block i Q H)⟩
       .unfold Rd;rw[b.out.block D.out.lt (λe=>by have:=(zp p.out rb e.symm).1;omega)];exact D
      case measure=>simp[intOf];try omega
     | ok y =>
      have⟨t,n',l'⟩:=y;rw[u]at Y;obtain⟨v,rfl,N,E⟩:=Y;have⟨a1,a2,a3,a4⟩:=pU d hd n1 l2 t n' l' S u;obtain⟨Z,m',p',s',W,q',L,rfl⟩:=N.af;have ah:l'.length<=maxLen:=by rw[a1,qT]at R;omega
      have aC:=size_pos t;have j:=q.out;rw[zm]at j;simp only[u]at j;have M:=HL.out.own;have⟨C,p,f,D,aa⟩:=wg j J (fF o A) E N;have ab:Hid (∀k,u5.ownBlock=some k->k<wr.heap.size):=λk hk=>(zp M k hk).2;have ar:=o.out.size;clear j J A E u q N a1 a4 M;unfold af;go_wp2_with (at_builtin;refine Yn w.heap.size vs Z m' p' s' W q' L w2 u5 rfl (.tmp 20) (.tmp 25) rfl rfl rfl rfl p.own U T ?_;intro g ad w3 G F;have b:=jh F;have O:=jh G;clear G F);go_roundw
      case rel =>
       refine⟨?_,.inl ⟨k,n',l',ts++[t],vs++[af Z m' p' s' W q' L],od,OS,oB,a3,ah,?_,?_,?_⟩⟩
       .exact⟨b.1.os.trans f.os,b.1.tape.trans f.tape,b.1.output.trans f.output,km f.size b.1.size,λi Q H=>(b.block (ki Q f.size) (λe=>by have:=(zp p.own i e.symm).1;omega)).trans (f.block i Q H)⟩
       .unfold Rd;rw[b.out.block D.out.lt (λe=>by have:=(zp p.out.own rb e.symm).1;omega)];exact D
       .exact p.push ar ab aa b O
       .rw[C.out];cases zm (λn l=>pNode d n l) k n' l'<;>simp[UH]
      case measure=>simp[intOf];try omega
   .have⟨c0,c1,c2,f0,f1,f2⟩:=hR.cells;have o:=jh B;have I:=jh hR;have q:=jh z;clear B hR z
    by_cases ay:(0:Int)<(k:Int)
    all_goals
     go_wp2;go_ret;refine⟨o,?_⟩;rw[q.out];exact⟨he,⟨a,x,cc,rfl⟩,s,m,hs,I⟩
def ic{w w':bx}{rb g:Nat}{o:Obj}(h:w.heap[g]?=some o)(b:cm w w' (some rb))(a:g≠rb):w'.heap[g]?=some o:=by rw[b.block g (qq.1 h).1 (by simpa using a)];exact h
def jX{w w':bx}{rb d n:Nat}{l:bw}{v:cg}{e m:Int}{s:bo}(i:pNode d n l =.error e)(g:e≠0)(h:cm w w' (some rb))(o:∃k m p s a c b,v=af k m p s a c b)(j:s.size<=maxLen)(f:Rd w' rb s m e) :
 jN w rb d n l (.returned v) w':=by
 refine⟨h,?_⟩;rw[i];obtain⟨k,q,p,r,a,c,b,rfl⟩:=o;exact⟨g,⟨k,q,p,r,a,c,b,rfl⟩,s,m,j,f⟩
def Rd.far{w w':bx}{rb g:Nat}{s:bo}{n x:Int}(h:Rd w rb s n x)(k:cm w w' (some g))(a:rb≠g):Rd w' rb s n x:=by unfold Rd;rw[k.block rb h.lt (by simpa using a)];exact h
def kW(g:Int)(d n:Nat)(l:bw)(A:pNode d n l =.error 4)(hc:(n:Int)=300\/24<g)(w:bx)(rb:Nat)(h:Rd w rb (bs l) n 0)(z:l.length<=maxLen)(hn:n<=300) :
 Calls prog 218 #[.po rb,.i g] w (jN w rb d n l):=by
 have⟨P,Q,R,S,T,U⟩:=h.cells;have N:=h.lt;have o:=jh (lI (h.alloc (.cells #[.i 0,.i 0,.i 0,.string ⟨#[]⟩,.n0] 26)) 4);have y:=jh A;have HL:Hid ((bs l).size<=maxLen):=by show _<=_;rw[eQ];exact z
 clear h A z
 by_cases V:(n:Int)=300
 .clear hc;go_enter func218,ntmps218;go_wp2_with fail;refine o.mono ?_;rintro e m ⟨rfl,p,a⟩;have c:=ic (jj _ _) a od;have⟨B,C,D,E,F⟩:=bE c;have⟨G,H,I,J,K⟩:=kC c;have q:=jh p;have f:=jh a;clear p a;have j:=c;clear c;go_wp2_with fail;change bodyPost _ _ _ _ _ (fC m w.heap.size (.i 0) (.i 0) (.i 0) (.string ⟨#[]⟩) (.n0));have k:=dH j (.i 0) (.i 0) (.i 0) (.string ⟨#[]⟩) (.n0);have b:=dW m w.heap.size (.i 0) (.i 0) (.i 0) (.string ⟨#[]⟩) (.n0);generalize fC m w.heap.size (.i 0) (.i 0) (.i 0) (.string ⟨#[]⟩) (.n0)=O at *;have⟨r,s,t,u,x⟩:=bE k;refine yb (v:=af 0 0 0 ⟨#[]⟩ none 0 0) (by simp[results,results218,go_sem,r,s,t,u,x,af]) rfl ?_;exact jX y ov (aG (fF (kL (aK _)) f) b (qS _)) ⟨_,_,_,_,_,_,_,rfl⟩ HL (q.far b od)
 .have L:24<g:=by omega
  have M:¬n=300:=od
  clear hc;go_enter func218,ntmps218;go_wp2_with fail;refine o.mono ?_;rintro e m ⟨rfl,p,a⟩;have c:=ic (jj _ _) a od;have⟨B,C,D,E,F⟩:=bE c;have⟨G,H,I,J,K⟩:=kC c;have q:=jh p;have f:=jh a;clear p a;have j:=c;clear c;go_wp2_with fail;change bodyPost _ _ _ _ _ (fC m w.heap.size (.i 0) (.i 0) (.i 0) (.string ⟨#[]⟩) (.n0));have k:=dH j (.i 0) (.i 0) (.i 0) (.string ⟨#[]⟩) (.n0);have b:=dW m w.heap.size (.i 0) (.i 0) (.i 0) (.string ⟨#[]⟩) (.n0);generalize fC m w.heap.size (.i 0) (.i 0) (.i 0) (.string ⟨#[]⟩) (.n0)=O at *;have⟨r,s,t,u,x⟩:=bE k;refine yb (v:=af 0 0 0 ⟨#[]⟩ none 0 0) (by simp[results,results218,go_sem,r,s,t,u,x,af]) rfl ?_;exact jX y ov (aG (fF (kL (aK _)) f) b (qS _)) ⟨_,_,_,_,_,_,_,rfl⟩ HL (q.far b od)
structure Mid (w y:bx) (rb N:Nat) (k:Int) (p:Int):Prop where
 grow:cm w y (some rb)
 hR:y.heap[w.heap.size]?=some (.cells #[.i 0,.i 0,.i 0,.string ⟨#[]⟩,.n0] 26 (0,0))
 hN:y.heap[N]?=some (.cells #[.i k,.i 0,.i p,.string ⟨#[]⟩,.n0] 26 (0,0))
 lt:w.heap.size<N
 Zj:rb<w.heap.size
def Mid.step{w y b:bx}{rb N:Nat}{k p:Int}(h:Mid w y rb N k p)(a:cm y b (some rb)):Mid w b rb N k p :=
 ⟨fF h.grow a,ic h.hR a (by have:=h.Zj;omega),ic h.hN a (by have:=h.Zj;have:=h.lt;omega),h.lt,h.Zj⟩
def Oz{w:bx}{rb:Nat}{s:bo}{n x:Int}(h:Rd w rb s n x)(c:s.size<=maxLen)(d:x≠0) :
 Calls prog 228 #[.po rb] w λr w'=>r =.returned (.i 0)/\cm w w' (some rb)/\Rd w' rb s n x :=
 (xY h c d).mono λr w' ⟨a,b⟩=>by subst b;exact⟨a,bM _ _,h⟩
def KC{w:bx}{rb:Nat}{s:bo}{n x:Int}(h:Rd w rb s n x)(d:s.size<=maxLen)(e:x≠0)(a:Int) :
 Calls prog 231 #[.po rb,.i a] w λr w'=>r =.returned (.n0)/\cm w w' (some rb)/\Rd w' rb s n x :=
 (Jd h d e a).mono λr w' ⟨b,c⟩=>by subst c;exact⟨b,bM _ _,h⟩
def QU{a:Int}{d:Nat}(hd:d+1<=24)(z:0<=a/\a<=24)(w:bx)(rb n:Nat)(h:Rd w rb (bs []) n 0)(R:([]:bw).length<=maxLen)(hn:n<=300) :
 Calls prog 218 #[.po rb,.i a] w (jN w rb (d+1) n []):=by
 by_cases g:n=300
 .exact kW a (d+1) n [] (by rw[pNode.eq_def];simp[g]) (.inl od) w rb h R hn
 have I:((n:Int)==300)=false:=oB
 have⟨K,L⟩:=z;have⟨X,Y,Z,f0,f1,f2⟩:=h.cells;have M:=h.lt;have N:Rd ((w.setCell ⟨rb,1,none⟩ (.i ((n:Int)+1))).alloc (.cells #[.i 0,.i 0,.i 0,.string ⟨#[]⟩,.n0] 26)) rb (bs []) ((n:Int)+1) 0:=(h.set1 _).alloc _;have r:((w.setCell ⟨rb,1,none⟩ (.i ((n:Int)+1))).alloc (.cells #[.i 0,.i 0,.i 0,.string ⟨#[]⟩,.n0] 26)).heap[w.heap.size]?=some (.cells #[.i 0,.i 0,.i 0,.string ⟨#[]⟩,.n0] 26 (0,0)):=by have p:=jj (w.setCell ⟨rb,1,none⟩ (.i ((n:Int)+1))) (.cells #[.i 0,.i 0,.i 0,.string ⟨#[]⟩,.n0] 26);rw[show (w.setCell ⟨rb,1,none⟩ (.i ((n:Int)+1))).heap.size=w.heap.size from by simp[World.setCell]]at p;exact p
 have q:cm w ((w.setCell ⟨rb,1,none⟩ (.i ((n:Int)+1))).alloc (.cells #[.i 0,.i 0,.i 0,.string ⟨#[]⟩,.n0] 26)) (some rb):=fF (dY (bM _ _) _ _ _) (kL (aK _));have D:=jh r;have C:=jh q;clear h r q;have Q:Hid (pNode (d+1) n [] =.error 1):=by show _=_;rw[pNode.eq_def];simp[g]
 have HO:=jh (uC N);clear N;go_enter func218,ntmps218;go_wp2_with fail;refine HO.mono ?_;rintro e l ⟨rfl,p,k⟩;have f:=ic D k od;have O:Mid w (l.alloc (.cells #[.i 0,.i 0,.i 0,.string ⟨#[]⟩,.n0] 26)) rb l.heap.size 0 0 :=
  ⟨fF (fF C k) (kL (aK _)),by rw[qd2 (h:=(qq.1 f).1)];exact f,jj _ _,(qq.1 f).1,M⟩
 have x:=p.alloc (.cells #[.i 0,.i 0,.i 0,.string ⟨#[]⟩,.n0] 26);have HM:=jh O;have G:=jh x;clear p k O f x;go_wp2_with fail;refine (Oz G Up ov).mono ?_;rintro e y ⟨rfl,B,j⟩;have E:=jh (HM.step B);have m:=jh j;clear B j;have⟨s,t,b,P,_⟩:=E.out;have u:=(kM b (.i 0)).1;have c:=bH (o:=1) t (by omega:w.heap.size≠l.heap.size) (.i 0);have⟨d0,d1,d2,d3,d4⟩:=bE u;have⟨q0,q1,q2,q3,q4⟩:=bE c;have⟨g0,g1,g2,g3,g4⟩:=kC c;have⟨i0,i1,i2,i3,i4⟩:=kC b;have⟨j0,j1,j2,j3,j4⟩:=bE b;have H:=jh c;have F:=jh s;clear u c t b s;go_wp2_with fail;change bodyPost _ _ _ _ _ (fC (y.setCell ⟨l.heap.size,1,none⟩ (.i 0)) w.heap.size (.i 0) (.i 0) (.i 0) (.string ⟨#[]⟩) (.n0));have J:=dH H (.i 0) (.i 0) (.i 0) (.string ⟨#[]⟩) (.n0);have A:=dW (y.setCell ⟨l.heap.size,1,none⟩ (.i 0)) w.heap.size (.i 0) (.i 0) (.i 0) (.string ⟨#[]⟩) (.n0);generalize fC (y.setCell ⟨l.heap.size,1,none⟩ (.i 0)) w.heap.size (.i 0) (.i 0) (.i 0) (.string ⟨#[]⟩) (.n0)=wf at *;have⟨S,T,U,V,W⟩:=bE J;refine yb (v:=af 0 0 0 ⟨#[]⟩ none 0 0) (by simp[results,results218,go_sem,S,T,U,V,W,af]) rfl ?_;exact jX Q ov (aG (aG F (dY (bM _ _) _ _ _) od) A (qS _)) ⟨_,_,_,_,_,_,_,rfl⟩ Up ((m.far (dY (bM _ _) _ _ _) od).far A od)
def Ay{w w':bx}{rb d n b:Nat}{l a:bw}{v:cg}{t:Tr}{m:Int}(g:pNode d n l =.ok (t,b,a))(e:cm w w' (some rb))(h:bI (w.heap.size <= ·) w' t v)(f:m=b)(c:Rd w' rb (bs a) m 0) :
 jN w rb d n l (.returned v) w':=by
 subst f;refine⟨e,?_⟩;rw[g];exact⟨v,rfl,h,c⟩
def DR{ok:br}{w:bx}{k n p:Int}{s:bo}(c:s.size<=maxLen)(hk:bD k)(hn:bD n)(b:bD p):bI ok w (.nd k n p s []) (af k n p s none 0 0) :=
 bI.mk (hk:=zE _) (args:=[]) (λ_=>.i 0) ot c hk hn b (λi a=>by simp at a) (λi a=>by simp at a)
def DN{w y e:bx}{S:Nat}{ts:aE}{a:bj}{c:Nat}{V:bt}{k p:Int}(hA1:∀i,i<ts.length->ky (S <= ·) y a i (V i))(hA2:∀i (h:i<ts.length),bI (S <= ·) y ts[i] (V i))(f:Same (S <= ·) y e)(j:w.heap.size<=S)
 (hl:ts.length<=maxLen) (hk:bD k) (hp:bD p) (hcap:ts.length<=c):bI (w.heap.size <= ·) e (.nd k 0 p (bs []) ts) (af k 0 p (bs []) a ts.length c):=by
 have h:=bI.mk (hk:=hcap) (ok:=(S <= ·)) (w:=e) (args:=ts) (a:=a) (c:=c) (s:=bs []) V hl Up hk (show bD 0 from ⟨od,od⟩) hp (λi d=>(hA1 i d).same f) (λi d=>(hA2 i d).same f);exact h.ae (λb _ g=>by have : S<=b:=g;show _<=b;omega)
def Il{y e d:bx}{S N R:Nat}(c:cm y e (some N))(f:cm e d (some R))(i:N<S)(j:R<S):Same (S <= ·) y d:=by intro b o g a;have h:S<=b:=g;exact qt ((f.block b (ki a c.size) oB).trans (c.block b a oB))
def Ut{dep:Int}{d:Nat}(hd:d+1<=24)(O:0<=dep/\dep<=24)(w:bx)(rb n:Nat)(b:UInt8)(l:bw)(hb:b.toNat=0)(h:Rd w rb (bs (b::l)) n 0)(P:(b::l).length<=maxLen)(hn:n<=300) :
 Calls prog 218 #[.po rb,.i dep] w (jN w rb (d+1) n (b::l)):=by
 by_cases j:n=300
 .exact kW dep (d+1) n (b::l) (by rw[pNode.eq_def];simp[j]) (.inl od) w rb h P hn
 have V:((n:Int)==300)=false:=oB
 have⟨X,Y⟩:=O;have⟨c0,c1,c2,f0,f1,f2⟩:=h.cells;have Z:=h.lt;have hA:Rd ((w.setCell ⟨rb,1,none⟩ (.i ((n:Int)+1))).alloc (.cells #[.i 0,.i 0,.i 0,.string ⟨#[]⟩,.n0] 26)) rb (bs (b::l)) ((n:Int)+1) 0:=(h.set1 _).alloc _;have L:((w.setCell ⟨rb,1,none⟩ (.i ((n:Int)+1))).alloc (.cells #[.i 0,.i 0,.i 0,.string ⟨#[]⟩,.n0] 26)).heap[w.heap.size]?=some (.cells #[.i 0,.i 0,.i 0,.string ⟨#[]⟩,.n0] 26 (0,0)):=by have J:=jj (w.setCell ⟨rb,1,none⟩ (.i ((n:Int)+1))) (.cells #[.i 0,.i 0,.i 0,.string ⟨#[]⟩,.n0] 26);rw[show (w.setCell ⟨rb,1,none⟩ (.i ((n:Int)+1))).heap.size=w.heap.size from by simp[World.setCell]]at J;exact J
 have K:cm w ((w.setCell ⟨rb,1,none⟩ (.i ((n:Int)+1))).alloc (.cells #[.i 0,.i 0,.i 0,.string ⟨#[]⟩,.n0] 26)) (some rb):=fF (dY (bM _ _) _ _ _) (kL (aK _));have R:=jh L;have Q:=jh K;clear h L K;have W:=jB hA P;rw[hb,show ((0:Nat):Int)=0 from rfl]at W;have HO:=jh W;have H:Hid (l.length<=maxLen):=by show _<=_;simp at P;omega
 clear hA W P;go_enter func218,ntmps218;go_wp2_with fail;refine HO.mono ?_;rintro e z ⟨rfl,J,F⟩;have A:=ic R F od;have hM:Mid w (z.alloc (.cells #[.i 0,.i 0,.i 0,.string ⟨#[]⟩,.n0] 26)) rb z.heap.size 0 0 :=
  ⟨fF (fF Q F) (kL (aK _)),by rw[qd2 (h:=(qq.1 A).1)];exact A,jj _ _,(qq.1 A).1,Z⟩
 have N:=J.alloc (.cells #[.i 0,.i 0,.i 0,.string ⟨#[]⟩,.n0] 26);have HM:=jh hM;have I:=jh N;clear J F hM A N
 cases G:pNum l with
 | none =>
  have T:Hid (pNode (d+1) n (b::l) =.error 1):=by show _=_;rw[pNode.eq_def];simp[j,hb,G]
  have S:=jh (rZ I H);have U:=jh G;clear G;go_wp2_with fail;refine S.mono ?_;rintro e y ⟨u,x⟩;rw[U.out]at x;obtain⟨rfl,s,hs,f⟩:=x;have B:=jh (HM.step u);have g:=jh f;clear u f;have⟨k,p,a,M,_⟩:=B.out;have q:=(kM a (.i 0)).1;have c:=bH (o:=1) p (by omega:w.heap.size≠z.heap.size) (.i 0);have⟨d0,d1,d2,d3,d4⟩:=bE q;have⟨q0,q1,q2,q3,q4⟩:=bE c;have⟨g0,g1,g2,g3,g4⟩:=kC c;have⟨i0,i1,i2,i3,i4⟩:=kC a;have⟨j0,j1,j2,j3,j4⟩:=bE a;have D:=jh c;have C:=jh k;clear q c p a k;go_wp2_with fail;change bodyPost _ _ _ _ _ (fC (y.setCell ⟨z.heap.size,1,none⟩ (.i 0)) w.heap.size (.i 0) (.i 0) (.i 0) (.string ⟨#[]⟩) (.n0));have E:=dH D (.i 0) (.i 0) (.i 0) (.string ⟨#[]⟩) (.n0);have t:=dW (y.setCell ⟨z.heap.size,1,none⟩ (.i 0)) w.heap.size (.i 0) (.i 0) (.i 0) (.string ⟨#[]⟩) (.n0);generalize fC (y.setCell ⟨z.heap.size,1,none⟩ (.i 0)) w.heap.size (.i 0) (.i 0) (.i 0) (.string ⟨#[]⟩) (.n0)=wf at *;have⟨z0,z1,z2,z3,z4⟩:=bE E;refine yb (v:=af 0 0 0 ⟨#[]⟩ none 0 0) (by simp[results,results218,go_sem,z0,z1,z2,z3,z4,af]) rfl ?_;exact jX T ov (aG (aG C (dY (bM _ _) _ _ _) od) t (qS _)) ⟨_,_,_,_,_,_,_,rfl⟩ hs ((g.far (dY (bM _ _) _ _ _) od).far t od)
 | some r =>
  have⟨m,l'⟩:=r;have hm:=(oQ G).1;have T:Hid (pNode (d+1) n (b::l) =.ok (.nd 0 m 0 (bs []) [],n+1,l')):=by show _=_;rw[pNode.eq_def];simp[j,hb,G]
  have S:=jh (rZ I H);have U:=jh G;clear G;go_wp2_with fail;refine S.mono ?_;rintro e y ⟨u,x⟩;rw[U.out]at x;obtain⟨rfl,f⟩:=x;have B:=jh (HM.step u);have g:=jh f;clear u f;have⟨k,p,a,M,_⟩:=B.out;have q:=(kM a (.i m)).1;have c:=bH (o:=1) p (by omega:w.heap.size≠z.heap.size) (.i m);have⟨d0,d1,d2,d3,d4⟩:=bE q;have⟨q0,q1,q2,q3,q4⟩:=bE c;have⟨g0,g1,g2,g3,g4⟩:=kC c;have⟨i0,i1,i2,i3,i4⟩:=kC a;have⟨j0,j1,j2,j3,j4⟩:=bE a;have D:=jh c;have C:=jh k;clear q c p a k;go_wp2_with fail;change bodyPost _ _ _ _ _ (fC (y.setCell ⟨z.heap.size,1,none⟩ (.i m)) w.heap.size (.i 0) (.i m) (.i 0) (.string ⟨#[]⟩) (.n0));have E:=dH D (.i 0) (.i m) (.i 0) (.string ⟨#[]⟩) (.n0);have t:=dW (y.setCell ⟨z.heap.size,1,none⟩ (.i m)) w.heap.size (.i 0) (.i m) (.i 0) (.string ⟨#[]⟩) (.n0);generalize fC (y.setCell ⟨z.heap.size,1,none⟩ (.i m)) w.heap.size (.i 0) (.i m) (.i 0) (.string ⟨#[]⟩) (.n0)=wf at *;have⟨z0,z1,z2,z3,z4⟩:=bE E;refine yb (v:=af 0 m 0 ⟨#[]⟩ none 0 0) (by simp[results,results218,go_sem,z0,z1,z2,z3,z4,af]) rfl ?_;exact Ay T (aG (aG C (dY (bM _ _) _ _ _) od) t (qS _)) (DR (zE _) ⟨od,od⟩ ⟨od,od⟩ ⟨od,od⟩) (by push_cast;rfl) ((g.far (dY (bM _ _) _ _ _) od).far t od)
def Uu{dep:Int}{d:Nat}(hd:d+1<=24)(N:0<=dep/\dep<=24)(w:bx)(rb n:Nat)(b:UInt8)(l:bw)(hb:b.toNat=1)(h:Rd w rb (bs (b::l)) n 0)(O:(b::l).length<=maxLen)(hn:n<=300) :
 Calls prog 218 #[.po rb,.i dep] w (jN w rb (d+1) n (b::l)):=by
 by_cases j:n=300
 .exact kW dep (d+1) n (b::l) (by rw[pNode.eq_def];simp[j]) (.inl od) w rb h O hn
 have U:((n:Int)==300)=false:=oB
 have⟨W,X⟩:=N;have⟨c0,c1,c2,f0,f1,f2⟩:=h.cells;have Y:=h.lt;have hA:Rd ((w.setCell ⟨rb,1,none⟩ (.i ((n:Int)+1))).alloc (.cells #[.i 0,.i 0,.i 0,.string ⟨#[]⟩,.n0] 26)) rb (bs (b::l)) ((n:Int)+1) 0:=(h.set1 _).alloc _;have K:((w.setCell ⟨rb,1,none⟩ (.i ((n:Int)+1))).alloc (.cells #[.i 0,.i 0,.i 0,.string ⟨#[]⟩,.n0] 26)).heap[w.heap.size]?=some (.cells #[.i 0,.i 0,.i 0,.string ⟨#[]⟩,.n0] 26 (0,0)):=by have I:=jj (w.setCell ⟨rb,1,none⟩ (.i ((n:Int)+1))) (.cells #[.i 0,.i 0,.i 0,.string ⟨#[]⟩,.n0] 26);rw[show (w.setCell ⟨rb,1,none⟩ (.i ((n:Int)+1))).heap.size=w.heap.size from by simp[World.setCell]]at I;exact I
 have J:cm w ((w.setCell ⟨rb,1,none⟩ (.i ((n:Int)+1))).alloc (.cells #[.i 0,.i 0,.i 0,.string ⟨#[]⟩,.n0] 26)) (some rb):=fF (dY (bM _ _) _ _ _) (kL (aK _));have Q:=jh K;have P:=jh J;clear h K J;have V:=jB hA O;rw[hb,show ((1:Nat):Int)=1 from rfl]at V;have HO:=jh V;have G:Hid (l.length<=maxLen):=by show _<=_;simp at O;omega
 clear hA V O;go_enter func218,ntmps218;go_wp2_with fail;refine HO.mono ?_;rintro e x ⟨rfl,I,E⟩;have z:=ic Q E od;have hM:Mid w (x.alloc (.cells #[.i 1,.i 0,.i 0,.string ⟨#[]⟩,.n0] 26)) rb x.heap.size 1 0 :=
  ⟨fF (fF P E) (kL (aK _)),by rw[qd2 (h:=(qq.1 z).1)];exact z,jj _ _,(qq.1 z).1,Y⟩
 have M:=I.alloc (.cells #[.i 1,.i 0,.i 0,.string ⟨#[]⟩,.n0] 26);have HM:=jh hM;have H:=jh M;clear I E hM z M
 cases F:yf l with
 | none =>
  have S:Hid (pNode (d+1) n (b::l) =.error 1):=by show _=_;rw[pNode.eq_def];simp[j,hb,F]
  have R:=jh (Vu H G F);clear F;go_wp2_with fail;refine R.mono ?_;rintro e y ⟨rfl,u,s,hs,f⟩;have A:=jh (HM.step u);have g:=jh f;clear u f;have⟨k,m,a,L,_⟩:=A.out;have p:=(kM a (.string ⟨#[]⟩)).2.2.1;have c:=bH (o:=3) m (by omega:w.heap.size≠x.heap.size) (.string ⟨#[]⟩);have⟨d0,d1,d2,d3,d4⟩:=bE p;have⟨q0,q1,q2,q3,q4⟩:=bE c;have⟨g0,g1,g2,g3,g4⟩:=kC c;have⟨i0,i1,i2,i3,i4⟩:=kC a;have⟨j0,j1,j2,j3,j4⟩:=bE a;have C:=jh c;have B:=jh k;clear p c m a k;go_wp2_with fail;change bodyPost _ _ _ _ _ (fC (y.setCell ⟨x.heap.size,3,none⟩ (.string ⟨#[]⟩)) w.heap.size (.i 1) (.i 0) (.i 0) (.string ⟨#[]⟩) (.n0));have D:=dH C (.i 1) (.i 0) (.i 0) (.string ⟨#[]⟩) (.n0);have q:=dW (y.setCell ⟨x.heap.size,3,none⟩ (.string ⟨#[]⟩)) w.heap.size (.i 1) (.i 0) (.i 0) (.string ⟨#[]⟩) (.n0);generalize fC (y.setCell ⟨x.heap.size,3,none⟩ (.string ⟨#[]⟩)) w.heap.size (.i 1) (.i 0) (.i 0) (.string ⟨#[]⟩) (.n0)=wf at *;have⟨Z,z1,z2,z3,z4⟩:=bE D;refine yb (v:=af 1 0 0 ⟨#[]⟩ none 0 0) (by simp[results,results218,go_sem,Z,z1,z2,z3,z4,af]) rfl ?_;exact jX S ov (aG (aG B (dY (bM _ _) _ _ _) od) q (qS _)) ⟨_,_,_,_,_,_,_,rfl⟩ hs ((g.far (dY (bM _ _) _ _ _) od).far q od)
 | some r =>
  have⟨s,l'⟩:=r;have hm:=(zS F).1;have S:Hid (pNode (d+1) n (b::l) =.ok (.nd 1 0 0 (bs s) [],n+1,l')):=by show _=_;rw[pNode.eq_def];simp[j,hb,F]
  have R:=jh (Vv H G F);have T:Hid ((bs s).size<=maxLen):=by show _<=_;rw[eQ];unfold maxLen;omega
  clear F;generalize bs s=t at *;go_wp2_with fail;refine R.mono ?_;rintro e y ⟨rfl,u,f⟩;have A:=jh (HM.step u);have g:=jh f;clear u f;have⟨k,m,a,L,_⟩:=A.out;have p:=(kM a (.string t)).2.2.1;have c:=bH (o:=3) m (by omega:w.heap.size≠x.heap.size) (.string t);have⟨d0,d1,d2,d3,d4⟩:=bE p;have⟨q0,q1,q2,q3,q4⟩:=bE c;have⟨g0,g1,g2,g3,g4⟩:=kC c;have⟨i0,i1,i2,i3,i4⟩:=kC a;have⟨j0,j1,j2,j3,j4⟩:=bE a;have C:=jh c;have B:=jh k;clear p c m a k;go_wp2_with fail;change bodyPost _ _ _ _ _ (fC (y.setCell ⟨x.heap.size,3,none⟩ (.string t)) w.heap.size (.i 1) (.i 0) (.i 0) (.string t) (.n0));have D:=dH C (.i 1) (.i 0) (.i 0) (.string t) (.n0);have q:=dW (y.setCell ⟨x.heap.size,3,none⟩ (.string t)) w.heap.size (.i 1) (.i 0) (.i 0) (.string t) (.n0);generalize fC (y.setCell ⟨x.heap.size,3,none⟩ (.string t)) w.heap.size (.i 1) (.i 0) (.i 0) (.string t) (.n0)=wf at *;have⟨Z,z1,z2,z3,z4⟩:=bE D;refine yb (v:=af 1 0 0 t none 0 0) (by simp[results,results218,go_sem,Z,z1,z2,z3,z4,af]) rfl ?_;exact Ay S (aG (aG B (dY (bM _ _) _ _ _) od) q (qS _)) (DR T ⟨od,od⟩ ⟨od,od⟩ ⟨od,od⟩) (by push_cast;rfl) ((g.far (dY (bM _ _) _ _ _) od).far q od)
def Uw{dep:Int}{d:Nat}(hd:d+1<=24)(X:0<=dep/\dep<=24)(hN:EF (dep+1) d)(w:bx)(rb n:Nat)(b:UInt8)(l:bw)(hb:b.toNat=3)(h:Rd w rb (bs (b::l)) n 0)(Y:(b::l).length<=maxLen)(hn:n<=300) :
 Calls prog 218 #[.po rb,.i dep] w (jN w rb (d+1) n (b::l)):=by
 by_cases t:n=300
 .exact kW dep (d+1) n (b::l) (by rw[pNode.eq_def];simp[t]) (.inl od) w rb h Y hn
 have aj:((n:Int)==300)=false:=oB
 have⟨aq,ar⟩:=X;have⟨c0,c1,c2,f0,f1,f2⟩:=h.cells;have au:=h.lt;have hA:Rd ((w.setCell ⟨rb,1,none⟩ (.i ((n:Int)+1))).alloc (.cells #[.i 0,.i 0,.i 0,.string ⟨#[]⟩,.n0] 26)) rb (bs (b::l)) ((n:Int)+1) 0:=(h.set1 _).alloc _;have T:((w.setCell ⟨rb,1,none⟩ (.i ((n:Int)+1))).alloc (.cells #[.i 0,.i 0,.i 0,.string ⟨#[]⟩,.n0] 26)).heap[w.heap.size]?=some (.cells #[.i 0,.i 0,.i 0,.string ⟨#[]⟩,.n0] 26 (0,0)):=by have R:=jj (w.setCell ⟨rb,1,none⟩ (.i ((n:Int)+1))) (.cells #[.i 0,.i 0,.i 0,.string ⟨#[]⟩,.n0] 26);rw[show (w.setCell ⟨rb,1,none⟩ (.i ((n:Int)+1))).heap.size=w.heap.size from by simp[World.setCell]]at R;exact R
 have S:cm w ((w.setCell ⟨rb,1,none⟩ (.i ((n:Int)+1))).alloc (.cells #[.i 0,.i 0,.i 0,.string ⟨#[]⟩,.n0] 26)) (some rb):=fF (dY (bM _ _) _ _ _) (kL (aK _));have ad:=jh T;have ab:=jh S;clear h T S;have hO:=jB hA Y;rw[hb,show ((3:Nat):Int)=3 from rfl]at hO;have HO:=jh hO;have ae:Hid (l.length<=maxLen):=by show _<=_;simp at Y;omega
 clear hA hO Y;go_enter func218,ntmps218;go_wp2_with fail;refine HO.mono ?_;rintro e E ⟨rfl,R,L⟩;have F:=ic ad L od;have hM:Mid w (E.alloc (.cells #[.i 3,.i 0,.i 0,.string ⟨#[]⟩,.n0] 26)) rb E.heap.size 3 0 :=
  ⟨fF (fF ab L) (kL (aK _)),by rw[qd2 (h:=(qq.1 F).1)];exact F,jj _ _,(qq.1 F).1,au⟩
 have W:=R.alloc (.cells #[.i 3,.i 0,.i 0,.string ⟨#[]⟩,.n0] 26);have HM:=jh hM;have ai:=jh W;clear R L hM F W;have Q:=ai;have P:=HM;have ah:=ae;have HI:=jh (Lj od ⟨od,od⟩ hN _ rb (n+1) l Q ah od)
 cases M:pQ (λn l=>pNode d n l) (n+1) l with
 | error x =>
  have HP:Hid (pNode (d+1) n (b::l) =.error x):=by show _=_;rw[pNode.eq_def];simp[t,hb,M]
  have HQ:=jh M;clear M hN;go_wp2_with fail;refine HI.mono ?_;rintro e y ⟨B,C⟩;rw[HQ.out]at C;obtain⟨hx,⟨a,D,c,rfl⟩,s,m,hs,j⟩:=C;have H:=jh (P.step B);have q:=jh j;clear B j;have⟨u,z,f,U,_⟩:=H.out;have A:=(kM f (.slice a D c)).2.2.2;have g:=bH (o:=4) z (by omega:w.heap.size≠E.heap.size) (.slice a D c);have⟨d0,d1,d2,d3,d4⟩:=bE A;have⟨q0,q1,q2,q3,q4⟩:=bE g;have⟨g0,g1,g2,g3,g4⟩:=kC g;have⟨i0,i1,i2,i3,i4⟩:=kC f;have⟨j0,j1,j2,j3,j4⟩:=bE f;have J:=jh g;have I:=jh u;clear A g z f u;go_wp2_with fail;change bodyPost _ _ _ _ _ (fC (y.setCell ⟨E.heap.size,4,none⟩ (.slice a D c)) w.heap.size (.i 3) (.i 0) (.i 0) (.string ⟨#[]⟩) (.slice a D c));have K:=dH J (.i 3) (.i 0) (.i 0) (.string ⟨#[]⟩) (.slice a D c);have k:=dW (y.setCell ⟨E.heap.size,4,none⟩ (.slice a D c)) w.heap.size (.i 3) (.i 0) (.i 0) (.string ⟨#[]⟩) (.slice a D c);generalize fC (y.setCell ⟨E.heap.size,4,none⟩ (.slice a D c)) w.heap.size (.i 3) (.i 0) (.i 0) (.string ⟨#[]⟩) (.slice a D c)=wf at *;have⟨z0,z1,z2,z3,z4⟩:=bE K;refine yb (v:=af 3 0 0 ⟨#[]⟩ a D c) (by simp[results,results218,go_sem,z0,z1,z2,z3,z4,af]) rfl ?_;exact jX HP hx (aG (aG I (dY (bM _ _) _ _ _) od) k (qS _)) ⟨_,_,_,_,_,_,_,rfl⟩ hs ((q.far (dY (bM _ _) _ _ _) od).far k od)
 | ok r =>
  have⟨p,n',l'⟩:=r;have N:=pR (pU d od) od M;have ay:=cB p;have ax:n'<=300/\n'=n+1+sizes p:=⟨N.2.2.1,N.2.1⟩;have HP:Hid (pNode (d+1) n (b::l) =.ok (.nd 3 0 0 (bs []) p,n',l')):=by show _=_;rw[pNode.eq_def];simp[t,hb,M]
  have HQ:=jh M;clear M hN N;go_wp2_with fail;refine HI.mono ?_;rintro e y ⟨B,C⟩;rw[HQ.out]at C;obtain⟨a,c,V,rfl,hA1,hA2,j,G⟩:=C;have O:=jh G;clear G;have⟨Z,aa,H,q⟩:=JT hA1 hA2 (P.step B) j;clear B j hA1 hA2;have⟨u,z,f,U,_⟩:=H.out;have A:=(kM f (.slice a p.length c)).2.2.2;have g:=bH (o:=4) z (by omega:w.heap.size≠E.heap.size) (.slice a p.length c);have⟨d0,d1,d2,d3,d4⟩:=bE A;have⟨q0,q1,q2,q3,q4⟩:=bE g;have⟨g0,g1,g2,g3,g4⟩:=kC g;have⟨i0,i1,i2,i3,i4⟩:=kC f;have⟨j0,j1,j2,j3,j4⟩:=bE f;have J:=jh g;have I:=jh u;clear A g z f u;go_wp2_with fail;change bodyPost _ _ _ _ _ (fC (y.setCell ⟨E.heap.size,4,none⟩ (.slice a p.length c)) w.heap.size (.i 3) (.i 0) (.i 0) (.string ⟨#[]⟩) (.slice a p.length c));have K:=dH J (.i 3) (.i 0) (.i 0) (.string ⟨#[]⟩) (.slice a p.length c);have k:=dW (y.setCell ⟨E.heap.size,4,none⟩ (.slice a p.length c)) w.heap.size (.i 3) (.i 0) (.i 0) (.string ⟨#[]⟩) (.slice a p.length c);generalize fC (y.setCell ⟨E.heap.size,4,none⟩ (.slice a p.length c)) w.heap.size (.i 3) (.i 0) (.i 0) (.string ⟨#[]⟩) (.slice a p.length c)=wf at *;have⟨z0,z1,z2,z3,z4⟩:=bE K;refine yb (v:=af 3 0 0 ⟨#[]⟩ a p.length c) (by simp[results,results218,go_sem,z0,z1,z2,z3,z4,af]) rfl ?_;exact Ay HP (aG (aG I (dY (bM _ _) _ _ _) od) k (qS _)) (DN Z aa (Il (dY (bM _ _) _ _ _) k vj vj) vj On ⟨od,od⟩ ⟨od,od⟩ O) rfl ((q.far (dY (bM _ _) _ _ _) od).far k od)
def Uv{dep:Int}{d:Nat}(hd:d+1<=24)(au:0<=dep/\dep<=24)(hN:EF (dep+1) d)(q:UInt8)(l1:bw)(I:Lf.gD q.toNat)(w:bx)(rb n:Nat)(b:UInt8)(l:bw)(bl:l=q::l1)(hb:b.toNat=2)(h:Rd w rb (bs (b::l)) n 0)(hl:(b::l).length<=maxLen)(hn:n<=300) :
 Calls prog 218 #[.po rb,.i dep] w (jN w rb (d+1) n (b::l)):=by
 by_cases A:n=300
 .exact kW dep (d+1) n (b::l) (by rw[pNode.eq_def];simp[A]) (.inl od) w rb h hl hn
 have bc:((n:Int)==300)=false:=oB
 have⟨bf,bh⟩:=au;have⟨c0,c1,c2,f0,f1,f2⟩:=h.cells;have bm:=h.lt;have hA:Rd ((w.setCell ⟨rb,1,none⟩ (.i ((n:Int)+1))).alloc (.cells #[.i 0,.i 0,.i 0,.string ⟨#[]⟩,.n0] 26)) rb (bs (b::l)) ((n:Int)+1) 0:=(h.set1 _).alloc _;have ai:((w.setCell ⟨rb,1,none⟩ (.i ((n:Int)+1))).alloc (.cells #[.i 0,.i 0,.i 0,.string ⟨#[]⟩,.n0] 26)).heap[w.heap.size]?=some (.cells #[.i 0,.i 0,.i 0,.string ⟨#[]⟩,.n0] 26 (0,0)):=by have h2:=jj (w.setCell ⟨rb,1,none⟩ (.i ((n:Int)+1))) (.cells #[.i 0,.i 0,.i 0,.string ⟨#[]⟩,.n0] 26);rw[show (w.setCell ⟨rb,1,none⟩ (.i ((n:Int)+1))).heap.size=w.heap.size from by simp[World.setCell]]at h2;exact h2
 have ah:cm w ((w.setCell ⟨rb,1,none⟩ (.i ((n:Int)+1))).alloc (.cells #[.i 0,.i 0,.i 0,.string ⟨#[]⟩,.n0] 26)) (some rb):=fF (dY (bM _ _) _ _ _) (kL (aK _));have aC:=jh ai;have az:=jh ah;clear h ai ah;have hO:=jB hA hl;rw[hb,show ((2:Nat):Int)=2 from rfl]at hO;have HO:=jh hO;have ab:Hid (l.length<=maxLen):=by show _<=_;simp at hl;omega
 clear hA hO hl;go_enter func218,ntmps218;go_wp2_with fail;refine HO.mono ?_;rintro e p ⟨rfl,h2,X⟩;have H:=ic aC X od;have hM:Mid w (p.alloc (.cells #[.i 2,.i 0,.i 0,.string ⟨#[]⟩,.n0] 26)) rb p.heap.size 2 0 :=
  ⟨fF (fF az X) (kL (aK _)),by rw[qd2 (h:=(qq.1 H).1)];exact H,jj _ _,(qq.1 H).1,bm⟩
 have ar:=h2.alloc (.cells #[.i 2,.i 0,.i 0,.string ⟨#[]⟩,.n0] 26);have HM:=jh hM;have bb:=jh ar;clear h2 X hM H ar;subst bl;have bq:=BS I;have aO:Hid (l1.length<=maxLen):=by show _<=_;have:=ab.out;simp at this;omega
 have ba:=jh (Rk bb ab I);go_wp2_with fail;refine ba.mono ?_;rintro e y1 ⟨rfl,N,L⟩;have⟨J,K,j,T,U⟩:=HM.out.step N;have cb:=(qq.1 j).1;have aj:Mid w (y1.setCell ⟨p.heap.size,2,none⟩ (.i q.toNat)) rb p.heap.size 2 q.toNat :=
  ⟨aG J (dY (bM _ _) _ _ _) od,bH K od _,(kM j (.i q.toNat)).2.1,T,U⟩
 have ad:=jh aj;have ae:=jh (L.far (dY (bM y1 (some p.heap.size)) 2 none (.i q.toNat)) od);have⟨x0,x1,x2,x3,x4⟩:=kC j;have⟨y0,y2,y3,y4,y5⟩:=bE j;have O:(y1.setCell ⟨p.heap.size,2,none⟩ (.i q.toNat)).heap.size=y1.heap.size:=by simp[World.setCell]
 have S:=jh O;clear N L J K j aj O;have HI:=jh (Lj od ⟨od,od⟩ hN _ rb (n+1) l1 ae aO od)
 cases Y:pQ (λn l=>pNode d n l) (n+1) l1 with
 | error x =>
  have HP:Hid (pNode (d+1) n (b::q::l1) =.error x):=by show _=_;rw[pNode.eq_def];simp[A,hb,I,Y]
  have HQ:=jh Y;clear Y hN;go_wp2_with fail;refine HI.mono ?_;rintro e y ⟨E,F⟩;rw[HQ.out]at F;obtain⟨hx,⟨a,G,c,rfl⟩,s,m,hs,k⟩:=F;have P:=jh (ad.step E);have z:=jh k;clear E k;have⟨B,C,f,aq,_⟩:=P.out;have D:=(kM f (.slice a G c)).2.2.2;have g:=bH (o:=4) C (by omega:w.heap.size≠p.heap.size) (.slice a G c);have⟨d0,d1,d2,d3,d4⟩:=bE D;have⟨q0,q1,q2,q3,q4⟩:=bE g;have⟨g0,g1,g2,g3,g4⟩:=kC g;have⟨i0,i1,i2,i3,i4⟩:=kC f;have⟨j0,j1,j2,j3,j4⟩:=bE f;have R:=jh g;have Q:=jh B;clear D g C f B;go_wp2_with fail;change bodyPost _ _ _ _ _ (fC (y.setCell ⟨p.heap.size,4,none⟩ (.slice a G c)) w.heap.size (.i 2) (.i 0) (.i q.toNat) (.string ⟨#[]⟩) (.slice a G c));have W:=dH R (.i 2) (.i 0) (.i q.toNat) (.string ⟨#[]⟩) (.slice a G c);have t:=dW (y.setCell ⟨p.heap.size,4,none⟩ (.slice a G c)) w.heap.size (.i 2) (.i 0) (.i q.toNat) (.string ⟨#[]⟩) (.slice a G c);generalize fC (y.setCell ⟨p.heap.size,4,none⟩ (.slice a G c)) w.heap.size (.i 2) (.i 0) (.i q.toNat) (.string ⟨#[]⟩) (.slice a G c)=wf at *;have⟨z0,z1,z2,z3,z4⟩:=bE W;refine yb (v:=af 2 0 q.toNat ⟨#[]⟩ a G c) (by simp[results,results218,go_sem,z0,z1,z2,z3,z4,af]) rfl ?_;exact jX HP hx (aG (aG Q (dY (bM _ _) _ _ _) od) t (qS _)) ⟨_,_,_,_,_,_,_,rfl⟩ hs ((z.far (dY (bM _ _) _ _ _) od).far t od)
 | ok r =>
  have⟨u,n',l'⟩:=r;have Z:=pR (pU d od) od Y;have ca:=cB u;have bp:n'<=300/\n'=n+1+sizes u:=⟨Z.2.2.1,Z.2.1⟩;have HP:Hid (pNode (d+1) n (b::q::l1) =.ok (.nd 2 0 q.toNat (bs []) u,n',l')):=by show _=_;rw[pNode.eq_def];simp[A,hb,I,Y]
  have HQ:=jh Y;clear Y hN Z;go_wp2_with fail;refine HI.mono ?_;rintro e y ⟨E,F⟩;rw[HQ.out]at F;obtain⟨a,c,V,rfl,hA1,hA2,k,M⟩:=F;have aa:=jh M;clear M;have⟨ax,ay,P,z⟩:=JT hA1 hA2 (ad.step E) k;clear E k hA1 hA2;have⟨B,C,f,aq,_⟩:=P.out;have D:=(kM f (.slice a u.length c)).2.2.2;have g:=bH (o:=4) C (by omega:w.heap.size≠p.heap.size) (.slice a u.length c);have⟨d0,d1,d2,d3,d4⟩:=bE D;have⟨q0,q1,q2,q3,q4⟩:=bE g;have⟨g0,g1,g2,g3,g4⟩:=kC g;have⟨i0,i1,i2,i3,i4⟩:=kC f;have⟨j0,j1,j2,j3,j4⟩:=bE f;have R:=jh g;have Q:=jh B;clear D g C f B;go_wp2_with fail;change bodyPost _ _ _ _ _ (fC (y.setCell ⟨p.heap.size,4,none⟩ (.slice a u.length c)) w.heap.size (.i 2) (.i 0) (.i q.toNat) (.string ⟨#[]⟩) (.slice a u.length c));have W:=dH R (.i 2) (.i 0) (.i q.toNat) (.string ⟨#[]⟩) (.slice a u.length c);have t:=dW (y.setCell ⟨p.heap.size,4,none⟩ (.slice a u.length c)) w.heap.size (.i 2) (.i 0) (.i q.toNat) (.string ⟨#[]⟩) (.slice a u.length c);generalize fC (y.setCell ⟨p.heap.size,4,none⟩ (.slice a u.length c)) w.heap.size (.i 2) (.i 0) (.i q.toNat) (.string ⟨#[]⟩) (.slice a u.length c)=wf at *;have⟨z0,z1,z2,z3,z4⟩:=bE W;refine yb (v:=af 2 0 q.toNat ⟨#[]⟩ a u.length c) (by simp[results,results218,go_sem,z0,z1,z2,z3,z4,af]) rfl ?_;exact Ay HP (aG (aG Q (dY (bM _ _) _ _ _) od) t (qS _)) (DN ax ay (Il (dY (bM _ _) _ _ _) t (by rw[S.out];omega) (by rw[S.out];omega)) (by rw[S.out];omega) On ⟨od,od⟩ ⟨od,od⟩ aa) rfl ((z.far (dY (bM _ _) _ _ _) od).far t od)
def NS{dep:Int}{d:Nat}(hd:d+1<=24)(L:0<=dep/\dep<=24)(w:bx)(rb n:Nat)(b:UInt8)(l:bw)(O:∀q l1,l=q::l1->Lf.gD q.toNat=false)(hb:b.toNat=2)(h:Rd w rb (bs (b::l)) n 0)(P:(b::l).length<=maxLen)(hn:n<=300) :
 Calls prog 218 #[.po rb,.i dep] w (jN w rb (d+1) n (b::l)):=by
 by_cases c:n=300
 .exact kW dep (d+1) n (b::l) (by rw[pNode.eq_def];simp[c]) (.inl od) w rb h P hn
 have Z:((n:Int)==300)=false:=oB
 have⟨ab,ad⟩:=L;have⟨c0,c1,c2,f0,f1,f2⟩:=h.cells;have ae:=h.lt;have hA:Rd ((w.setCell ⟨rb,1,none⟩ (.i ((n:Int)+1))).alloc (.cells #[.i 0,.i 0,.i 0,.string ⟨#[]⟩,.n0] 26)) rb (bs (b::l)) ((n:Int)+1) 0:=(h.set1 _).alloc _;have F:((w.setCell ⟨rb,1,none⟩ (.i ((n:Int)+1))).alloc (.cells #[.i 0,.i 0,.i 0,.string ⟨#[]⟩,.n0] 26)).heap[w.heap.size]?=some (.cells #[.i 0,.i 0,.i 0,.string ⟨#[]⟩,.n0] 26 (0,0)):=by have D:=jj (w.setCell ⟨rb,1,none⟩ (.i ((n:Int)+1))) (.cells #[.i 0,.i 0,.i 0,.string ⟨#[]⟩,.n0] 26);rw[show (w.setCell ⟨rb,1,none⟩ (.i ((n:Int)+1))).heap.size=w.heap.size from by simp[World.setCell]]at D;exact D
 have E:cm w ((w.setCell ⟨rb,1,none⟩ (.i ((n:Int)+1))).alloc (.cells #[.i 0,.i 0,.i 0,.string ⟨#[]⟩,.n0] 26)) (some rb):=fF (dY (bM _ _) _ _ _) (kL (aK _));have R:=jh F;have Q:=jh E;clear h F E;have hO:=jB hA P;rw[hb,show ((2:Nat):Int)=2 from rfl]at hO;have HO:=jh hO;have S:Hid (l.length<=maxLen):=by show _<=_;simp at P;omega
 clear hA hO P;go_enter func218,ntmps218;go_wp2_with fail;refine HO.mono ?_;rintro e k ⟨rfl,D,A⟩;have j:=ic R A od;have hM:Mid w (k.alloc (.cells #[.i 2,.i 0,.i 0,.string ⟨#[]⟩,.n0] 26)) rb k.heap.size 2 0 :=
  ⟨fF (fF Q A) (kL (aK _)),by rw[qd2 (h:=(qq.1 j).1)];exact j,jj _ _,(qq.1 j).1,ae⟩
 have K:=D.alloc (.cells #[.i 2,.i 0,.i 0,.string ⟨#[]⟩,.n0] 26);have HM:=jh hM;have X:=jh K;clear D A hM j K;have HP:Hid (pNode (d+1) n (b::l) =.error 1):=by
  show _=_;rw[pNode.eq_def]
  cases l with
  | nil=>simp[c,hb]
  | cons q l1=>simp[c,hb,O q l1 rfl]
 have W:=jh (UI X S O);go_wp2_with fail;refine W.mono ?_;rintro e y1 ⟨⟨q,rfl⟩,u,s,hs,t⟩;have⟨m,p,a,x,z⟩:=HM.out.step u;have ai:=(qq.1 a).1;have G:Mid w (y1.setCell ⟨k.heap.size,2,none⟩ (.i q)) rb k.heap.size 2 q :=
  ⟨aG m (dY (bM _ _) _ _ _) od,bH p od _,(kM a (.i q)).2.1,x,z⟩
 have U:=jh G;have C:=jh (t.far (dY (bM y1 (some k.heap.size)) 2 none (.i q)) od);have⟨x0,x1,x2,x3,x4⟩:=kC a;have⟨y0,y2,y3,y4,y5⟩:=bE a;clear u t m p a G;go_wp2_with fail;refine (KC C hs ov dep).mono ?_;rintro e y ⟨rfl,N,r⟩;have T:=jh (U.step N);have B:=jh r;clear N r;have⟨H,I,f,ah,_⟩:=T.out;have J:=(kM f (.n0)).2.2.2;have g:=bH (o:=4) I (by omega:w.heap.size≠k.heap.size) (.n0);have⟨d0,d1,d2,d3,d4⟩:=bE J;have⟨q0,q1,q2,q3,q4⟩:=bE g;have⟨g0,g1,g2,g3,g4⟩:=kC g;have⟨i0,i1,i2,i3,i4⟩:=kC f;have⟨j0,j1,j2,j3,j4⟩:=bE f;have Y:=jh g;have V:=jh H;clear J g I f H;go_wp2_with fail;change bodyPost _ _ _ _ _ (fC (y.setCell ⟨k.heap.size,4,none⟩ (.n0)) w.heap.size (.i 2) (.i 0) (.i q) (.string ⟨#[]⟩) (.n0));have aa:=dH Y (.i 2) (.i 0) (.i q) (.string ⟨#[]⟩) (.n0);have M:=dW (y.setCell ⟨k.heap.size,4,none⟩ (.n0)) w.heap.size (.i 2) (.i 0) (.i q) (.string ⟨#[]⟩) (.n0);generalize fC (y.setCell ⟨k.heap.size,4,none⟩ (.n0)) w.heap.size (.i 2) (.i 0) (.i q) (.string ⟨#[]⟩) (.n0)=wf at *;have⟨z0,z1,z2,z3,z4⟩:=bE aa;refine yb (v:=af 2 0 q ⟨#[]⟩ none 0 0) (by simp[results,results218,go_sem,z0,z1,z2,z3,z4,af]) rfl ?_;exact jX HP ov (aG (aG V (dY (bM _ _) _ _ _) od) M (qS _)) ⟨_,_,_,_,_,_,_,rfl⟩ hs ((B.far (dY (bM _ _) _ _ _) od).far M od)
def Uy{a:Int}{d:Nat}(hd:d+1<=24)(u:0<=a/\a<=24)(w:bx)(rb n:Nat)(b:UInt8)(l:bw)(hb:3<b.toNat)(h:Rd w rb (bs (b::l)) n 0)(A:(b::l).length<=maxLen)(hn:n<=300) :
 Calls prog 218 #[.po rb,.i a] w (jN w rb (d+1) n (b::l)):=by
 by_cases g:n=300
 .exact kW a (d+1) n (b::l) (by rw[pNode.eq_def];simp[g]) (.inl od) w rb h A hn
 have H:((n:Int)==300)=false:=oB
 have⟨J,K⟩:=u;have⟨Y,Z,c2,f0,f1,f2⟩:=h.cells;have L:=h.lt;have M:Rd ((w.setCell ⟨rb,1,none⟩ (.i ((n:Int)+1))).alloc (.cells #[.i 0,.i 0,.i 0,.string ⟨#[]⟩,.n0] 26)) rb (bs (b::l)) ((n:Int)+1) 0:=(h.set1 _).alloc _;have q:((w.setCell ⟨rb,1,none⟩ (.i ((n:Int)+1))).alloc (.cells #[.i 0,.i 0,.i 0,.string ⟨#[]⟩,.n0] 26)).heap[w.heap.size]?=some (.cells #[.i 0,.i 0,.i 0,.string ⟨#[]⟩,.n0] 26 (0,0)):=by have o:=jj (w.setCell ⟨rb,1,none⟩ (.i ((n:Int)+1))) (.cells #[.i 0,.i 0,.i 0,.string ⟨#[]⟩,.n0] 26);rw[show (w.setCell ⟨rb,1,none⟩ (.i ((n:Int)+1))).heap.size=w.heap.size from by simp[World.setCell]]at o;exact o
 have p:cm w ((w.setCell ⟨rb,1,none⟩ (.i ((n:Int)+1))).alloc (.cells #[.i 0,.i 0,.i 0,.string ⟨#[]⟩,.n0] 26)) (some rb):=fF (dY (bM _ _) _ _ _) (kL (aK _));have C:=jh q;have B:=jh p;clear h q p;have P:=jB M A;have S:=hb;have HO:=jh P;have D:Hid (l.length<=maxLen):=by show _<=_;simp at A;omega
 clear M P A;go_enter func218,ntmps218;go_wp2_with fail;refine HO.mono ?_;rintro e Q ⟨rfl,o,k⟩;have f:=ic C k od;have N:Mid w (Q.alloc (.cells #[.i b.toNat,.i 0,.i 0,.string ⟨#[]⟩,.n0] 26)) rb Q.heap.size b.toNat 0 :=
  ⟨fF (fF B k) (kL (aK _)),by rw[qd2 (h:=(qq.1 f).1)];exact f,jj _ _,(qq.1 f).1,L⟩
 have t:=o.alloc (.cells #[.i b.toNat,.i 0,.i 0,.string ⟨#[]⟩,.n0] 26);have HM:=jh N;have F:=jh t;clear o k N f t;have R:Hid (pNode (d+1) n (b::l) =.error 1):=by show _=_;rw[pNode.eq_def];simp only;rw[if_neg g,oa,oa,oa,oa]
 have k0:((b.toNat:Int)==0)=false:=oB
 have k1:((b.toNat:Int)==1)=false:=oB
 have k2:((b.toNat:Int)==2)=false:=oB
 have k3:((b.toNat:Int)==3)=false:=oB
 go_wp2_with fail;refine (lI F 1).mono ?_;rintro e y ⟨rfl,j,z⟩;have m:=jh j;have⟨r,c,s,O,_⟩:=HM.out.step z;have⟨d0,d1,d2,d3,d4⟩:=bE s;have⟨q0,q1,q2,q3,q4⟩:=bE c;have⟨g0,g1,g2,g3,g4⟩:=kC c;have G:=jh c;have E:=jh r;clear c s r z j;go_wp2_with fail;change bodyPost _ _ _ _ _ (fC y w.heap.size (.i b.toNat) (.i 0) (.i 0) (.string ⟨#[]⟩) (.n0));have I:=dH G (.i b.toNat) (.i 0) (.i 0) (.string ⟨#[]⟩) (.n0);have x:=dW y w.heap.size (.i b.toNat) (.i 0) (.i 0) (.string ⟨#[]⟩) (.n0);generalize fC y w.heap.size (.i b.toNat) (.i 0) (.i 0) (.string ⟨#[]⟩) (.n0)=wf at *;have⟨T,U,V,W,X⟩:=bE I;refine yb (v:=af b.toNat 0 0 ⟨#[]⟩ none 0 0) (by simp[results,results218,go_sem,T,U,V,W,X,af]) rfl ?_;exact jX R ov (aG E x (qS _)) ⟨_,_,_,_,_,_,_,rfl⟩ (by rw[eQ];exact D) (m.far x od)
def BH(d:Nat)(i:d<=24):EF ((25 - d:Nat):Int) d:=by
 induction d with
 | zero =>
  intro w g n l h c f;exact kW _ 0 n l (by simp[pNode]) (.inr ov) w g h c f
 | succ d x =>
  have m:=x od;rw[show ((25 - d:Nat):Int)=((25 - (d+1):Nat):Int)+1 from by omega]at m;intro w g n l h c f;have a:0<=((25 - (d+1):Nat):Int)/\((25 - (d+1):Nat):Int)<=24:=⟨od,od⟩
  cases l with
  | nil=>exact QU i a w g n h c f
  | cons b l =>
   by_cases s:b.toNat=0
   .exact Ut i a w g n b l s h c f
   by_cases t:b.toNat=1
   .exact Uu i a w g n b l t h c f
   by_cases o:b.toNat=2
   .by_cases j:∃q k,l=q::k/\Lf.gD q.toNat
    .have⟨q,k,p,r⟩:=j;exact Uv i a m q k r w g n b l p o h c f
    .exact NS i a w g n b l (λq k e=>by
      cases v:Lf.gD q.toNat with
      | false=>rfl
      | true=>exact absurd ⟨q,k,e,v⟩ j) o h c f
   by_cases u:b.toNat=3
   .exact Uw i a m w g n b l u h c f
   exact Uy i a w g n b l od h c f
def Kc(w:bx)(l:bw)(o:Obj):Rd ((w.alloc o).alloc (.cells #[.string (bs l),.i 0,.i 0] 228)) (w.heap.size+1) (bs l) 0 0:=by unfold Rd;have a:=jj (w.alloc o) (.cells #[.string (bs l),.i 0,.i 0] 228);rw[show (w.alloc o).heap.size=w.heap.size+1 from by simp]at a;exact a
def xN{w w':bx}{o a:Obj}(h:((w.alloc o).alloc a).grownBy w' (some (w.heap.size+1))):cm w w' none :=
 aG (r:=none) (aJ (aK _) (aK _)) h od
def Nf{l:bw}{t:Tr}(f:mE l =.ok t)(O:l.length<=maxLen)(w:bx) :
 Calls prog 206 #[.string (bs l)] w λr w'=>∃v,r =.returned (.tuple #[v,.i 0])/\bI (w.heap.size <= ·) w' t v/\cm w w' none:=by
 have hN:=BH 24 od _ _ 0 l (Kc w l (.cells #[.i 0,.i 0,.i 0,.string ⟨#[]⟩,.n0] 26)) O od;rw[show ((25 - 24:Nat):Int)=1 from rfl]at hN;unfold mE at f
 cases A:pNode 24 0 l with
 | error e=>rw[A]at f;simp at f
 | ok r =>
  have⟨t',n',P⟩:=r;rw[A]at f;simp only at f
  by_cases n:P=[]
  .rw[if_pos n]at f;injection f with f;subst f;subst n;have L:=jh hN;have M:=jh A;clear hN A;have N:(bs []).toList=[]:=by simp[bs]
   generalize bs l=s at *;go_enter func206,ntmps206;go_wp2_with fail;refine L.mono ?_;rintro e y ⟨j,z⟩;rw[M.out]at z;obtain⟨v,rfl,g,h⟩:=z;obtain⟨k,m,p,st,a,q,c,rfl⟩:=g.af;unfold af;have d:=ic (CJ w _ _) j od;have⟨q0,q1,q2,q3,q4⟩:=bE d;have⟨g0,g1,g2,g3,g4⟩:=kC d;have⟨W,X,Y,Z,f1,f2⟩:=h.cells;have I:=(qq.1 d).1;have J:=h.lt;have⟨C,B,K⟩:=we d g j;clear g j d h;go_wp2_with fail;change bodyPost _ _ _ _ _ ((fC y w.heap.size (.i k) (.i m) (.i p) (.string st) (.slice a q c)).alloc (.cells #[.i k,.i m,.i p,.string st,.slice a q c] 26));have u:=dH C (.i k) (.i m) (.i p) (.string st) (.slice a q c);have G:=dW y w.heap.size (.i k) (.i m) (.i p) (.string st) (.slice a q c);have E:=(qd2 (fC y w.heap.size (.i k) (.i m) (.i p) (.string st) (.slice a q c)) (.cells #[.i k,.i m,.i p,.string st,.slice a q c] 26) (qq.1 u).1).trans u;have x:=fF G (kL (aK (w:=fC y w.heap.size (.i k) (.i m) (.i p) (.string st) (.slice a q c)) (.cells #[.i k,.i m,.i p,.string st,.slice a q c] 26)));generalize (fC y w.heap.size (.i k) (.i m) (.i p) (.string st) (.slice a q c)).alloc (.cells #[.i k,.i m,.i p,.string st,.slice a q c] 26)=Q at *;have⟨R,S,T,U,V⟩:=bE E;refine yb (v:=.tuple #[af k m p st a q c,.i 0]) (by simp[results,results206,go_sem,R,S,T,U,V,af]) rfl ?_;refine⟨_,rfl,?_,aG (xN K) x (qS _)⟩;refine (B.same (w':=Q) ?_).ae (λb _ D=>by have : ((w.alloc _).alloc _).heap.size<=b:=D;simp at this;show _<=b;omega);intro b o D H;have F:((w.alloc _).alloc _).heap.size<=b:=D;simp at F;exact qt (x.block b H oB)
  .rw[if_neg n]at f;simp at f
def Gt{l x:bw}{t':Tr}{V:Nat}(I:pNode 24 0 l =.ok (t',V,x))(G:¬x=[])(U:l.length<=maxLen)(w:bx) :
 Calls prog 206 #[.string (bs l)] w λr w'=>r =.returned (.tuple #[af 0 0 0 ⟨#[]⟩ none 0 0,.i 1])/\(1:Int)≠0/\cm w w' none:=by
 have C:=BH 24 od _ _ 0 l (Kc w l (.cells #[.i 0,.i 0,.i 0,.string ⟨#[]⟩,.n0] 26)) U od;rw[show ((25 - 24:Nat):Int)=1 from rfl]at C;have L:=jh C;have M:=jh I;clear C I;have T:(bs x).toList.isEmpty=false:=by simpa[bs]using G
 generalize bs l=s at *;go_enter func206,ntmps206;go_wp2_with fail;refine L.mono ?_;rintro N y ⟨g,u⟩;rw[M.out]at u;obtain⟨v,rfl,n,f⟩:=u;obtain⟨k,m,p,H,a,q,c,rfl⟩:=n.af;unfold af;have d:=ic (CJ w (.cells #[.i 0,.i 0,.i 0,.string ⟨#[]⟩,.n0] 26) (.cells #[.string s,.i 0,.i 0] 228)) g od;have⟨c0,c1,c2,f0,f1,f2⟩:=f.cells;have t:=(qq.1 d).1;have J:=f.lt;have⟨j,K,B⟩:=we d g f;have⟨W,X,Y,Z,q4⟩:=bE d;have⟨O,P,Q,R,S⟩:=kC d;clear g d f n;generalize bs x=s' at *;go_wp2_with fail;refine (lI (B.alloc (.cells #[.i k,.i m,.i p,.string H,.slice a q c] 26)) 1).mono ?_;rintro N h ⟨rfl,o,e⟩;have b:=ic ((qd2 y (.cells #[.i k,.i m,.i p,.string H,.slice a q c] 26) t).trans j) e od;have⟨W,X,Y,Z,q4⟩:=bE b;have⟨O,P,Q,R,S⟩:=kC b;have⟨x0,x1,x2,x3,x4,x5⟩:=o.cells;have A:=jh b;have z:=jh e;clear e b o;go_wp2_with fail;go_region;go_wp2_with fail;change bodyPost _ _ _ _ _ (fC h w.heap.size (.i 0) (.i 0) (.i 0) (.string ⟨#[]⟩) (.n0)).drew;have D:=dH A (.i 0) (.i 0) (.i 0) (.string ⟨#[]⟩) (.n0);have E:(fC h w.heap.size (.i 0) (.i 0) (.i 0) (.string ⟨#[]⟩) (.n0)).drew.heap[w.heap.size]?=_:=D;have F:cm h (fC h w.heap.size (.i 0) (.i 0) (.i 0) (.string ⟨#[]⟩) (.n0)).drew (some w.heap.size):=fK (dW h w.heap.size (.i 0) (.i 0) (.i 0) (.string ⟨#[]⟩) (.n0));generalize (fC h w.heap.size (.i 0) (.i 0) (.i 0) (.string ⟨#[]⟩) (.n0)).drew=wf at *;have⟨z0,z1,z2,z3,z4⟩:=bE E;refine yb (v:=.tuple #[af 0 0 0 ⟨#[]⟩ none 0 0,.i 1]) (by simp[results,results206,go_sem,z0,z1,z2,z3,z4,af]) rfl ?_;exact⟨rfl,ov,aG (aG (aJ (xN K) (aK (.cells #[.i k,.i m,.i p,.string H,.slice a q c] 26))) z od) F (qS _)⟩
def Nc{l:bw}{x:Int}(b:mE l =.error x)(L:l.length<=maxLen)(w:bx) :
 Calls prog 206 #[.string (bs l)] w λr w'=>r =.returned (.tuple #[af 0 0 0 ⟨#[]⟩ none 0 0,.i x])/\x≠0/\cm w w' none:=by
 have hN:=BH 24 od _ _ 0 l (Kc w l (.cells #[.i 0,.i 0,.i 0,.string ⟨#[]⟩,.n0] 26)) L od;rw[show ((25 - 24:Nat):Int)=1 from rfl]at hN;unfold mE at b
 cases z:pNode 24 0 l with
 | error e =>
  rw[z]at b;injection b with b;subst b;have N:=jh hN;have O:=jh z;clear hN z;generalize bs l=s at *;go_enter func206,ntmps206;go_wp2_with fail;refine N.mono ?_;rintro P y ⟨n,u⟩;rw[O.out]at u;obtain⟨B,⟨k,m,p,st,a,q,c,rfl⟩,D,m',Q,g⟩:=u;unfold af;have d:=ic (CJ w _ _) n od;have⟨q0,q1,q2,q3,q4⟩:=bE d;have⟨Z,g1,g2,g3,g4⟩:=kC d;have⟨T,U,V,W,X,Y⟩:=g.cells;have K:=(qq.1 d).1;have M:=g.lt;have⟨t,J,A⟩:=we d n g;clear n d g;rcases (show D.toList.isEmpty\/D.toList.isEmpty=false from by cases D.toList.isEmpty<;>simp)with C|C
  .go_wp2_with fail;go_region;go_wp2_with fail;change bodyPost _ _ _ _ _ ((fC y w.heap.size (.i 0) (.i 0) (.i 0) (.string ⟨#[]⟩) (.n0)).alloc (.cells #[.i k,.i m,.i p,.string st,.slice a q c] 26)).drew;have f:=dH t (.i 0) (.i 0) (.i 0) (.string ⟨#[]⟩) (.n0);have h:((fC y w.heap.size (.i 0) (.i 0) (.i 0) (.string ⟨#[]⟩) (.n0)).alloc (.cells #[.i k,.i m,.i p,.string st,.slice a q c] 26)).drew.heap[w.heap.size]?=_:=(qd2 (fC y w.heap.size (.i 0) (.i 0) (.i 0) (.string ⟨#[]⟩) (.n0)) (.cells #[.i k,.i m,.i p,.string st,.slice a q c] 26) (qq.1 f).1).trans f;have j:cm y ((fC y w.heap.size (.i 0) (.i 0) (.i 0) (.string ⟨#[]⟩) (.n0)).alloc (.cells #[.i k,.i m,.i p,.string st,.slice a q c] 26)).drew (some w.heap.size):=fK (fF (dW y w.heap.size (.i 0) (.i 0) (.i 0) (.string ⟨#[]⟩) (.n0)) (kL (aK _)));generalize ((fC y w.heap.size (.i 0) (.i 0) (.i 0) (.string ⟨#[]⟩) (.n0)).alloc (.cells #[.i k,.i m,.i p,.string st,.slice a q c] 26)).drew=S at *;have⟨E,F,G,H,I⟩:=bE h;refine yb (v:=.tuple #[af 0 0 0 ⟨#[]⟩ none 0 0,.i e]) (by simp[results,results206,go_sem,E,F,G,H,I,af]) rfl ?_;exact⟨rfl,B,aG (xN J) j (qS _)⟩
  .go_wp2_with fail;refine (oG (A.alloc _) B 1).mono ?_;rintro P y2 ⟨rfl,rfl⟩;go_wp2_with fail;go_region;go_wp2_with fail;change bodyPost _ _ _ _ _ ((fC y w.heap.size (.i 0) (.i 0) (.i 0) (.string ⟨#[]⟩) (.n0)).alloc (.cells #[.i k,.i m,.i p,.string st,.slice a q c] 26)).drew;have f:=dH t (.i 0) (.i 0) (.i 0) (.string ⟨#[]⟩) (.n0);have h:((fC y w.heap.size (.i 0) (.i 0) (.i 0) (.string ⟨#[]⟩) (.n0)).alloc (.cells #[.i k,.i m,.i p,.string st,.slice a q c] 26)).drew.heap[w.heap.size]?=_:=(qd2 (fC y w.heap.size (.i 0) (.i 0) (.i 0) (.string ⟨#[]⟩) (.n0)) (.cells #[.i k,.i m,.i p,.string st,.slice a q c] 26) (qq.1 f).1).trans f;have j:cm y ((fC y w.heap.size (.i 0) (.i 0) (.i 0) (.string ⟨#[]⟩) (.n0)).alloc (.cells #[.i k,.i m,.i p,.string st,.slice a q c] 26)).drew (some w.heap.size):=fK (fF (dW y w.heap.size (.i 0) (.i 0) (.i 0) (.string ⟨#[]⟩) (.n0)) (kL (aK _)));generalize ((fC y w.heap.size (.i 0) (.i 0) (.i 0) (.string ⟨#[]⟩) (.n0)).alloc (.cells #[.i k,.i m,.i p,.string st,.slice a q c] 26)).drew=S at *;have⟨E,F,G,H,I⟩:=bE h;refine yb (v:=.tuple #[af 0 0 0 ⟨#[]⟩ none 0 0,.i e]) (by simp[results,results206,go_sem,E,F,G,H,I,af]) rfl ?_;exact⟨rfl,B,aG (xN J) j (qS _)⟩
 | ok r =>
  have⟨t',n',R⟩:=r;rw[z]at b;simp only at b
  by_cases o:R=[]
  .rw[if_pos o]at b;simp at b
  rw[if_neg o]at b;injection b with b;subst b;exact Gt z o L w
def CQ(a:bo)(m:Nat)(c:a.size=m+1)(g:m<=1000)(d:a.extract 0 1=⟨#[5]⟩)(W:bx):Calls prog 226 #[.string a,.string ⟨#[5]⟩] W λe w'=>e =.returned (.bool true)/\w'=W:=by
 have b:(⟨#[5]⟩:bo).size=1:=rfl;have f:(1:Int)<=(m:Int)+1:=od
 go_enter func226,ntmps226;go_wp2;go_ret;exact⟨rfl,rfl⟩
def A9(a r:bo)(m:Nat)(c:a.size=m+1)(f:m<=1000)(d:a.extract 0 1=⟨#[5]⟩)(h:a.extract 1 (m+1)=r)(W:bx):Calls prog 217 #[.string a,.string ⟨#[5]⟩] W λe w'=>e =.returned (.tuple #[.string r,.bool true])/\w'=W:=by
 have b:=jh (CQ a m c f d);have g:(⟨#[5]⟩:bo).size=1:=rfl;have i:(1:Int)<=(m:Int)+1:=od
 go_enter func217,ntmps217;go_wp2_with fail;refine (b _).mono ?_;rintro e j ⟨rfl,rfl⟩;go_wp2_with fail;go_ret2;exact⟨rfl,rfl⟩
def CO(a r:bo)(m:Nat)(c:a.size=m+1)(g:m<=1000)(d:a.extract 0 1=⟨#[5]⟩)(f:a.extract 1 (m+1)=r)(W:bx):Calls prog 205 #[.string a,.string ⟨#[5]⟩] W λe w'=>e =.returned (.tuple #[.string r,.bool true])/\w'=W:=by have b:=jh (A9 a r m c g d f);go_enter func205,ntmps205;go_wp2_with fail;refine (b _).mono ?_;rintro e h ⟨rfl,rfl⟩;go_wp2_with fail;go_ret2;exact⟨rfl,rfl⟩
def ZC(l:bw):(⟨((5:UInt8)::l).toArray⟩:bo).size=l.length+1/\(⟨((5:UInt8)::l).toArray⟩:bo).extract 0 1=⟨#[5]⟩/\(⟨((5:UInt8)::l).toArray⟩:bo).extract 1 (l.length+1)=bs l:=by
 refine⟨by simp[ByteArray.size],?_,?_⟩
 .apply ByteArray.ext;simp[je1]
 .apply ByteArray.ext;simp[je1,bs]
def Ae(a:bo)(c:a.size=0)(W:bx):Calls prog 226 #[.string a,.string ⟨#[5]⟩] W λe w'=>e =.returned (.bool false)/\w'=W:=by have b:(⟨#[5]⟩:bo).size=1:=rfl;go_enter func226,ntmps226;go_wp2;go_ret;exact⟨rfl,rfl⟩
def Ad(a:bo)(m:Nat)(d:a.size=m+1)(h:m<=1000000000000)(b:(a.extract 0 1).toList≠[5])(W:bx):Calls prog 226 #[.string a,.string ⟨#[5]⟩] W λe w'=>e =.returned (.bool false)/\w'=W:=by
 have c:(⟨#[5]⟩:bo).size=1:=rfl;have g:(1:Int)<=(m:Int)+1:=od
 have f:((a.extract 0 1).toList==[5])=false:=by simpa using b
 go_enter func226,ntmps226;go_wp2;go_ret;exact⟨rfl,rfl⟩
def xu(a:bo)(H:∀W,Calls prog 226 #[.string a,.string ⟨#[5]⟩] W λe w'=>e =.returned (.bool false)/\w'=W)(W:bx):Calls prog 205 #[.string a,.string ⟨#[5]⟩] W λe w'=>e =.returned (.tuple #[.string a,.bool false])/\w'=W:=by
 have c:Hid (∀W,Calls prog 217 #[.string a,.string ⟨#[5]⟩] W λe w'=>e =.returned (.tuple #[.string a,.bool false])/\w'=W):=by intro W;have b:=jh H;clear H;go_enter func217,ntmps217;go_wp2_with fail;refine (b _).mono ?_;rintro e d ⟨rfl,rfl⟩;go_wp2_with fail;go_ret2;exact⟨rfl,rfl⟩
 clear H;go_enter func205,ntmps205;go_wp2_with fail;refine (c _).mono ?_;rintro e d ⟨rfl,rfl⟩;go_wp2_with fail;go_ret2;exact⟨rfl,rfl⟩
def Xi{b:UInt8}{r:bw}(hb:b≠5):((⟨(b::r).toArray⟩:bo).extract 0 1).toList≠[5]:=by intro h;apply hb;rw[jc4]at h;simp[je1]at h;exact h
def Na(b:UInt8)(r:bw):(⟨(b::r).toArray⟩:bo).size=r.length+1:=by simp[ByteArray.size]
def QT:(⟨([]:bw).toArray⟩:bo).size=0:=rfl
def ER{l:bw}{t:Tr}(h:mE l =.ok t):dS t=0/\encTr t=l:=by
 unfold mE at h
 cases b:pNode 24 0 l with
 | error e=>rw[b]at h;simp at h
 | ok r =>
  have⟨i,g,f⟩:=r;rw[b]at h;simp only at h
  by_cases a:f=[]
  .rw[if_pos a]at h;injection h with h;subst h;subst a;have⟨d,j,k,c⟩:=pU 24 od 0 l i g [] od b;rw[show 25 - 24=1 from rfl]at c;refine⟨?_,by rw[d];simp⟩;unfold dS;rw[if_neg (by simpa using c),oa]
  .rw[if_neg a]at h;simp at h
section
open Pe
abbrev sA (s:bo):A1:=.one (.d (.v (.string s)))
def O8{a r:bo}{b:Bool}(h:∀W,Calls prog 205 #[.string a,.string ⟨#[5]⟩] W λe w'=>e =.returned (.tuple #[.string r,.bool b])/\w'=W):Hd ⟨205,[sA a,sA ⟨#[5]⟩],.rz [sA r,bA b]⟩:=⟨rM func205,λok w j i=>by
 match j,i with
 | [u,v],⟨f,g,_⟩ =>
  rw[bW f,bW g];exact (h w).mono λe w' ⟨c,d⟩=>⟨d ▸ bM _ _,_,c,[_,_],rfl,.v _,.v _,trivial⟩⟩
def ndZ:A1:=.agg [.d (.v (.i 0)),.d (.v (.i 0)),.d (.v (.i 0)),.d (.v (.string ⟨#[]⟩)),.d (.s 0 [])]
def decA:Except Int Tr->AV
 | .ok t=>.rz [ndA t,iA 0]
 | .error x=>.rz [ndZ,iA (if x=0 then 1 else x)]
def aaa(r:Except Int Tr):(decA r).keys=[]:=by
 cases r with
 | ok t=>show (ndA t).keys++((iA 0).keys++[])=[];rw[JZ];rfl
 | error x=>rfl
def Pb{l:bw}(c:l.length<=maxLen):Hd ⟨206,[sA (bs l)],decA (mE l)⟩:=⟨rM func206 (nk:=aaa _),λok w m j=>by
 match m,j with
 | [u],⟨f,_⟩ =>
  rw[bW f]
  cases d:mE l with
  | ok t =>
   refine (Nf d c w).mono ?_;rintro e n ⟨v,rfl,g,a⟩;exact⟨a,_,rfl,[_,_],rfl,(LH (g.ae (ok':=λb=>ok b\/w.heap.size<=b) λb _ h=>.inr h)).2,.v _,trivial⟩
  | error x =>
   refine (Nc d c w).mono ?_;rintro e n ⟨rfl,k,a⟩;rw[show decA (.error x) =.rz [ndZ,iA x] by simp only[decA,if_neg k]];exact⟨a,_,rfl,[_,_],rfl,⟨[.i 0,.i 0,.i 0,.string ⟨#[]⟩,.n0],rfl,.v _,.v _,.v _,.v _,.s (λ_ _=>undef) ot ot ot ot ot (λ_=>⟨rfl,rfl⟩),trivial⟩,.v _,trivial⟩⟩
def SX{T:Ty}(a:okT T)(hz:T.size<=50000000):Hd ⟨112,[tyA T],aQ (eB T)⟩:=jM (bK func112) λok w d h=>by
 match d,h with
 | [v],⟨c,_⟩=>exact BQ ((jC a c).ae λb h _=>h) hz
def Ps{T:Ty}{l:bw}(y:okT T)(A:l.length<=1000):Hd ⟨175,[tyA T,sA ⟨l.toArray⟩],parseA (jw T l)⟩:=by
 cases l with
 | nil =>
  have a:=O8 (xu _ (Ae _ QT));have⟨u,f⟩:=T;exact aF func175 [⟨_,a⟩]
 | cons b r =>
  by_cases m:b=5
  .subst m;simp only[jt]at A;have⟨q,D,E⟩:=ZC r;have a:=O8 (CO _ _ r.length q od D E)
   by_cases w:r.length<=199
   .have e:jJ (decide ((200:Int)<((⟨((5:UInt8)::r).toArray⟩:bo).size:Int))) false:=eT (by rw[q];simp;omega);have d:=Pb (l:=r) On;rw[jw,if_pos ⟨rfl,w⟩]
    cases o:mE r with
    | error x =>
     rw[o]at d;have C:(if x=0 then 1 else x)≠0:=Vc
     unfold decA at d;generalize (if x=0 then 1 else x)=x at *;have⟨u,f⟩:=T;exact runT func175 [(21,fA),(30,bA true)] [⟨_,a⟩,⟨_,d⟩] (ob:=[jJ (decide ((200:Int)<((⟨((5:UInt8)::r).toArray⟩:bo).size:Int))) false,jJ (!decide (x=0)) true]) (al e (al (eT (by simpa using C)) al0))
    | ok t =>
     rw[o]at d;have z:=(ER o).1;have B:=first_okN t 1 (iV z).1;have g:=WI y B (by have:=(iV z).2;omega);simp only
     cases i:jf T t with
     | none =>
      rw[i]at g;have⟨u,f⟩:=T;have⟨k,n,p,s,v⟩:=t;exact runT func175 [(21,fA)] [⟨_,a⟩,⟨_,d⟩,⟨_,g⟩] (ob:=[jJ (decide ((200:Int)<((⟨((5:UInt8)::r).toArray⟩:bo).size:Int))) false]) (al e al0)
     | some x =>
      rw[i]at g;have j:=SX y (by
       unfold jf at i;split at i
       .rename_i c;simp only[bn,qu,kj]at c;omega
       .cases i)
      simp only
      cases hk:eB T with
      | false =>
       rw[hk]at j;have⟨u,f⟩:=T;have⟨k,n,p,s,v⟩:=t;exact runT func175 [(21,fA)] [⟨_,a⟩,⟨_,d⟩,⟨_,g⟩,⟨_,j⟩] (ob:=[jJ (decide ((200:Int)<((⟨((5:UInt8)::r).toArray⟩:bo).size:Int))) false]) (al e al0)
      | true =>
       rw[hk]at j;have⟨u,f⟩:=T;have⟨k,n,p,s,v⟩:=t;exact runT func175 [(21,fA)] [⟨_,a⟩,⟨_,d⟩,⟨_,g⟩,⟨_,j⟩] (ob:=[jJ (decide ((200:Int)<((⟨((5:UInt8)::r).toArray⟩:bo).size:Int))) false]) (al e al0)
   .have e:jJ (decide ((200:Int)<((⟨((5:UInt8)::r).toArray⟩:bo).size:Int))) true:=eT (by rw[q];simp;omega);rw[jw,if_neg (λh=>w h.2)];have⟨u,f⟩:=T;exact runT func175 [(21,bA true)] [⟨_,a⟩] (ob:=[jJ (decide ((200:Int)<((⟨((5:UInt8)::r).toArray⟩:bo).size:Int))) true]) (al e al0)
  .have a:=O8 (xu _ (Ad _ r.length (Na b r) (by simp only[jt]at A;omega) (Xi m)));rw[jw,if_neg (λh=>m h.1)];have⟨u,f⟩:=T;exact aF func175 [⟨_,a⟩]
end
open Pe
def Xq{T:Ty}{l:bw}{x:Va}(h:jw T l=some x):okV x:=by
 cases l with
 | nil=>rw[jw]at h;cases h
 | cons b r =>
  rw[jw]at h;split at h
  .split at h
   .cases h
   .split at h
    .cases h
    .rename_i y a;split at h
     .cases h;exact D5 a
     .cases h
  .cases h
def WH{x:Va}(h:okV x)(hz:x.size<=20000000)(hs:(dR x).size<=301):VH x:=by
 have key:∀(v:AV),v.keys=[]->(∀ok (w w':bx) e,lH x w e w'->∃u,e =.returned u/\iZ (λ_=>none) ok w' v u)->Hd ⟨174,[pF x],v⟩:=λv nk hv=>⟨rM func174 (nk:=nk),λok w vs hh=>by
  match vs,hh with
  | [u],⟨h1,_⟩ =>
   refine (Sa ((mR h h1).ae (λ_ _ _=>trivial)) hz hs).mono ?_;intro e w' hp;exact⟨hp.1,hv _ w w' e hp⟩⟩
 refine⟨λs hb=>key _ rfl λok w w' e hp=>?_,λhb=>?_⟩
 .unfold oz at hb;split at hb
  .rename_i c;simp only[qk]at hb;subst hb;rcases hp.2 with⟨g,_⟩|⟨_,g,_⟩|⟨_,_,rfl⟩
   .exact absurd c.1 g
   .omega
   .exact⟨_,rfl,_,rfl,fI.v _,fI.v _,trivial⟩
  .cases hb
 .unfold oz at hb;split at hb
  .cases hb
  .rename_i c
   by_cases g:dS (dR x)=0
   .refine⟨4,ov,key _ rfl λok w w' e hp=>?_⟩;rcases hp.2 with⟨g2,_⟩|⟨_,_,rfl⟩|⟨_,g2,_⟩
    .exact absurd g g2
    .exact⟨_,rfl,_,rfl,fI.v _,fI.v _,trivial⟩
    .exact absurd ⟨g,g2⟩ c
   .refine⟨dS (dR x),g,key _ rfl λok w w' e hp=>?_⟩;rcases hp.2 with⟨_,rfl⟩|⟨g2,_⟩|⟨g2,_⟩
    .exact⟨_,rfl,_,rfl,fI.v _,fI.v _,trivial⟩
    .exact absurd g2 g
    .exact absurd g2 g
def X9{T:Ty}{s:bo}(h:okT T)(hz:s.size<=1000):SG T s:=by
 have k:s.toList=s.data.toList:=jc4 s;have c:=Ps (l:=s.data.toList) h (by rw[qh6];exact hz);have j:(⟨s.data.toList.toArray⟩:bo)=s:=ot
 unfold SG;rw[j,<-k]at c
 cases d:jw T s.toList with
 | some x=>rw[d]at c;exact c
 | none =>
  rw[d]at c;refine c.conv (λ_ _ _ h=>h) (λok w v ⟨u,e,h⟩=>?_)
  match u,h with
  | [a,b],⟨⟨cs,f,g⟩,i,_⟩ =>
   match cs,g with
   | [y,z,A,B,C,D,E],⟨m,n,o,p,q,r,t,_⟩=>exact⟨_,e,⟨_,f,m,n,o,p,gG q,gG r,gG t,trivial⟩,i,trivial⟩
