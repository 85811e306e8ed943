import Derived.OwnWalk
import Derived.Test.YtgfdimkbfnpepaaGreatKsZag
namespace Go.Proofs.YtgfdimkbfnpepaaGreat
set_option linter.all false
open Go.Proofs.Tryz
set_option maxRecDepth 100000
set_option maxHeartbeats 4000000
open Go.ChangeShapes Go.WideShapes Go.ChangeAt Go.RowKit
section
open Pe
def brS:List Ty->D
 | []=>.s 0 []
 | T::ts=>.s 2 (tysD (T::ts))
def brA:Option (Int×List Ty)->AV
 | none=>.rz [iA 0,.one (.d (brS [])),bA false]
 | some (m,ts)=>.rz [iA m,.one (.d (brS ts)),bA true]
def O3{T:Ty}{d:Nat}(m:j5 d T=true)(p:Int):Hd ⟨190,[tyA T,iA p],brA (dL T p)⟩:=by
 obtain⟨e,_⟩:=jU m;obtain⟨t,args⟩:=T;simp only[Ty.t,Ty.args]at e;have c:∀{a b:Int},a≠b->jJ (decide (a=b)) false:=λh=>eT (jc2 h);have i:args.length=2->∃A B,args=[A,B]:=λh=>by match args,h with|[A,B],_=>exact⟨A,B,rfl⟩
 by_cases l:t=1
 .subst l
  by_cases q:p=20
  .subst q;exact aF func190 []
  .rw[show dL (.nd 1 args) p=none by simp[dL,Ty.t,q]];exact runT func190 [(13,bA false)] [] (al (c q) al0)
 by_cases j:t=2
 .subst j
  by_cases q:p=22
  .subst q;exact aF func190 []
  by_cases r:p=21
  .subst r;exact aF func190 []
  rw[show dL (.nd 2 args) p=none by simp[dL,Ty.t,q,r]];exact runT func190 [(21,bA false),(29,bA false)] [] (al (c q) (al (c r) al0))
 by_cases k:t=9
 .subst k;obtain⟨A,rfl⟩:=jc5.1 (show args.length=1 by simp[bT]at e;omega)
  by_cases q:p=27
  .subst q;exact aF func190 []
  by_cases r:p=26
  .subst r;exact aF func190 []
  rw[show dL (.nd 9 [A]) p=none by simp[dL,Ty.t,q,r]];exact runT func190 [(37,bA false),(45,bA false)] [] (al (c q) (al (c r) al0))
 by_cases g:t=11
 .subst g;obtain⟨A,B,rfl⟩:∃A B,args=[A,B]:=i (by simp[bT]at e;omega)
  by_cases q:p=23
  .subst q;exact aF func190 []
  rw[show dL (.nd 11 [A,B]) p=none by simp[dL,Ty.t,q]];exact runT func190 [(55,bA false)] [] (al (c q) al0)
 by_cases f:t=12
 .subst f;obtain⟨A,B,rfl⟩:∃A B,args=[A,B]:=i (by simp[bT]at e;omega)
  by_cases q:p=24
  .subst q;exact aF func190 []
  by_cases r:p=25
  .subst r;exact aF func190 []
  rw[show dL (.nd 12 [A,B]) p=none by simp[dL,Ty.t,q,r]];exact runT func190 [(65,bA false),(76,bA false)] [] (al (c q) (al (c r) al0))
 rw[show dL (.nd t args) p=none by simp[dL,Ty.t,l,j,k,g,f]];exact runT func190 [(10,bA false),(18,bA false),(26,bA false),(34,bA false),(42,bA false),(52,bA false),(62,bA false),(73,bA false)] [] (al (c l) (al (c j) (al (c j) (al (c k) (al (c k) (al (c g) (al (c f) (al (c f) al0))))))))
def M7{T:Ty}{d:Nat}(f:j5 d T=true){p m:Int}{ts:List Ty}(h:dL T p=some (m,ts)):bD m/\(∃d,∀U∈ts,j5 d U=true)/\ts.length<=2:=by
 obtain⟨a,b⟩:=jU f;unfold dL at h;have g:T.t=9\/T.t=11\/T.t=12->T.args.length<=2:=λc=>by rcases c with c|c|c<;>rw[c]at a<;>simp[bT]at a<;>omega
 repeat' split at h
 all_goals first|(cases h;done)|skip
 all_goals
  rename_i c;simp only[qk,zd]at h;obtain⟨rfl,rfl⟩:=h;refine⟨i64,⟨d+1,λU e=>?_⟩,?_⟩
 all_goals first
  | (simp at e;done)
  | exact b U e
  | exact b U (qf2 e)
  | exact b U (ja3 e)
  | (have:=g od;simp;omega)
  | simp
def AB (ok:Nat->Prop) (T:Ty) (p:Int) (W:World) (e:Ending) (w':World):Prop :=
 W.grownBy w' none/\((dL T p=none/\e =.returned (.tuple #[.i 0,.n0,.bool false])) \/
  ∃m ts ta tc V,dL T p=some (m,ts)/\e =.returned (.tuple #[.i m,.slice ta ts.length tc,.bool true])/\bD m/\dw (λb=>ok b\/W.heap.size<=b) w' ts ta V/\(∃d,∀U∈ts,j5 d U=true))
def Jg{ok:Nat->Prop}{W:World}{T:Ty}{tv:Value}(C:aH ok W T tv){d:Nat}(w:j5 d T=true)(p:Int):Calls prog 190 #[tv,.i p] W (AB ok T p W):=by
 refine ((O3 w p).runN rfl ok W [tv,.i p] ⟨Mh C,.v _,trivial⟩).mono ?_;rintro e I ⟨E,v,rfl,g⟩;refine⟨E,?_⟩
 cases o:dL T p with
 | none =>
  rw[o]at g;obtain⟨t,rfl,g⟩:=g
  match t,g with
  | [x,y,z],⟨j,f,k,_⟩ =>
   obtain⟨a,c,U,rfl,_⟩:=fH f;obtain⟨rfl,rfl⟩:=Rv f rfl;exact .inl ⟨rfl,by rw[bW j,bW k];rfl⟩
 | some r =>
  obtain⟨m,h⟩:=r;rw[o]at g;obtain⟨H,u,_⟩:=M7 w o;obtain⟨t,rfl,g⟩:=g
  match t,g with
  | [x,y,z],⟨j,f,k,_⟩ =>
   have F:okTs h:=okTs_at.2 λU D=>by obtain⟨B,q⟩:=u;exact okT_formed U B (q U D)
   have f:∃n,(n=2\/h=[])/\fI (λb=>ok b\/W.heap.size<=b) I (.s n (tysD h)) y:=by
    cases h with
    | nil=>exact⟨0,.inr rfl,f⟩
    | cons A l=>exact⟨2,.inl rfl,f⟩
   obtain⟨n,G,f⟩:=f;obtain⟨a,c,V,rfl,_,hR⟩:=jR F G f;exact .inr ⟨m,h,a,c,V,rfl,by rw[bW j,bW k],H,hR,u⟩
end
def ou (t:Tr) (T:Ty) (W:World) (e:Ending) (w':World):Prop :=
 W.grownBy w' none/\∃k n a s aa al ac ta tl tc na nl nc bb,e =.returned (.tuple #[bg k n a s aa al ac ta tl tc na nl nc,.bool bb]) /\
  (bb=true->∃x,readT t T=some x/\aA (W.heap.size <= ·) w' x (bg k n a s aa al ac ta tl tc na nl nc))/\(bb=false->readT t T=none)
def F7 (N:Nat):Prop:=∀(t:Tr) (T:Ty) (u tv:Value) (W:World) (d:Nat),t.size<=N->t.size<=900->bI (λ_=>True) W t u->aH (λ_=>True) W T tv->j5 d T=true->Calls prog 152 #[tv,u] W (ou t T W)
def kC (r:Option (List Va)) (W:World) (e:Ending) (w':World):Prop :=
 W.grownBy w' none/\((∃xs,r=some xs/\∃a c V,e =.returned (.tuple #[.slice a xs.length c,.bool true])/\xs.length<=c/\aT (W.heap.size <= ·) w' xs a V)\/(r=none/\e =.returned (.tuple #[.n0,.bool false])))
def readTs_len:∀(l:List Tr) (ts:List Ty),l.length≠ts.length->readTs l ts=none
 | [],[],h=>by simp at h
 | [],_::_,_=>by simp[readTs]
 | _::_,[],_=>by simp[readTs]
 | t::l,T::ts,h=>by
  rw[readTs]
  cases readT t T with
  | none=>rfl
  | some x=>simp[readTs_len l ts (by simpa using h)]
def iL.slice{H:Nat}{w:World}{v:Value}{ts:List Va}{vs:List Value}(h:iL H w v ts vs):∃d lc,v =.slice d vs.length lc:=by
 rcases h.own.2 with⟨rfl,c⟩|⟨g,a,b,rfl,_⟩
 .exact⟨none,0,by rw[c]⟩
 .exact⟨_,_,rfl⟩
def iL.call{H:Nat}{w w':World}{v:Value}{ts:List Va}{vs:List Value}(h:iL H w v ts vs)(c:w.grownBy w' none):iL H w' v ts vs:=by refine⟨zp h.own c ?_,h.len,λi t u d e=>(h.lies i t u d e).same (λb o _ a=>qn (c.block b a ot))⟩;cases v.ownBlock<;>simp
def EY{w0 w:World}{b:Nat}{c d e f g i j:Value}(h:w0.grownBy w none)(a:w0.heap.size<=b):w0.grownBy (((((((w.setCell ⟨b,0,none⟩ c).setCell ⟨b,1,none⟩ d).setCell ⟨b,2,none⟩ e).setCell ⟨b,3,none⟩ f).setCell ⟨b,4,none⟩ g).setCell ⟨b,5,none⟩ i).setCell ⟨b,6,none⟩ j) none :=
 aX (aX (aX (aX (aX (aX (aX h a _ _ _) a _ _ _) a _ _ _) a _ _ _) a _ _ _) a _ _ _) a _ _ _
def PH (t:Tr) (T:Ty) (wr:World) (p q:Value) (wx:World):Prop :=
 ∃b9 k n a s aa al ac ta tl tc na nl nc bb,p =.pointer (some ⟨b9,0,none⟩)/\q =.bool bb/\wx.heap[b9]?=some (.cells #[.i k,.i n,.i a,.string s,.slice aa al ac,.slice ta tl tc,.slice na nl nc] 36 (0,0))/\wr.grownBy wx none /\
  (bb=true->∃x,readT t T=some x/\aA (wr.heap.size <= ·) wx x (bg k n a s aa al ac ta tl tc na nl nc))/\(bb=false->readT t T=none)
def N8{t:Tr}{T:Ty}{wr f c:World}{k n a:Int}{s:ByteArray}{g:Option Addr}{al ac:Nat}{ta:Option Addr}{tl tc:Nat}{na:Option Addr}{l nc:Nat}{d:Bool}(m:wr.grownBy f none)(r:f.drew.grownBy c none)
 (h1:d=true->∃x,readT t T=some x/\aA (f.drew.heap.size <= ·) c x (bg k n a s g al ac ta tl tc na l nc)) (h2:d=false->readT t T=none) :
 PH t T wr (.pointer (some ⟨c.heap.size,0,none⟩)) (.bool d) (c.alloc (.cells #[.i k,.i n,.i a,.string s,.slice g al ac,.slice ta tl tc,.slice na l nc] 36)):=by
 refine⟨_,k,n,a,s,g,al,ac,ta,tl,tc,na,l,nc,d,rfl,rfl,qT _ _,aJ (aJ (fK m) r) (aK _),λq=>?_,h2⟩;obtain⟨x,e,p⟩:=h1 q;refine⟨x,e,(p.same (λb o _ j=>qn ((aK (w:=c) _).block b j ot))).ae (λb _ h=>?_)⟩;have : f.heap.size<=b:=h;have:=m.size;omega
def N9{t:Tr}{T:Ty}{wr c f:World}{o:Obj}{k n a:Int}{s:ByteArray}{g:Option Addr}{al ac:Nat}{ta:Option Addr}{tl tc:Nat}{na:Option Addr}{l nc:Nat}{j:Bool}{x0 y z A B C D:Value}(m:wr.grownBy c none)(v:(c.drew.alloc o).grownBy f none)(p:f.heap[c.heap.size]?=some (.cells #[x0,y,z,A,B,C,D] 36 (0,0)))
 (h1:j=true->∃x,readT t T=some x/\aA ((c.drew.alloc o).heap.size <= ·) f x (bg k n a s g al ac ta tl tc na l nc)) (h2:j=false->readT t T=none) :
 PH t T wr (.pointer (some ⟨c.heap.size,0,none⟩)) (.bool j) (qW f c.heap.size (.i k) (.i n) (.i a) (.string s) (.slice g al ac) (.slice ta tl tc) (.slice na l nc)):=by
 have d:=zy f c.heap.size (.i k) (.i n) (.i a) (.string s) (.slice g al ac) (.slice ta tl tc) (.slice na l nc);refine⟨_,k,n,a,s,g,al,ac,ta,tl,tc,na,l,nc,j,rfl,rfl,wN p _ _ _ _ _ _ _,aG (aJ (aJ (fK m) (aK _)) v) d m.size,λq=>?_,h2⟩;obtain⟨x,e,u⟩:=h1 q;have w:(c.drew.alloc o).heap.size=c.heap.size+1:=yb _ _;rw[w]at u;refine⟨x,e,(u.same (λb o p r=>qn (d.block b r (by simp;have : c.heap.size+1<=b:=p;omega)))).ae (λb _ h=>?_)⟩;have : c.heap.size+1<=b:=h;have:=m.size;omega
def yj{N:Nat}(Z:F7 N){W:World}{l:List Tr}{ts:List Ty}{la ta:Option Addr}{lc tc:Nat}{VL VT:Nat->Value}{d:Nat}(hL:cK (λ_=>True) W l la VL)(hT:dw (λ_=>True) W ts ta VT)(hf:∀U∈ts,j5 d U=true)(hz:sizes l<=N)(cd:sizes l<=900) :
 Calls prog 188 #[.slice la l.length lc,.slice ta ts.length tc] W (kC (readTs l ts) W):=by
 have cb:=cB l;have bo:=hT.1;unfold maxLen at bo
 by_cases y:l.length=ts.length
 .have I:Hid (∀(j:Nat) (h:j<l.length) (h2:j<ts.length) (B:World),W.grownBy B none->Calls prog 152 #[VT j,VL j] B (ou l[j] ts[j] B)):=λj h h2 B G=>by
   have h3:(l[j]).size<=sizes l:=by have h4:=gH l j h;have h5:=jF l (j+1);omega
   exact Z _ _ _ _ B d od od ((hL.2.2 j h).same (ni G)) ((hT.2.2 j h2).same (ni G)) (hf _ (zj h2))
  obtain⟨HL,HT,L⟩:=JY hL hT y;clear Z hL hT hf hz;rw[<-y];clear y;have ai:=jh (DC l.length od W);go_enter func188,ntmps188;go_wp2_with fail;refine ai.mono ?_;rintro e w1 ⟨bx,rfl,F,ar⟩;have bh:=jh F;have ba:=jh ar;clear F ar ai;go_wp2_with fail;go_loopw [6,21] (λlv iv wr=>∃(Q:List Va) (m:List Value),iv =.i m.length/\m.length<=l.length/\iL W.heap.size wr lv Q m/\W.grownBy wr none/\readTs l ts=(readTs (l.drop m.length) (ts.drop m.length)).map (Q ++ ·)) (λ_ iv _=>l.length - (intOf iv).toNat)
  case atStart=>exact⟨[],[],rfl,kB _,⟨bh,rfl,λi t u h=>by simp at h⟩,ba,ot⟩
  case round =>
   obtain⟨Q,m,rfl,hj,hK,G,hr⟩:=hrel;obtain⟨ra,rc,rfl⟩:=hK.slice;have ah:=hK.len
   by_cases ad:m.length<l.length
   .have D:m.length<ts.length:=by have:=L.out;omega
    obtain⟨b,o,rfl,_,k',n',p',s',a',l',c',hv,h0,h1,h2,h3,h4⟩:=(HL.out.2.1 m.length ad).same (w':=wr) (ni G);obtain⟨b2,o2,rfl,_,t2,a2,l2,c2,aC,e0,e1⟩:=(HT.out.2.1 m.length D).same (w':=wr) (ni G);have ca:b<wr.heap.size:=kd wr _ h0;have M:b2<wr.heap.size:=kd wr _ e0;have ao:l.drop m.length=l[m.length]::l.drop (m.length+1):=qa1 ad;have aq:ts.drop m.length=ts[m.length]::ts.drop (m.length+1):=qa1 D;have au:∀B,wr.grownBy B none->Calls prog 152 #[bY t2 a2 l2 c2,af k' n' p' s' a' l' c'] B (ou l[m.length] ts[m.length] B):=λB bl=>by have:=I.out m.length ad D B (aJ G bl);rw[hv,aC]at this;exact this
    have HC:=jh au;rw[ao,aq,readTs]at hr;obtain⟨HR,HK,HG,bt⟩:=JT hr hK G ah;clear au hr ao aq hK G hv aC ah;unfold bY af at HC;go_wp2_with fail;have K:=aK (w:=wr) (.cells #[.i k',.i n',.i p',.string s',.slice a' l' c'] 26);have ae:=qT wr (.cells #[.i k',.i n',.i p',.string s',.slice a' l' c'] 26);generalize wr.alloc (.cells #[.i k',.i n',.i p',.string s',.slice a' l' c'] 26)=A at *;have k1:∀f:World,A.grownBy f none->f.heap[wr.heap.size]?=_:=λf h=>(h.block _ (qq.1 ae).1 ot).trans ae;have f0:∀f:World,A.grownBy f none->f.cell? ⟨wr.heap.size,0,none⟩=some (.i k'):=λf h=>(bE (k1 f h)).1;have f1:∀f:World,A.grownBy f none->f.cell? ⟨wr.heap.size,1,none⟩=some (.i n'):=λf h=>(bE (k1 f h)).2.1;have f2:∀f:World,A.grownBy f none->f.cell? ⟨wr.heap.size,2,none⟩=some (.i p'):=λf h=>(bE (k1 f h)).2.2.1;have f3:∀f:World,A.grownBy f none->f.cell? ⟨wr.heap.size,3,none⟩=some (.string s'):=λf h=>(bE (k1 f h)).2.2.2.1;have f4:∀f:World,A.grownBy f none->f.cell? ⟨wr.heap.size,4,none⟩=some (.slice a' l' c'):=λf h=>(bE (k1 f h)).2.2.2.2;have g0:∀f:World,A.grownBy f none->f.cell? ⟨b2,o2+m.length*2,none⟩=some (.i t2):=λf h=>(qn ((aJ K h).block b2 M ot)).trans e0;have g1:∀f:World,A.grownBy f none->f.cell? ⟨b2,o2+m.length*2+1,none⟩=some (.slice a2 l2 c2):=λf h=>(qn ((aJ K h).block b2 M ot)).trans e1;have J:=jh K;clear k1 K ae h0 h1 h2 h3 h4 e0 e1;go_cut [9,10] (λp q wx=>PH l[m.length] ts[m.length] wr p q wx)
    case first =>
     go_region_held3 (λw'=>A.grownBy w' none) (first|with_reducible assumption|with_reducible exact EY oS (qv _)|with_reducible exact aJ oS (aK _)|with_reducible exact fK (bM _ _)|with_reducible exact fK (aK _)) (first
      | (go_at_call 152;refine (HC _ (aJ J oS)).mono ?_;rintro e w2 z;obtain⟨v,kk,nn,aa,ss,xa,xl,xc,ya,yl,yc,za,zl,zc,bb,rfl,r,n⟩:=z;have Y:=jh r;have X:=jh n;have R:=jh v;have hS:=aJ oS v;have s:w2.heap[A.heap.size]?=some (.cells #[.i 0,.i 0,.i 0,.string ⟨#[]⟩,.n0,.n0,.n0] 36 (0,0)):=(v.block _ ot ot).trans (qT A.drew _);obtain⟨v0,v1,v2,v3,v4,v5,v6⟩:=cO s;have fz:=qD s;have aE:=jh s;clear r n v s f0 f1 f2 f3 f4 g0 g1;unfold bg)
      | (go_at_call 152;refine (HC _ (aJ J oS)).mono ?_;rintro e w2 z;obtain⟨v,kk,nn,aa,ss,xa,xl,xc,ya,yl,yc,za,zl,zc,bb,rfl,r,n⟩:=z;have Y:=jh r;have X:=jh n;have R:=jh v;have hS:=aJ oS v;clear r n v f0 f1 f2 f3 f4 g0 g1;unfold bg))
     all_goals
      go_wp2_with fail;go_meet
      first
      | with_reducible exact N8 J.out R.out Y.out X.out
      | exact N9 J R aE Y X
    case rest =>
     obtain⟨b9,kk,nn,aa,ss,xa,xl,xc,ya,yl,yc,za,zl,zc,bb,rfl,rfl,s,C,r,n⟩:=hcut;obtain⟨v0,v1,v2,v3,v4,v5,v6⟩:=cO s
     cases bb with
     | false =>
      have E:readTs l ts=none:=by have h:=HR.out;rw[n rfl]at h;exact h
      have HN:=jh E;have H:=jh (aJ HG C);clear E C r n s f0 f1 f2 f3 f4 g0 g1 HR HC I;go_wp2_with fail;go_ret2;exact⟨H,.inr ⟨HN,rfl⟩⟩
     | true =>
      obtain⟨x,hx,an⟩:=r rfl;have az:readTs l ts=(readTs (l.drop (m.length+1)) (ts.drop (m.length+1))).map (Q++[x] ++ ·):=by have h:=HR.out;rw[hx]at h;rw[h];cases readTs (l.drop (m.length+1)) (ts.drop (m.length+1))<;>simp
      obtain⟨bk,H,bf,T⟩:=JT az (aJ HG C) an (HK.call C);have bj:Hid (∀k,(Value.slice ra m.length rc).ownBlock=some k->k<wr.heap.size):=λk hk=>(kp HK.own k hk).2;have bq:W.heap.size<=wc.heap.size:=H.out.size;have bp:W.heap.size<=wr.heap.size:=HG.out.size;clear az an hx C r n s f0 f1 f2 f3 f4 g0 g1 HR HC I;go_wp2_with (at_builtin;refine V7 W.heap.size m kk nn aa ss xa xl xc ya yl yc za zl zc wc (.slice ra m.length rc) rfl (.tmp 37) (.tmp 39) rfl rfl rfl rfl T.own bq od ?_;intro g bw A ay ab;have bd:=jh (T.push (S:=wr.heap.size) bp bj bf ab ay);have bc:=jh (dX H T.own (qv _) ab.1);clear ay ab);refine⟨⟨Q++[x],m++[bg kk nn aa ss xa xl xc ya yl yc za zl zc],ot,oB,?_,bc,?_⟩,Kf⟩
      .have h:=bd.out;simpa using h
      .have h:=bk.out;simpa using h
   .have bm:m.length=l.length:=by omega
    have O:readTs l ts=some Q:=by have h2:=L.out;rw[hr,jc6 od,jc6 od,readTs];simp
    have ax:Q.length<=maxLen:=oT
    obtain⟨a,c,V,hv,hc,P⟩:=hK.done ax;obtain⟨HE,aj,HG,HV,aO⟩:=we O P G hv hc;have br:¬(m.length:Int)<(l.length:Int):=od
    clear O P G hv hc hr hK bm I ax ah;go_wp2_with fail;go_ret2;exact⟨HG,.inl ⟨Q,HE,a,c,V,by rw[HV.out];rfl,aO,aj⟩⟩
 .have hn:=readTs_len l ts y;have HN:=jh hn;have hb:((l.length:Int)==(ts.length:Int))=false:=by simpa using (by omega:¬(l.length:Int)=ts.length)
  clear Z hL hT hf hn;have cc:¬(l.length:Int)=(ts.length:Int):=od
  clear y;go_enter func188,ntmps188;go_wp2_with fail;go_ret2;exact⟨bM _ _,.inr ⟨HN,rfl⟩⟩
def bI.yX{ok:Nat->Prop}{w:World}{t:Tr}{u:Value}(h:bI ok w t u):∃a c V,u=Go.Proofs.YtgfdimkbfnpepaaGreat.af t.k0 t.n0 t.p0 t.s0 a t.args0.length c/\(bD t.k0/\bD t.n0/\bD t.p0/\t.s0.size<=maxLen)/\cK ok w t.args0 a V:=by
 cases h with
 | mk V d f i g j b e=>exact⟨_,_,V,rfl,⟨i,g,j,f⟩,d,b,e⟩
def H8(t:Tr)(l:List Tr)(ts:List Ty):readEs (t::l) ts=match readTs t.args0 ts with
 | none=>none
 | some a=>if t.p0=28 then (readEs l ts).map (fM 11 0 ⟨#[]⟩ a :: ·)else none:=by
 cases t;rw[readEs];rfl
def bZ{w:World}{b:Nat}{o:Obj}(h:w.heap[b]?=some o):b<w.heap.size:=(qq.1 h).1
def IG(t:Tr):t.size=sizes t.args0+1:=by cases t;rw[Tr.size];rfl
def oJ{ok:Nat->Prop}{w:World}{k n:Int}{s:ByteArray}{ys:List Va}{a:Option Addr}{c:Nat}{V:Nat->Value}(g:bD k)(f:bD n)(e:s.size<=maxLen)(b:aT ok w ys a V)(d:ys.length<=c):aA ok w (fM k n s ys) (bg k n 0 s a ys.length c none 0 0 none 0 0) :=
 aA.of (types:=[]) (code:=[]) (VT:=λ_=>.i 0) (VN:=λ_=>.i 0) d e g f ⟨od,od⟩ b (dw.nil _ _ _ _) (cK.nil _ _ _ _)
def Fj{N:Nat}(ab:F7 N){W:World}{T:Ty}{tv:Value}{l:List Tr}{la:Option Addr}{lc:Nat}{VL:Nat->Value}{d:Nat}(ad:aH (λ_=>True) W T tv)(hL:cK (λ_=>True) W l la VL)(hf:∀U∈T.args,j5 d U=true)(hz:sizes l<=N)(br:sizes l<=900) :
 Calls prog 189 #[tv,.slice la l.length lc] W (kC (readEs l T.args) W):=by
 obtain⟨ta,tc,VT,rfl,it,hT⟩:=ad.inv;have bp:=cB l;have bd:=hT.1;unfold maxLen at bd;have x:Hid (∀(j:Nat) (h:j<l.length),∃a c,VL j=af l[j].k0 l[j].n0 l[j].p0 l[j].s0 a l[j].args0.length c/\∀(A:World),W.grownBy A none->Calls prog 188 #[.slice a l[j].args0.length c,.slice ta T.args.length tc] A (kC (readTs l[j].args0 T.args) A)):=λj h=>by
  have h3:(l[j]).size<=sizes l:=by have h4:=gH l j h;have h5:=jF l (j+1);omega
  have h6:=IG l[j];obtain⟨a,c,V,e,_,hR⟩:=(hL.2.2 j h).yX;exact⟨a,c,e,λA D=>yj ab (hR.same (ni D)) (hT.same (ni D)) hf od od⟩
 have HL:=jh hL;have aa:=qT W (.cells #[.i T.t,.slice ta T.args.length tc] 54);have aq:=jh aa;clear ab hL hT hf hz ad it aa;unfold bY;go_enter func189,ntmps189;go_wp2_with fail;go_loopw [6,13] (λlv iv wr=>∃(H:List Va) (m:List Value),iv =.i m.length/\m.length<=l.length/\iL W.heap.size wr lv H m/\W.grownBy wr none/\wr.heap[W.heap.size]?=some (.cells #[.i T.t,.slice ta T.args.length tc] 54 (0,0))/\readEs l T.args=(readEs (l.drop m.length) T.args).map (H ++ ·)) (λ_ iv _=>l.length - (intOf iv).toNat)
 case atStart=>exact⟨[],[],rfl,kB _,⟨qa3 _ _ _ _,rfl,λi t u h=>by simp at h⟩,aK _,aq,ot⟩
 case round =>
  obtain⟨H,m,rfl,hj,Q,D,r,R⟩:=hrel;obtain⟨ra,rc,rfl⟩:=Q.slice;have L:=Q.len
  by_cases K:m.length<l.length
  .obtain⟨ca,cc,C,y⟩:=x.out m.length K;obtain⟨b,o,rfl,_,k',n',p',s',a',l',c',hv,h0,h1,h2,h3,h4⟩:=(HL.out.2.1 m.length K).same (w':=wr) (ni D);have bm:b<wr.heap.size:=kd wr _ h0;have ah:l.drop m.length=l[m.length]::l.drop (m.length+1):=qa1 K;rw[ah,H8]at R;rw[hv]at C;unfold af at C;simp only[qb3,qc1,xj,qg6,ke,true_and,and_true]at C;obtain⟨-,-,ep,-,rfl,el,rfl⟩:=C;rw[<-ep]at R;have ai:∀A,wr.grownBy A none->Calls prog 188 #[.slice a' l' c',.slice ta T.args.length tc] A (kC (readTs l[m.length].args0 T.args) A):=λA ba=>by
    have:=y A (aJ D ba);rw[<-el]at this;exact this
   have bo:=bZ r;have q0:=xq r;have q1:=wy r;obtain⟨HC,P,HK,O,bk,X,J,Y⟩:=wi ai R Q D L r (qT wr (.cells #[.i k',.i n',.i p',.string s',.slice a' l' c'] 26)) (aK (w:=wr) (.cells #[.i k',.i n',.i p',.string s',.slice a' l' c'] 26));generalize readTs l[m.length].args0 T.args=rr at *;clear ai R ah Q D hv L y ep el r;go_wp2_with fail;refine (HC _ Y).mono ?_;rintro e w3 ⟨z,hw⟩;have F:=(z.block _ (bZ J) ot).trans J;obtain⟨m0,m1,m2,m3,m4⟩:=bE F;have v:=jh (aJ Y z);rcases hw with⟨ys,rfl,ya,yc,V,rfl,M,p⟩|⟨rfl,rfl⟩
   .by_cases hp:p'=28
    .subst hp;have ao:readEs l T.args=(readEs (l.drop (m.length+1)) T.args).map (H++[fM 11 0 ⟨#[]⟩ ys] ++ ·):=by
      rw[P.out];simp only[if_true];cases readEs (l.drop (m.length+1)) T.args<;>simp
     obtain⟨aO,aC,q,B,I⟩:=we ao (oJ (k:=11) (n:=0) (s:=⟨#[]⟩) ⟨od,od⟩ ⟨od,od⟩ (kB _) (p.ae (ok':=(wr.heap.size <= ·)) (λb _ hb=>by have h9:(wr.alloc (.cells #[.i k',.i n',.i 28,.string s',.slice a' l' c'] 26)).heap.size<=b:=hb;rw[yb]at h9;show wr.heap.size<=b;omega)) M) (aJ O v) (HK.call v) ((v.block _ (bZ X) ot).trans X);have aE:Hid (∀k,(Value.slice ra m.length rc).ownBlock=some k->k<wr.heap.size):=λk hk=>(kp HK.own k hk).2;have bh:W.heap.size<=w3.heap.size:=q.out.size;have bf:W.heap.size<=wr.heap.size:=O.out.size;have au:Hid (∀(w5:World) (v5:Value),Gr w3 (.slice ra m.length rc) w5 v5->w5.heap[W.heap.size]?=some (.cells #[.i T.t,.slice ta T.args.length tc] 54 (0,0))):=λw5 v5 bb=>(bb.block (bZ I) (aD B.own I ov)).trans I;clear ao p z M F P HC x J;go_wp2_with (at_builtin;refine V7 W.heap.size m 11 0 0 ⟨#[]⟩ ya ys.length yc none 0 0 none 0 0 w3 (.slice ra m.length rc) rfl (.tmp 32) (.tmp 35) rfl rfl rfl rfl B.own bh od ?_;intro g bl w5 an E;have ar:=jh (au w5 _ E);have az:=jh (B.push (S:=wr.heap.size) bf aE aC E an);have ay:=jh (dX q B.own (qv _) E.1);clear an E);refine⟨⟨H++[fM 11 0 ⟨#[]⟩ ys],m++[bg 11 0 0 ⟨#[]⟩ ya ys.length yc none 0 0 none 0 0],ot,oB,?_,ay,ar,?_⟩,Kf⟩
     .have h:=az.out;simpa using h
     .have h:=aO.out;simpa using h
    .have f:readEs l T.args=none:=by
      rw[P.out];simp[hp]
     have HN:=jh f;have q:=jh (aJ O v);have bq:(p'==28)=false:=by simpa using hp
     clear f p z M F P HC x hp;go_wp2_with fail;go_ret2;exact⟨q,.inr ⟨HN,rfl⟩⟩
   .have f:readEs l T.args=none:=P.out;have HN:=jh f;have q:=jh (aJ O v);clear f z F P HC x;go_wp2_with fail;go_ret2;exact⟨q,.inr ⟨HN,rfl⟩⟩
  .have bc:m.length=l.length:=by omega
   have G:readEs l T.args=some H:=by rw[R,jc6 od,readEs];simp
   have aj:H.length<=maxLen:=oT
   obtain⟨a,c,V,hv,hc,p⟩:=Q.done aj;obtain⟨HE,Z,O,HV,ax⟩:=we G p D hv hc;have bj:¬(m.length:Int)<(l.length:Int):=od
   clear G p D hv hc R Q bc x aj L r;go_wp2_with fail;go_ret2;exact⟨O,.inl ⟨H,HE,a,c,V,by rw[HV.out];rfl,ax,Z⟩⟩
def Yy(w:World)(a b c d:Obj):((((w.alloc a).alloc b).alloc c).alloc d).heap[w.heap.size]?=some a/\((((w.alloc a).alloc b).alloc c).alloc d).heap[w.heap.size+1]?=some b/\((((w.alloc a).alloc b).alloc c).alloc d).heap[w.heap.size+1+1]?=some c/\((((w.alloc a).alloc b).alloc c).alloc d).heap[w.heap.size+1+1+1]?=some d :=
 ⟨aB (aB (CJ w a b)),aB (aB (iR w a b)),aB (QS w a b c),xV w a b c d⟩
def zt{W wz:World}(t m:Int)(s:ByteArray)(a:Option Addr)(l c:Nat){x0 k n p q r u:Value}(j:W.grownBy wz none)(d:wz.heap[W.heap.size+1+1]?=some (.cells #[x0,k,n,p,q,r,u] 36 (0,0))) :
 W.grownBy (qW wz (W.heap.size+1+1) (.i t) (.i m) (.i 0) (.string s) (.slice a l c) (.n0) (.n0)) none/\(qW wz (W.heap.size+1+1) (.i t) (.i m) (.i 0) (.string s) (.slice a l c) (.n0) (.n0)).heap[W.heap.size+1+1]?=some (.cells #[.i t,.i m,.i 0,.string s,.slice a l c,.n0,.n0] 36 (0,0)) /\
 ∀ys V,aT (W.heap.size+1+1+1+1 <= ·) wz ys a V->aT (W.heap.size <= ·) (qW wz (W.heap.size+1+1) (.i t) (.i m) (.i 0) (.string s) (.slice a l c) (.n0) (.n0)) ys a V:=by
 have e:=zy wz (W.heap.size+1+1) (.i t) (.i m) (.i 0) (.string s) (.slice a l c) (.n0) (.n0);refine⟨aG j e od,wN d _ _ _ _ _ _ _,λys V g=>?_⟩;refine (g.same (λb o d f=>qn (e.block b f (by simp;have h:W.heap.size+1+1+1+1<=b:=d;omega)))).ae (λb _ d=>by have h:W.heap.size+1+1+1+1<=b:=d;show W.heap.size<=b;omega)
def UM(ta:Option Addr)(tl tc:Nat)(k n p:Int)(s:ByteArray)(na:Option Addr)(a nc:Nat)(W:World):Calls prog 152 #[bY 3 ta tl tc,af k n p s na a nc] W λe w'=>e =.returned (.tuple #[bg 3 n 0 ⟨#[]⟩ none 0 0 none 0 0 none 0 0,.bool (k==0)])/\W.grownBy w' none:=by
 unfold bY af;go_enter func152,ntmps152;go_wp2_with fail
 go_region_with (fail)
 all_goals
  go_wp2_with fail;have b:((((W.alloc (.cells #[.i 3,.slice ta tl tc] 54)).alloc (.cells #[.i k,.i n,.i p,.string s,.slice na a nc] 26)).alloc (.cells #[.i 3,.i n,.i 0,.string ⟨#[]⟩,.n0,.n0,.n0] 36)).alloc (.cells #[.i 3,.i n,.i 0,.string ⟨#[]⟩,.n0,.n0,.n0] 36)).drew.heap[W.heap.size+1+1]?=some (.cells #[.i 3,.i n,.i 0,.string ⟨#[]⟩,.n0,.n0,.n0] 36 (0,0)):=kH _ _ _ _ _;have c:W.grownBy ((((W.alloc (.cells #[.i 3,.slice ta tl tc] 54)).alloc (.cells #[.i k,.i n,.i p,.string s,.slice na a nc] 26)).alloc (.cells #[.i 3,.i n,.i 0,.string ⟨#[]⟩,.n0,.n0,.n0] 36)).alloc (.cells #[.i 3,.i n,.i 0,.string ⟨#[]⟩,.n0,.n0,.n0] 36)).drew none:=fK (aJ (aJ (aJ (aK _) (aK _)) (aK _)) (aK _));generalize ((((W.alloc (.cells #[.i 3,.slice ta tl tc] 54)).alloc (.cells #[.i k,.i n,.i p,.string s,.slice na a nc] 26)).alloc (.cells #[.i 3,.i n,.i 0,.string ⟨#[]⟩,.n0,.n0,.n0] 36)).alloc (.cells #[.i 3,.i n,.i 0,.string ⟨#[]⟩,.n0,.n0,.n0] 36)).drew=o at *;obtain⟨d,f,g,h,j,l,m⟩:=cO b;exact zv (v:=.tuple #[bg 3 n 0 ⟨#[]⟩ none 0 0 none 0 0 none 0 0,.bool (k==0)]) (by simp[results,results152,go_sem,d,f,g,h,j,l,m,bg]) rfl ⟨rfl,c⟩
def UN(ta:Option Addr)(tl tc:Nat)(k n p:Int)(s:ByteArray)(na:Option Addr)(a nc:Nat)(W:World):Calls prog 152 #[bY 4 ta tl tc,af k n p s na a nc] W λe w'=>e =.returned (.tuple #[bg 4 n 0 ⟨#[]⟩ none 0 0 none 0 0 none 0 0,.bool (k==0)])/\W.grownBy w' none:=by
 unfold bY af;go_enter func152,ntmps152;go_wp2_with fail
 go_region_with (fail)
 all_goals
  go_wp2_with fail;have b:((((W.alloc (.cells #[.i 4,.slice ta tl tc] 54)).alloc (.cells #[.i k,.i n,.i p,.string s,.slice na a nc] 26)).alloc (.cells #[.i 4,.i n,.i 0,.string ⟨#[]⟩,.n0,.n0,.n0] 36)).alloc (.cells #[.i 4,.i n,.i 0,.string ⟨#[]⟩,.n0,.n0,.n0] 36)).drew.heap[W.heap.size+1+1]?=some (.cells #[.i 4,.i n,.i 0,.string ⟨#[]⟩,.n0,.n0,.n0] 36 (0,0)):=kH _ _ _ _ _;have c:W.grownBy ((((W.alloc (.cells #[.i 4,.slice ta tl tc] 54)).alloc (.cells #[.i k,.i n,.i p,.string s,.slice na a nc] 26)).alloc (.cells #[.i 4,.i n,.i 0,.string ⟨#[]⟩,.n0,.n0,.n0] 36)).alloc (.cells #[.i 4,.i n,.i 0,.string ⟨#[]⟩,.n0,.n0,.n0] 36)).drew none:=fK (aJ (aJ (aJ (aK _) (aK _)) (aK _)) (aK _));generalize ((((W.alloc (.cells #[.i 4,.slice ta tl tc] 54)).alloc (.cells #[.i k,.i n,.i p,.string s,.slice na a nc] 26)).alloc (.cells #[.i 4,.i n,.i 0,.string ⟨#[]⟩,.n0,.n0,.n0] 36)).alloc (.cells #[.i 4,.i n,.i 0,.string ⟨#[]⟩,.n0,.n0,.n0] 36)).drew=o at *;obtain⟨d,f,g,h,j,l,m⟩:=cO b;exact zv (v:=.tuple #[bg 4 n 0 ⟨#[]⟩ none 0 0 none 0 0 none 0 0,.bool (k==0)]) (by simp[results,results152,go_sem,d,f,g,h,j,l,m,bg]) rfl ⟨rfl,c⟩
def UO(ta:Option Addr)(tl tc:Nat)(k n p:Int)(s:ByteArray)(na:Option Addr)(a nc:Nat)(W:World):Calls prog 152 #[bY 5 ta tl tc,af k n p s na a nc] W λe w'=>e =.returned (.tuple #[bg 5 n 0 ⟨#[]⟩ none 0 0 none 0 0 none 0 0,.bool (k==0)])/\W.grownBy w' none:=by
 unfold bY af;go_enter func152,ntmps152;go_wp2_with fail
 go_region_with (fail)
 all_goals
  go_wp2_with fail;have b:((((W.alloc (.cells #[.i 5,.slice ta tl tc] 54)).alloc (.cells #[.i k,.i n,.i p,.string s,.slice na a nc] 26)).alloc (.cells #[.i 5,.i n,.i 0,.string ⟨#[]⟩,.n0,.n0,.n0] 36)).alloc (.cells #[.i 5,.i n,.i 0,.string ⟨#[]⟩,.n0,.n0,.n0] 36)).drew.heap[W.heap.size+1+1]?=some (.cells #[.i 5,.i n,.i 0,.string ⟨#[]⟩,.n0,.n0,.n0] 36 (0,0)):=kH _ _ _ _ _;have c:W.grownBy ((((W.alloc (.cells #[.i 5,.slice ta tl tc] 54)).alloc (.cells #[.i k,.i n,.i p,.string s,.slice na a nc] 26)).alloc (.cells #[.i 5,.i n,.i 0,.string ⟨#[]⟩,.n0,.n0,.n0] 36)).alloc (.cells #[.i 5,.i n,.i 0,.string ⟨#[]⟩,.n0,.n0,.n0] 36)).drew none:=fK (aJ (aJ (aJ (aK _) (aK _)) (aK _)) (aK _));generalize ((((W.alloc (.cells #[.i 5,.slice ta tl tc] 54)).alloc (.cells #[.i k,.i n,.i p,.string s,.slice na a nc] 26)).alloc (.cells #[.i 5,.i n,.i 0,.string ⟨#[]⟩,.n0,.n0,.n0] 36)).alloc (.cells #[.i 5,.i n,.i 0,.string ⟨#[]⟩,.n0,.n0,.n0] 36)).drew=o at *;obtain⟨d,f,g,h,j,l,m⟩:=cO b;exact zv (v:=.tuple #[bg 5 n 0 ⟨#[]⟩ none 0 0 none 0 0 none 0 0,.bool (k==0)]) (by simp[results,results152,go_sem,d,f,g,h,j,l,m,bg]) rfl ⟨rfl,c⟩
def UQ(ta:Option Addr)(tl tc:Nat)(k n p:Int)(s:ByteArray)(na:Option Addr)(a nc:Nat)(W:World):Calls prog 152 #[bY 7 ta tl tc,af k n p s na a nc] W λe w'=>e =.returned (.tuple #[bg 7 n 0 ⟨#[]⟩ none 0 0 none 0 0 none 0 0,.bool (k==0)])/\W.grownBy w' none:=by
 unfold bY af;go_enter func152,ntmps152;go_wp2_with fail
 go_region_with (fail)
 all_goals
  go_wp2_with fail;have b:((((W.alloc (.cells #[.i 7,.slice ta tl tc] 54)).alloc (.cells #[.i k,.i n,.i p,.string s,.slice na a nc] 26)).alloc (.cells #[.i 7,.i n,.i 0,.string ⟨#[]⟩,.n0,.n0,.n0] 36)).alloc (.cells #[.i 7,.i n,.i 0,.string ⟨#[]⟩,.n0,.n0,.n0] 36)).drew.heap[W.heap.size+1+1]?=some (.cells #[.i 7,.i n,.i 0,.string ⟨#[]⟩,.n0,.n0,.n0] 36 (0,0)):=kH _ _ _ _ _;have c:W.grownBy ((((W.alloc (.cells #[.i 7,.slice ta tl tc] 54)).alloc (.cells #[.i k,.i n,.i p,.string s,.slice na a nc] 26)).alloc (.cells #[.i 7,.i n,.i 0,.string ⟨#[]⟩,.n0,.n0,.n0] 36)).alloc (.cells #[.i 7,.i n,.i 0,.string ⟨#[]⟩,.n0,.n0,.n0] 36)).drew none:=fK (aJ (aJ (aJ (aK _) (aK _)) (aK _)) (aK _));generalize ((((W.alloc (.cells #[.i 7,.slice ta tl tc] 54)).alloc (.cells #[.i k,.i n,.i p,.string s,.slice na a nc] 26)).alloc (.cells #[.i 7,.i n,.i 0,.string ⟨#[]⟩,.n0,.n0,.n0] 36)).alloc (.cells #[.i 7,.i n,.i 0,.string ⟨#[]⟩,.n0,.n0,.n0] 36)).drew=o at *;obtain⟨d,f,g,h,j,l,m⟩:=cO b;exact zv (v:=.tuple #[bg 7 n 0 ⟨#[]⟩ none 0 0 none 0 0 none 0 0,.bool (k==0)]) (by simp[results,results152,go_sem,d,f,g,h,j,l,m,bg]) rfl ⟨rfl,c⟩
def UU(ta:Option Addr)(tl tc:Nat)(k n p:Int)(s:ByteArray)(na:Option Addr)(a nc:Nat)(W:World):Calls prog 152 #[bY 6 ta tl tc,af k n p s na a nc] W λe w'=>e =.returned (.tuple #[bg 6 0 0 s none 0 0 none 0 0 none 0 0,.bool (k==1)])/\W.grownBy w' none:=by
 unfold bY af;go_enter func152,ntmps152;go_wp2_with fail
 go_region_with (fail)
 all_goals
  go_wp2_with fail;have b:((((W.alloc (.cells #[.i 6,.slice ta tl tc] 54)).alloc (.cells #[.i k,.i n,.i p,.string s,.slice na a nc] 26)).alloc (.cells #[.i 6,.i 0,.i 0,.string s,.n0,.n0,.n0] 36)).alloc (.cells #[.i 6,.i 0,.i 0,.string s,.n0,.n0,.n0] 36)).drew.heap[W.heap.size+1+1]?=some (.cells #[.i 6,.i 0,.i 0,.string s,.n0,.n0,.n0] 36 (0,0)):=kH _ _ _ _ _;have c:W.grownBy ((((W.alloc (.cells #[.i 6,.slice ta tl tc] 54)).alloc (.cells #[.i k,.i n,.i p,.string s,.slice na a nc] 26)).alloc (.cells #[.i 6,.i 0,.i 0,.string s,.n0,.n0,.n0] 36)).alloc (.cells #[.i 6,.i 0,.i 0,.string s,.n0,.n0,.n0] 36)).drew none:=fK (aJ (aJ (aJ (aK _) (aK _)) (aK _)) (aK _));generalize ((((W.alloc (.cells #[.i 6,.slice ta tl tc] 54)).alloc (.cells #[.i k,.i n,.i p,.string s,.slice na a nc] 26)).alloc (.cells #[.i 6,.i 0,.i 0,.string s,.n0,.n0,.n0] 36)).alloc (.cells #[.i 6,.i 0,.i 0,.string s,.n0,.n0,.n0] 36)).drew=o at *;obtain⟨d,f,g,h,j,l,m⟩:=cO b;exact zv (v:=.tuple #[bg 6 0 0 s none 0 0 none 0 0 none 0 0,.bool (k==1)]) (by simp[results,results152,go_sem,d,f,g,h,j,l,m,bg]) rfl ⟨rfl,c⟩
def Rl(ta:Option Addr)(tl tc:Nat)(k n p:Int)(s:ByteArray)(na:Option Addr)(a nc:Nat)(W:World)(d:k≠3):Calls prog 152 #[bY 10 ta tl tc,af k n p s na a nc] W λe w'=>e =.returned (.tuple #[bg 10 0 0 ⟨#[]⟩ none 0 0 none 0 0 none 0 0,.bool false])/\W.grownBy w' none:=by
 have f:(k==3)=false:=by simpa using d
 clear d;unfold bY af;go_enter func152,ntmps152;go_wp2_with fail;have b:=kH W (.cells #[.i 10,.slice ta tl tc] 54) (.cells #[.i k,.i n,.i p,.string s,.slice na a nc] 26) (.cells #[.i 10,.i 0,.i 0,.string ⟨#[]⟩,.n0,.n0,.n0] 36) (.cells #[.i 10,.i 0,.i 0,.string ⟨#[]⟩,.n0,.n0,.n0] 36);have c:W.grownBy ((((W.alloc (.cells #[.i 10,.slice ta tl tc] 54)).alloc (.cells #[.i k,.i n,.i p,.string s,.slice na a nc] 26)).alloc (.cells #[.i 10,.i 0,.i 0,.string ⟨#[]⟩,.n0,.n0,.n0] 36)).alloc (.cells #[.i 10,.i 0,.i 0,.string ⟨#[]⟩,.n0,.n0,.n0] 36)) none:=aJ (aJ (aJ (aK _) (aK _)) (aK _)) (aK _);generalize ((((W.alloc (.cells #[.i 10,.slice ta tl tc] 54)).alloc (.cells #[.i k,.i n,.i p,.string s,.slice na a nc] 26)).alloc (.cells #[.i 10,.i 0,.i 0,.string ⟨#[]⟩,.n0,.n0,.n0] 36)).alloc (.cells #[.i 10,.i 0,.i 0,.string ⟨#[]⟩,.n0,.n0,.n0] 36))=r at *;obtain⟨g,h,j,l,m,o,q⟩:=cO b;exact zv (v:=.tuple #[bg 10 0 0 ⟨#[]⟩ none 0 0 none 0 0 none 0 0,.bool false]) (by simp[results,results152,go_sem,g,h,j,l,m,o,q,bg]) rfl ⟨rfl,c⟩
def UT(ta:Option Addr)(tl tc:Nat)(k n p:Int)(s:ByteArray)(na:Option Addr)(a nc:Nat)(W:World)(d:k≠3):Calls prog 152 #[bY 13 ta tl tc,af k n p s na a nc] W λe w'=>e =.returned (.tuple #[bg 13 0 0 ⟨#[]⟩ none 0 0 none 0 0 none 0 0,.bool false])/\W.grownBy w' none:=by
 have f:(k==3)=false:=by simpa using d
 clear d;unfold bY af;go_enter func152,ntmps152;go_wp2_with fail;have b:=kH W (.cells #[.i 13,.slice ta tl tc] 54) (.cells #[.i k,.i n,.i p,.string s,.slice na a nc] 26) (.cells #[.i 13,.i 0,.i 0,.string ⟨#[]⟩,.n0,.n0,.n0] 36) (.cells #[.i 13,.i 0,.i 0,.string ⟨#[]⟩,.n0,.n0,.n0] 36);have c:W.grownBy ((((W.alloc (.cells #[.i 13,.slice ta tl tc] 54)).alloc (.cells #[.i k,.i n,.i p,.string s,.slice na a nc] 26)).alloc (.cells #[.i 13,.i 0,.i 0,.string ⟨#[]⟩,.n0,.n0,.n0] 36)).alloc (.cells #[.i 13,.i 0,.i 0,.string ⟨#[]⟩,.n0,.n0,.n0] 36)) none:=aJ (aJ (aJ (aK _) (aK _)) (aK _)) (aK _);generalize ((((W.alloc (.cells #[.i 13,.slice ta tl tc] 54)).alloc (.cells #[.i k,.i n,.i p,.string s,.slice na a nc] 26)).alloc (.cells #[.i 13,.i 0,.i 0,.string ⟨#[]⟩,.n0,.n0,.n0] 36)).alloc (.cells #[.i 13,.i 0,.i 0,.string ⟨#[]⟩,.n0,.n0,.n0] 36))=r at *;obtain⟨g,h,j,l,m,o,q⟩:=cO b;exact zv (v:=.tuple #[bg 13 0 0 ⟨#[]⟩ none 0 0 none 0 0 none 0 0,.bool false]) (by simp[results,results152,go_sem,g,h,j,l,m,o,q,bg]) rfl ⟨rfl,c⟩
def Xx{W:World}(ta:Option Addr)(tl tc:Nat)(n p:Int)(s:ByteArray)(na:Option Addr)(H nc:Nat)(a:List Ty)(l:List Tr)(K:Hid (∀N,W.grownBy N none->Calls prog 189 #[bY 13 ta tl tc,.slice na H nc] N (kC (readEs l a) N))) :
 Calls prog 152 #[bY 13 ta tl tc,af 3 n p s na H nc] W (ou (.nd 3 n p s l) (.nd 13 a) W):=by
 have q:Hid (readT (.nd 3 n p s l) (.nd 13 a)=(readEs l a).map (fM 13 0 ⟨#[]⟩)):=by show _=_;rw[readT];simp[Ty.t,Ty.args]
 have L:=jh (Yy W (.cells #[.i 13,.slice ta tl tc] 54) (.cells #[.i 3,.i n,.i p,.string s,.slice na H nc] 26) (.cells #[.i 0,.i 0,.i 0,.string ⟨#[]⟩,.n0,.n0,.n0] 36) (.cells #[.i 13,.i 0,.i 0,.string ⟨#[]⟩,.n0,.n0,.n0] 36));have E:Hid (W.grownBy ((((W.alloc (.cells #[.i 13,.slice ta tl tc] 54)).alloc (.cells #[.i 3,.i n,.i p,.string s,.slice na H nc] 26)).alloc (.cells #[.i 0,.i 0,.i 0,.string ⟨#[]⟩,.n0,.n0,.n0] 36)).alloc (.cells #[.i 13,.i 0,.i 0,.string ⟨#[]⟩,.n0,.n0,.n0] 36)) none):=aJ (aJ (aJ (aK _) (aK _)) (aK _)) (aK _);generalize readEs l a=r at *;unfold bY af at *;go_enter func152,ntmps152;go_wp2_with fail;refine (K _ E).mono ?_;rintro e w ⟨f,hw⟩;obtain⟨n0,n1,I,J⟩:=L.out;have m:=(f.block _ (bZ I) ot).trans I;have k:=(f.block _ (bZ J) ot).trans J;obtain⟨v0,v1,v2,v3,v4,v5,v6⟩:=cO k;obtain⟨y0,y1,y2,y3,y4,y5,y6⟩:=cO m;have fv:=qD k;have fz:=qD m;have M:Hid (((((W.alloc (.cells #[.i 13,.slice ta tl tc] 54)).alloc (.cells #[.i 3,.i n,.i p,.string s,.slice na H nc] 26)).alloc (.cells #[.i 0,.i 0,.i 0,.string ⟨#[]⟩,.n0,.n0,.n0] 36)).alloc (.cells #[.i 13,.i 0,.i 0,.string ⟨#[]⟩,.n0,.n0,.n0] 36)).heap.size=W.heap.size+1+1+1+1):=by show _=_;simp
 obtain⟨z,aa,u⟩:=JY (aJ E f) k m;rcases hw with⟨d,rfl,x,y,V,rfl,G,j⟩|⟨rfl,rfl⟩
 .have B:Hid (readT (.nd 3 n p s l) (.nd 13 a)=some (fM 13 0 ⟨#[]⟩ d)):=by show _=_;rw[q.out];rfl
  have c:=dY (g:=W.heap.size+1+1+1) (bM w _) 4 none (.slice x d.length y);have A:=jh (aG z c od);have C:=jh ((c.block _ (bZ u) ot).trans u);rw[M.out]at j;have F:=jh (j.same (w':=w.setCell ⟨W.heap.size+1+1+1,4,none⟩ (.slice x d.length y)) (λb o hb O=>qn (c.block b O (by simp;have h:W.heap.size+1+1+1+1<=b:=hb;omega))));have D:=jh G;clear j G c f n0 n1 I J q K m k;go_wp2_with fail;change bodyPost _ _ _ _ _ (qW (w.setCell ⟨W.heap.size+1+1+1,4,none⟩ (.slice x d.length y)) (W.heap.size+1+1) (.i 13) (.i 0) (.i 0) (.string ⟨#[]⟩) (.slice x d.length y) (.n0) (.n0));obtain⟨P,Q,j3⟩:=zt (W:=W) (wz:=(w.setCell ⟨W.heap.size+1+1+1,4,none⟩ (.slice x d.length y))) 13 0 ⟨#[]⟩ x d.length y A C;generalize qW (w.setCell ⟨W.heap.size+1+1+1,4,none⟩ (.slice x d.length y)) (W.heap.size+1+1) (.i 13) (.i 0) (.i 0) (.string ⟨#[]⟩) (.slice x d.length y) (.n0) (.n0)=wf at *;obtain⟨R,S,T,U,X,Y,Z⟩:=cO Q;refine zv (v:=.tuple #[bg 13 0 0 ⟨#[]⟩ x d.length y none 0 0 none 0 0,.bool true]) (by simp[results,results152,go_sem,R,S,T,U,X,Y,Z,bg]) rfl ⟨P,_,_,_,_,_,_,_,_,_,_,_,_,_,_,rfl,?_,?_⟩
  .intro _;exact⟨fM 13 0 ⟨#[]⟩ d,B,oJ ⟨od,od⟩ ⟨od,od⟩ (kB _) (j3 d _ F) D⟩
  .intro h;cases h
 .have B:Hid (readT (.nd 3 n p s l) (.nd 13 a)=none):=by show _=_;rw[q.out];rfl
  have c:=dY (g:=W.heap.size+1+1+1) (bM w _) 4 none (.n0);have A:=jh (aG z c od);have C:=jh ((c.block _ (bZ u) ot).trans u);clear c f n0 n1 I J q K m k;go_wp2_with fail;change bodyPost _ _ _ _ _ (qW (w.setCell ⟨W.heap.size+1+1+1,4,none⟩ (.n0)) (W.heap.size+1+1) (.i 13) (.i 0) (.i 0) (.string ⟨#[]⟩) (.n0) (.n0) (.n0));obtain⟨P,Q,j3⟩:=zt (W:=W) (wz:=(w.setCell ⟨W.heap.size+1+1+1,4,none⟩ (.n0))) 13 0 ⟨#[]⟩ none 0 0 A C;generalize qW (w.setCell ⟨W.heap.size+1+1+1,4,none⟩ (.n0)) (W.heap.size+1+1) (.i 13) (.i 0) (.i 0) (.string ⟨#[]⟩) (.n0) (.n0) (.n0)=wf at *;obtain⟨R,S,T,U,X,Y,Z⟩:=cO Q;refine zv (v:=.tuple #[bg 13 0 0 ⟨#[]⟩ none 0 0 none 0 0 none 0 0,.bool false]) (by simp[results,results152,go_sem,R,S,T,U,X,Y,Z,bg]) rfl ⟨P,_,_,_,_,_,_,_,_,_,_,_,_,_,_,rfl,?_,?_⟩
  .intro h;cases h
  .intro _;exact B
def Fp{k n p:Int}{s:ByteArray}{l:List Tr}{T:Ty}(e:T.t≠3)(f:T.t≠4)(g:T.t≠5)(c:T.t≠6)(h:T.t≠7)(a:T.t≠10)(b:T.t≠13):readT (.nd k n p s l) T=match dL T p with
 | none=>none
 | some (m,d)=>(readTs l d).map (fM T.t m ⟨#[]⟩):=by
 rw[readT,oa,if_neg c,if_neg a,if_neg b];rfl
def RJ{w:World}{g:Nat}{T:TypeId}{x0 e a b f c d:Value}(h:w.heap[g]?=some (.cells #[x0,e,a,b,f,c,d] T (0,0)))(u:Value) :
 (w.setCell ⟨g,1,none⟩ u).heap[g]?=some (.cells #[x0,u,a,b,f,c,d] T (0,0))/\(w.setCell ⟨g,4,none⟩ u).heap[g]?=some (.cells #[x0,e,a,b,u,c,d] T (0,0)):=by
 simp[World.setCell,yr,h]
def Xw{W:World}{t:Int}(ta:Option Addr)(tl tc:Nat)(k n p:Int)(s:ByteArray)(na:Option Addr)(nl nc:Nat){T:Ty}{l:List Tr}(ht:T.t=t)(it:bD t)(h3:t≠3)(h4:t≠4)(h5:t≠5)(h6:t≠6)(h7:t≠7)(Y:t≠10)(Z:t≠13)
 (HB:Hid (∀Q,W.grownBy Q none->Calls prog 190 #[bY t ta tl tc,.i p] Q (AB (· < W.heap.size) T p Q)))
 (HE:Hid (∀Q ts xa xc VX,W.grownBy Q none->dw (λ_=>True) Q ts xa VX->(∃d,∀U∈ts,j5 d U=true)->Calls prog 188 #[.slice na nl nc,.slice xa ts.length xc] Q (kC (readTs l ts) Q))) :
 Calls prog 152 #[bY t ta tl tc,af k n p s na nl nc] W (ou (.nd k n p s l) T W):=by
 subst ht;have H:=jh (Fp (k:=k) (n:=n) (p:=p) (s:=s) (l:=l) h3 h4 h5 h6 h7 Y Z);have ar:=jh it;generalize T.t=t at *;have b3:(t==3)=false:=by simpa using h3
 have b4:(t==4)=false:=by simpa using h4
 have b5:(t==5)=false:=by simpa using h5
 have b6:(t==6)=false:=by simpa using h6
 have b7:(t==7)=false:=by simpa using h7
 have ax:(t==10)=false:=by simpa using Y
 have ay:(t==13)=false:=by simpa using Z
 clear h3 h4 h5 h6 h7 Y Z it;have S:=jh (Yy W (.cells #[.i t,.slice ta tl tc] 54) (.cells #[.i k,.i n,.i p,.string s,.slice na nl nc] 26) (.cells #[.i 0,.i 0,.i 0,.string ⟨#[]⟩,.n0,.n0,.n0] 36) (.cells #[.i t,.i 0,.i 0,.string ⟨#[]⟩,.n0,.n0,.n0] 36));have F:Hid (W.grownBy ((((W.alloc (.cells #[.i t,.slice ta tl tc] 54)).alloc (.cells #[.i k,.i n,.i p,.string s,.slice na nl nc] 26)).alloc (.cells #[.i 0,.i 0,.i 0,.string ⟨#[]⟩,.n0,.n0,.n0] 36)).alloc (.cells #[.i t,.i 0,.i 0,.string ⟨#[]⟩,.n0,.n0,.n0] 36)) none):=aJ (aJ (aJ (aK _) (aK _)) (aK _)) (aK _);have I:Hid (((((W.alloc (.cells #[.i t,.slice ta tl tc] 54)).alloc (.cells #[.i k,.i n,.i p,.string s,.slice na nl nc] 26)).alloc (.cells #[.i 0,.i 0,.i 0,.string ⟨#[]⟩,.n0,.n0,.n0] 36)).alloc (.cells #[.i t,.i 0,.i 0,.string ⟨#[]⟩,.n0,.n0,.n0] 36)).heap.size=W.heap.size+1+1+1+1):=by show _=_;simp
 unfold bY af at *;go_enter func152,ntmps152;go_wp2_with fail;refine (HB _ F).mono ?_;rintro e r ⟨j,hw⟩;obtain⟨n0,n1,n2,n3⟩:=S.out;have c:=(j.block _ (bZ n2) ot).trans n2;have q:=(j.block _ (bZ n3) ot).trans n3;have ab:=(j.block _ (bZ n1) ot).trans n1;have x:=jh (aJ F j);rcases hw with⟨A,rfl⟩|⟨m,ts,xa,xc,VX,A,rfl,im,D,B⟩
 .have y:Hid (readT (.nd k n p s l) T=none):=by show _=_;rw[H.out,A]
  obtain⟨v0,v1,v2,v3,v4,v5,v6⟩:=cO q;obtain⟨y0,y1,y2,y3,y4,y5,y6⟩:=cO c;have fv:=qD q;have fz:=qD c;have a:=dY (g:=W.heap.size+1+1+1) (bM r _) 1 none (.i 0);have w:=jh (aG x a od);have z:=jh ((a.block _ (bZ c) ot).trans c);clear a j n0 n1 n2 n3 H HE c q ab A HB F S I;go_wp2_with fail;change bodyPost _ _ _ _ _ (qW (r.setCell ⟨W.heap.size+1+1+1,1,none⟩ (.i 0)) (W.heap.size+1+1) (.i t) (.i 0) (.i 0) (.string ⟨#[]⟩) (.n0) (.n0) (.n0));obtain⟨j1,j2,j3⟩:=zt (W:=W) (wz:=(r.setCell ⟨W.heap.size+1+1+1,1,none⟩ (.i 0))) t 0 ⟨#[]⟩ none 0 0 w z;generalize qW (r.setCell ⟨W.heap.size+1+1+1,1,none⟩ (.i 0)) (W.heap.size+1+1) (.i t) (.i 0) (.i 0) (.string ⟨#[]⟩) (.n0) (.n0) (.n0)=wf at *;obtain⟨z0,z1,z2,z3,z4,z5,z6⟩:=cO j2;refine zv (v:=.tuple #[bg t 0 0 ⟨#[]⟩ none 0 0 none 0 0 none 0 0,.bool false]) (by simp[results,results152,go_sem,z0,z1,z2,z3,z4,z5,z6,bg]) rfl ⟨j1,_,_,_,_,_,_,_,_,_,_,_,_,_,_,rfl,?_,?_⟩
  .intro h;cases h
  .intro _;exact y
 .have P:Hid (readT (.nd k n p s l) T=(readTs l ts).map (fM t m ⟨#[]⟩)):=by show _=_;rw[H.out,A]
  have aq:=jh im;obtain⟨v0,v1,v2,v3,v4,v5,v6⟩:=cO q;obtain⟨m0,m1,m2,m3,m4⟩:=bE ab;have fv:=qD q;have a:=dY (g:=W.heap.size+1+1+1) (bM r _) 1 none (.i m);obtain⟨G,K,J⟩:=JY (aG x a od) ((a.block _ (bZ c) ot).trans c) (RJ q (.i m)).1;have au:(r.setCell ⟨W.heap.size+1+1+1,1,none⟩ (.i m)).heap.size=r.heap.size:=qX _ _ _;have an:=j.size;rw[I.out]at an;have X:Hid (W.heap.size+1+1+1+1<=(r.setCell ⟨W.heap.size+1+1+1,1,none⟩ (.i m)).heap.size):=by show _<=_;omega
  have ah:=jh (HE (r.setCell ⟨W.heap.size+1+1+1,1,none⟩ (.i m)) ts xa xc VX G ((D.same (w':=r.setCell ⟨W.heap.size+1+1+1,1,none⟩ (.i m)) (λb o hb aa=>qn (a.block b aa (by simp;have:=I.out;rcases hb with h|h<;>(have h:_:=h;omega))))).ae (λ_ _ _=>trivial)) B);clear D B a j n0 n1 n2 n3 H HE c q ab A HB F S I im au an;go_wp2_with fail;refine ah.mono ?_;rintro e M ⟨C,hw⟩;have f:=(C.block _ (bZ K) ot).trans K;have L:=(C.block _ (bZ J) ot).trans J;have ai:=jh (aJ G C);clear v0 v1 v2 v3 v4 v5 v6 m0 m1 m2 m3 m4 fv ah x;obtain⟨v0,v1,v2,v3,v4,v5,v6⟩:=cO L;obtain⟨y0,y1,y2,y3,y4,y5,y6⟩:=cO f;have fv:=qD L;have fz:=qD f;rcases hw with⟨u,E,N,O,V,rfl,ao,R⟩|⟨E,rfl⟩
  .have y:Hid (readT (.nd k n p s l) T=some (fM t m ⟨#[]⟩ u)):=by show _=_;rw[P.out,E];rfl
   have a:=dY (g:=W.heap.size+1+1+1) (bM M _) 4 none (.slice N u.length O);have w:=jh (aG ai a od);have z:=jh ((a.block _ (bZ f) ot).trans f);have hq:=X.out;have aj:=jh ((R.same (w':=M.setCell ⟨W.heap.size+1+1+1,4,none⟩ (.slice N u.length O)) (λb o hb aa=>qn (a.block b aa (by simp;have h:(r.setCell ⟨W.heap.size+1+1+1,1,none⟩ (.i m)).heap.size<=b:=hb;omega)))).ae (ok':=(W.heap.size+1+1+1+1 <= ·)) (λb _ hb=>by have h:(r.setCell ⟨W.heap.size+1+1+1,1,none⟩ (.i m)).heap.size<=b:=hb;show W.heap.size+1+1+1+1<=b;omega));have ad:=jh ao;clear R ao a C f L E hq X J K G;go_wp2_with fail;change bodyPost _ _ _ _ _ (qW (M.setCell ⟨W.heap.size+1+1+1,4,none⟩ (.slice N u.length O)) (W.heap.size+1+1) (.i t) (.i m) (.i 0) (.string ⟨#[]⟩) (.slice N u.length O) (.n0) (.n0));obtain⟨j1,j2,j3⟩:=zt (W:=W) (wz:=(M.setCell ⟨W.heap.size+1+1+1,4,none⟩ (.slice N u.length O))) t m ⟨#[]⟩ N u.length O w z;generalize qW (M.setCell ⟨W.heap.size+1+1+1,4,none⟩ (.slice N u.length O)) (W.heap.size+1+1) (.i t) (.i m) (.i 0) (.string ⟨#[]⟩) (.slice N u.length O) (.n0) (.n0)=wf at *;obtain⟨z0,z1,z2,z3,z4,z5,z6⟩:=cO j2;refine zv (v:=.tuple #[bg t m 0 ⟨#[]⟩ N u.length O none 0 0 none 0 0,.bool true]) (by simp[results,results152,go_sem,z0,z1,z2,z3,z4,z5,z6,bg]) rfl ⟨j1,_,_,_,_,_,_,_,_,_,_,_,_,_,_,rfl,?_,?_⟩
   .intro _;exact⟨fM t m ⟨#[]⟩ u,y,oJ ar aq (kB _) (j3 u _ aj) ad⟩
   .intro h;cases h
  .have y:Hid (readT (.nd k n p s l) T=none):=by show _=_;rw[P.out,E];rfl
   have a:=dY (g:=W.heap.size+1+1+1) (bM M _) 4 none (.n0);have w:=jh (aG ai a od);have z:=jh ((a.block _ (bZ f) ot).trans f);clear a C f L E X J K G;go_wp2_with fail;change bodyPost _ _ _ _ _ (qW (M.setCell ⟨W.heap.size+1+1+1,4,none⟩ (.n0)) (W.heap.size+1+1) (.i t) (.i m) (.i 0) (.string ⟨#[]⟩) (.n0) (.n0) (.n0));obtain⟨j1,j2,j3⟩:=zt (W:=W) (wz:=(M.setCell ⟨W.heap.size+1+1+1,4,none⟩ (.n0))) t m ⟨#[]⟩ none 0 0 w z;generalize qW (M.setCell ⟨W.heap.size+1+1+1,4,none⟩ (.n0)) (W.heap.size+1+1) (.i t) (.i m) (.i 0) (.string ⟨#[]⟩) (.n0) (.n0) (.n0)=wf at *;obtain⟨z0,z1,z2,z3,z4,z5,z6⟩:=cO j2;refine zv (v:=.tuple #[bg t m 0 ⟨#[]⟩ none 0 0 none 0 0 none 0 0,.bool false]) (by simp[results,results152,go_sem,z0,z1,z2,z3,z4,z5,z6,bg]) rfl ⟨j1,_,_,_,_,_,_,_,_,_,_,_,_,_,_,rfl,?_,?_⟩
   .intro h;cases h
   .intro _;exact y
def kC.form{r:Option (List Va)}{W:World}{e:Ending}{w':World}(h:kC r W e w'):∃i k j d,e =.returned (.tuple #[.slice i k j,.bool d])/\(d=true->∃ys V,r=some ys/\k=ys.length/\ys.length<=j/\aT (W.heap.size <= ·) w' ys i V)/\(d=false->r=none):=by
 rcases h.2 with⟨ys,g,a,c,V,f,l,b⟩|⟨g,f⟩
 .exact⟨a,_,c,true,f,λ_=>⟨ys,V,g,rfl,l,b⟩,λh=>by cases h⟩
 .exact⟨none,0,0,false,f,(λh=>by cases h),λ_=>g⟩
def EX{w w':World}{r:Option Nat}(h:w.drew.grownBy w' r):w.grownBy w' r:=⟨h.os,h.tape,h.output,h.size,h.block⟩
def QH{r:Option (List Va)}{W l c:World}{d:Option Addr}{f e:Nat}{n:Bool}(u:W.grownBy c none)(p:c.heap[W.heap.size+1+1]?=some (.cells #[.i 0,.i 0,.i 0,.string ⟨#[]⟩,.n0,.n0,.n0] 36 (0,0)))(v:W.heap.size+1+1+1+1<=l.heap.size)
 (h1:n=true->∃ys V,r=some ys/\f=ys.length/\ys.length<=e/\aT (l.heap.size <= ·) c ys d V) :
 W.grownBy (c.setCell ⟨W.heap.size+1+1+1,4,none⟩ (.slice d f e)) none/\(c.setCell ⟨W.heap.size+1+1+1,4,none⟩ (.slice d f e)).heap[W.heap.size+1+1]?=some (.cells #[.i 0,.i 0,.i 0,.string ⟨#[]⟩,.n0,.n0,.n0] 36 (0,0)) /\
 (n=true->∃ys V,r=some ys/\f=ys.length/\ys.length<=e/\aT (W.heap.size+1+1+1+1 <= ·) (c.setCell ⟨W.heap.size+1+1+1,4,none⟩ (.slice d f e)) ys d V):=by
 have a:=dY (g:=W.heap.size+1+1+1) (bM c _) 4 none (.slice d f e);refine⟨aG u a od,(a.block _ (bZ p) ot).trans p,λj=>?_⟩;obtain⟨ys,V,q,s,t,k⟩:=h1 j;exact⟨ys,V,q,s,t,(k.same (λb o j m=>qn (a.block b m (by simp;have h:l.heap.size<=b:=j;omega)))).ae (λb _ j=>by have h:l.heap.size<=b:=j;show W.heap.size+1+1+1+1<=b;omega)⟩
def UR{W:World}(b o tc:Nat)(n p:Int)(s:ByteArray)(na:Option Addr)(d nc:Nat){j:List Ty}{l:List Tr}{t0:Int}{a0:Option Addr}{l0 c0:Nat}{r:Option (List Va)}(L:readT (.nd 3 n p s l) (.nd 10 j)=r.map (fM 10 0 ⟨#[]⟩))
 (HRep:Hid (∀m,W.grownBy m none->Calls prog 181 #[.slice (some ⟨b,o,none⟩) 1 tc,.i d] m λe w'=>∃g Q,e =.returned (.slice (some ⟨g,0,none⟩) d Q)/\m.heap.size<=g/\tN w' g d d (.i t0) (.slice a0 l0 c0)/\m.grownBy w' none))
 (HE:Hid (∀m g Q,W.grownBy m none->tN m g d d (.i t0) (.slice a0 l0 c0)->Calls prog 188 #[.slice na d nc,.slice (some ⟨g,0,none⟩) d Q] m (kC r m))) :
 Calls prog 152 #[bY 10 (some ⟨b,o,none⟩) 1 tc,af 3 n p s na d nc] W (ou (.nd 3 n p s l) (.nd 10 j) W):=by
 have H:=jh L;clear L;unfold bY af at *;go_enter func152,ntmps152;go_wp2_with fail;have P:W.grownBy ((W.alloc (.cells #[.i 10,.slice (some ⟨b,o,none⟩) 1 tc] 54)).alloc (.cells #[.i 3,.i n,.i p,.string s,.slice na d nc] 26)) none:=aJ (aK _) (aK _);have O:((W.alloc (.cells #[.i 10,.slice (some ⟨b,o,none⟩) 1 tc] 54)).alloc (.cells #[.i 3,.i n,.i p,.string s,.slice na d nc] 26)).heap.size=W.heap.size+1+1:=ot
 have n0:=CJ W (.cells #[.i 10,.slice (some ⟨b,o,none⟩) 1 tc] 54) (.cells #[.i 3,.i n,.i p,.string s,.slice na d nc] 26);have n1:=iR W (.cells #[.i 10,.slice (some ⟨b,o,none⟩) 1 tc] 54) (.cells #[.i 3,.i n,.i p,.string s,.slice na d nc] 26);generalize (W.alloc (.cells #[.i 10,.slice (some ⟨b,o,none⟩) 1 tc] 54)).alloc (.cells #[.i 3,.i n,.i p,.string s,.slice na d nc] 26)=f at *;have B:f.grownBy ((f.alloc (.cells #[.i 0,.i 0,.i 0,.string ⟨#[]⟩,.n0,.n0,.n0] 36)).alloc (.cells #[.i 10,.i 0,.i 0,.string ⟨#[]⟩,.n0,.n0,.n0] 36)) none:=aJ (aK _) (aK _);have N:((f.alloc (.cells #[.i 0,.i 0,.i 0,.string ⟨#[]⟩,.n0,.n0,.n0] 36)).alloc (.cells #[.i 10,.i 0,.i 0,.string ⟨#[]⟩,.n0,.n0,.n0] 36)).heap.size=W.heap.size+1+1+1+1:=oB
 have n2:=CJ f (.cells #[.i 0,.i 0,.i 0,.string ⟨#[]⟩,.n0,.n0,.n0] 36) (.cells #[.i 10,.i 0,.i 0,.string ⟨#[]⟩,.n0,.n0,.n0] 36);have n3:=iR f (.cells #[.i 0,.i 0,.i 0,.string ⟨#[]⟩,.n0,.n0,.n0] 36) (.cells #[.i 10,.i 0,.i 0,.string ⟨#[]⟩,.n0,.n0,.n0] 36);rw[O]at n2 n3;generalize (f.alloc (.cells #[.i 0,.i 0,.i 0,.string ⟨#[]⟩,.n0,.n0,.n0] 36)).alloc (.cells #[.i 10,.i 0,.i 0,.string ⟨#[]⟩,.n0,.n0,.n0] 36)=w5 at *;have k0:∀c:World,f.grownBy c none->c.heap[W.heap.size]?=_:=λc h=>(h.block _ (bZ n0) ot).trans n0;have k1:∀c:World,f.grownBy c none->c.heap[W.heap.size+1]?=_:=λc h=>(h.block _ (bZ n1) ot).trans n1;have f0:∀c:World,f.grownBy c none->c.cell? ⟨W.heap.size+1,4,none⟩=some (.slice na d nc):=λc h=>(bE (k1 c h)).2.2.2.2;have f1:∀c:World,f.grownBy c none->c.cell? ⟨W.heap.size,1,none⟩=some (.slice (some ⟨b,o,none⟩) 1 tc):=λc h=>wy (k0 c h);obtain⟨k,x,y⟩:=JY P n2 n3;have u:=fK B;have ad:f.heap.size<=W.heap.size+1+1+1:=od
 have I:=jh N;have X:=jh B;clear k0 k1 n0 n1 n2 n3 P B N O;go_region_held3 (λw'=>f.grownBy w' none) (first|with_reducible assumption|with_reducible exact aX oS ad _ _ _|with_reducible exact aJ oS (aK _)) (first
  | (go_at_call 181;refine (HRep _ (aJ k oS)).mono ?_;rintro e w1 ⟨g,Q,rfl,aa,t,hg⟩;have hS:=aJ u hg;have HP:=jh t;have w:=jh (EX hg);clear aa t hg)
  | (go_at_call 188;refine (HE _ _ _ (aJ k oS) HP).mono ?_;rintro e w2 a;obtain⟨C,E,D,bb,rfl,q,K⟩:=a.form;have Z:=aJ oS a.1;have A:=aJ w a.1;have z:=jh ((A.block _ (bZ x) ot).trans x);have J:=jh ((A.block _ (bZ y) ot).trans y);have fv:=qD J;have R:=jh (aJ k Z);have G:=jh q;have T:=jh K;have U:Hid (W.heap.size+1+1+1+1<=w1.heap.size):=(by show _<=_;have h1:=w.out.size;have h2:=I.out;have h3:w5.heap.size<=w1.heap.size:=h1;omega);obtain⟨v0,v1,v2,v3,v4,v5,v6⟩:=cO J;obtain⟨y0,y1,y2,y3,y4,y5,y6⟩:=cO z;have fz:=qD z;clear a q K A f0 f1))
 all_goals
  have F:=jh (QH R z U G);clear HRep HE u k x y X I G HP w;go_wp2_with fail;obtain⟨ab,ae,q⟩:=F.out;have S:=jh ab;have Y:=jh ae;change bodyPost _ _ _ _ _ (qW (w2.setCell ⟨W.heap.size+1+1+1,4,none⟩ (.slice C E D)) (W.heap.size+1+1) (.i 10) (.i 0) (.i 0) (.string ⟨#[]⟩) (.slice C E D) (.n0) (.n0));obtain⟨j1,j2,j3⟩:=zt (W:=W) (wz:=(w2.setCell ⟨W.heap.size+1+1+1,4,none⟩ (.slice C E D))) 10 0 ⟨#[]⟩ C E D S Y;generalize qW (w2.setCell ⟨W.heap.size+1+1+1,4,none⟩ (.slice C E D)) (W.heap.size+1+1) (.i 10) (.i 0) (.i 0) (.string ⟨#[]⟩) (.slice C E D) (.n0) (.n0)=wf at *;obtain⟨z0,z1,z2,z3,z4,z5,z6⟩:=cO j2;refine zv (v:=.tuple #[bg 10 0 0 ⟨#[]⟩ C E D none 0 0 none 0 0,.bool bb]) (by simp[results,results152,go_sem,z0,z1,z2,z3,z4,z5,z6,bg]) rfl ⟨j1,_,_,_,_,_,_,_,_,_,_,_,_,_,_,rfl,?_,?_⟩
  .intro hb;obtain⟨ys,V,e1,e2,e3,M⟩:=q hb;subst e2;exact⟨fM 10 0 ⟨#[]⟩ ys,by rw[H.out,e1];rfl,oJ ⟨od,od⟩ ⟨od,od⟩ (kB _) (j3 ys _ M) e3⟩
  .intro hb;rw[H.out,T.out hb];rfl
def oH{t n:Int}{s:ByteArray}{b:Tr}{T:Ty}{W:World}{a:Bool}(k:bD t)(j:bD n)(g:s.size<=maxLen)(c:a=true->readT b T=some (fM t n s []))(d:a=false->readT b T=none){e:Ending}{w':World}(h:e =.returned (.tuple #[bg t n 0 s none 0 0 none 0 0 none 0 0,.bool a])/\W.grownBy w' none):ou b T W e w' :=
 ⟨h.2,_,_,_,_,_,_,_,_,_,_,_,_,_,_,h.1,λf=>⟨_,c f,oJ (ys:=[]) k j g (aT.nil _ _ none (λ_=>.i 0)) (qv _)⟩,d⟩
def Od{N:Nat}(hN:F7 N):F7 (N+1):=by
 intro tr T u tv W d hz ad hL M hf;obtain⟨na,nc,VN,rfl,⟨ik,H,ip,hs⟩,B⟩:=hL.yX;have P:=M;have O:aH (· < W.heap.size) W T tv:=M.ae (λb a _=>a);obtain⟨ta,tc,VT,rfl,q,C⟩:=M.inv;have ab:=IG tr;have aa:=cB tr.args0;obtain⟨E,D⟩:=jU hf;have I:bD 0:=⟨od,od⟩;obtain⟨k,n,p,s,l⟩:=tr;simp only[Tr.k0,Tr.n0,Tr.p0,Tr.s0,Tr.args0]at *;have j:∀c G xa xc VX,W.grownBy c none->dw (λ_=>True) c G xa VX->(∃d,∀U∈G,j5 d U=true)->Calls prog 188 #[.slice na l.length nc,.slice xa G.length xc] c (kC (readTs l G) c):=λc G xa xc VX f hr hd=>by obtain⟨d',Q⟩:=hd;exact yj hN (B.same (ni f)) hr Q od od
 obtain⟨t,m⟩:=T;simp only[Ty.t,Ty.args]at *
 by_cases h3:t=3
 .subst h3;exact (UM _ _ _ _ _ _ _ _ _ _ _).mono λe x h=>oH q H (kB _) (λa=>by rw[readT];simp[Ty.t];simpa using a) (λa=>by rw[readT];simp[Ty.t];simpa using a) h
 by_cases h4:t=4
 .subst h4;exact (UN _ _ _ _ _ _ _ _ _ _ _).mono λe x h=>oH q H (kB _) (λa=>by rw[readT];simp[Ty.t];simpa using a) (λa=>by rw[readT];simp[Ty.t];simpa using a) h
 by_cases h5:t=5
 .subst h5;exact (UO _ _ _ _ _ _ _ _ _ _ _).mono λe x h=>oH q H (kB _) (λa=>by rw[readT];simp[Ty.t];simpa using a) (λa=>by rw[readT];simp[Ty.t];simpa using a) h
 by_cases h7:t=7
 .subst h7;exact (UQ _ _ _ _ _ _ _ _ _ _ _).mono λe x h=>oH q H (kB _) (λa=>by rw[readT];simp[Ty.t];simpa using a) (λa=>by rw[readT];simp[Ty.t];simpa using a) h
 by_cases h6:t=6
 .subst h6;exact (UU _ _ _ _ _ _ _ _ _ _ _).mono λe x h=>oH q I hs (λa=>by rw[readT];simp[Ty.t];simpa using a) (λa=>by rw[readT];simp[Ty.t];simpa using a) h
 by_cases y:t=10
 .subst y
  by_cases v:k=3
  .subst v;have S:m.length=1:=by simp[bT]at E;omega
   obtain⟨A,rfl⟩:=jc5.1 S;obtain⟨b,o,rfl,_,Z,J,Y,K,X,L,e1⟩:=C.2.1 0 ot;have hA:=C.2.2 0 ot;rw[X]at hA;refine UR b o tc n p s na l.length nc (t0:=Z) (a0:=J) (l0:=Y) (c0:=K) (r:=readTs l (List.replicate l.length A)) (by rw[readT];simp[Ty.t,Ty.args,bB]) (λc f=>?_) (λc g c' f F=>?_)
   .exact Eb Z J Y K b o l.length tc od c (by have:=(qn (f.block b (kd W _ L) ot)).trans L;simpa using this) (by have:=(qn (f.block b (kd W _ L) ot)).trans e1;simpa using this)
   .have V:=L6 (T:=A) (W:=c) (w:=c) (aH.same hA (ni f)) oT F;have h:=j c (List.replicate l.length A) (some ⟨g,0,none⟩) c' _ f ⟨V.1,λi R=>(V.2 i R).1,λi R=>(V.2 i R).2⟩ ⟨d+1,λU hU=>by rw[qf6 hU];exact D A ot⟩;rw[List.length_replicate]at h;exact h
  .exact (Rl _ _ _ _ _ _ _ _ _ _ _ v).mono λe x h=>oH q I (kB _) (λa=>by cases a) (λ_=>by rw[readT];simp[Ty.t,v]) h
 by_cases z:t=13
 .subst z
  by_cases v:k=3
  .subst v;exact Xx _ _ _ n p s _ _ _ m l (λc f=>Fj hN (aH.same P (ni f)) (B.same (ni f)) D od od)
  .exact (UT _ _ _ _ _ _ _ _ _ _ _ v).mono λe x h=>oH q I (kB _) (λa=>by cases a) (λ_=>by rw[readT];simp[Ty.t,v]) h
 exact Xw _ _ _ k n p s _ _ _ rfl q h3 h4 h5 h6 h7 y z (λc f=>Jg (O.same (λb o a _=>qn (f.block b a ot))) hf p) j
def read_all:∀N,F7 N
 | 0=>λt _ _ _ _ _ h=>by have:=size_pos t;omega
 | N+1=>Od (read_all N)
