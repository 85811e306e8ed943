import Derived.OwnWalk
import Derived.Test.YtgfdimkbfnpepaaGreatKpZag
import Derived.Deep.RegionWith
namespace Go.Proofs.YtgfdimkbfnpepaaGreat
set_option linter.all false
open Go.Proofs.Tryz
set_option maxRecDepth 100000
set_option maxHeartbeats 4000000
open Go.ChangeShapes Go.WideShapes Go.ChangeAt Go.RowKit
section
open Pe
def brS:List Ty->D
 | []=>.s 0 []
 | T::ts=>.s 2 (tysD (T::ts))
def brA:Option (Int×List Ty)->AV
 | none=>.rz [iA 0,.one (.d (brS [])),bA false]
 | some (m,ts)=>.rz [iA m,.one (.d (brS ts)),bA true]
def O3{T:Ty}{d:Nat}(m:j5 d T=true)(p:Int):Hd ⟨190,[tyA T,iA p],brA (dL T p)⟩:=by
 obtain⟨e,_⟩:=jU m;obtain⟨t,args⟩:=T;simp only[Ty.t,Ty.args]at e;have c:∀{a b:Int},a≠b->jJ (decide (a=b)) false:=λh=>eT (jc2 h);have i:args.length=2->∃A B,args=[A,B]:=λh=>by match args,h with|[A,B],_=>exact⟨A,B,rfl⟩
 by_cases l:t=1
 .subst l
  by_cases q:p=20
  .subst q;exact aF func190 []
  .rw[show dL (.nd 1 args) p=none by simp[dL,Ty.t,q]];exact runT func190 [(13,bA false)] [] (al (c q) al0)
 by_cases j:t=2
 .subst j
  by_cases q:p=22
  .subst q;exact aF func190 []
  by_cases r:p=21
  .subst r;exact aF func190 []
  rw[show dL (.nd 2 args) p=none by simp[dL,Ty.t,q,r]];exact runT func190 [(21,bA false),(29,bA false)] [] (al (c q) (al (c r) al0))
 by_cases k:t=9
 .subst k;obtain⟨A,rfl⟩:=jc5.1 (show args.length=1 by simp[bT]at e;omega)
  by_cases q:p=27
  .subst q;exact aF func190 []
  by_cases r:p=26
  .subst r;exact aF func190 []
  rw[show dL (.nd 9 [A]) p=none by simp[dL,Ty.t,q,r]];exact runT func190 [(37,bA false),(45,bA false)] [] (al (c q) (al (c r) al0))
 by_cases g:t=11
 .subst g;obtain⟨A,B,rfl⟩:∃A B,args=[A,B]:=i (by simp[bT]at e;omega)
  by_cases q:p=23
  .subst q;exact aF func190 []
  rw[show dL (.nd 11 [A,B]) p=none by simp[dL,Ty.t,q]];exact runT func190 [(55,bA false)] [] (al (c q) al0)
 by_cases f:t=12
 .subst f;obtain⟨A,B,rfl⟩:∃A B,args=[A,B]:=i (by simp[bT]at e;omega)
  by_cases q:p=24
  .subst q;exact aF func190 []
  by_cases r:p=25
  .subst r;exact aF func190 []
  rw[show dL (.nd 12 [A,B]) p=none by simp[dL,Ty.t,q,r]];exact runT func190 [(65,bA false),(76,bA false)] [] (al (c q) (al (c r) al0))
 rw[show dL (.nd t args) p=none by simp[dL,Ty.t,l,j,k,g,f]];exact runT func190 [(10,bA false),(18,bA false),(26,bA false),(34,bA false),(42,bA false),(52,bA false),(62,bA false),(73,bA false)] [] (al (c l) (al (c j) (al (c j) (al (c k) (al (c k) (al (c g) (al (c f) (al (c f) al0))))))))
def RJ{K:Nat->Prop}{w w':World}(h:w.grownBy w' none):Same K w w':=λb o _ a=>qn (h.block b a ot)
def M7{T:Ty}{p m:Int}{ts:List Ty}(h:dL T p=some (m,ts)):∀U∈ts,U∈T.args:=by
 unfold dL at h
 repeat' split at h
 all_goals first
  | (cases h;done)
  | (simp only[qk,zd]at h
     obtain⟨rfl,rfl⟩:=h
     first
      | exact λU a=>a
      | exact λU a=>qf2 a
      | exact λU a=>ja3 a
      | (intro U a;cases a;done))
def vw{a b:Int}{s:ByteArray}{l:List Va}(c:bD a)(d:bD b)(e:s.size<=maxLen)(f:okVs l):okV (fM a b s l):=⟨⟨c,d,i64,e⟩,f,trivial,trivial⟩
mutual
def readT_okV:∀(t:Tr) (T:Ty) (x:Va),okN t->readT t T=some x->okV x
 | .nd k n p s a,T,x,d=>by
  intro h;have g:(⟨#[]⟩:ByteArray).size<=maxLen:=ov
  rw[readT]at h;split at h
  .rename_i c;split at h
   .simp only[qk]at h;subst h;exact vw vf d.1.2.1 g trivial
   .cases h
  .split at h
   .split at h
    .simp only[qk]at h;subst h;exact vw i64 i64 d.1.2.2.2 trivial
    .cases h
   .split at h
    .split at h
     .simp only[km]at h;obtain⟨e,b,rfl⟩:=h;exact vw i64 i64 g (readTs_okV a _ e d.2 b)
     .cases h
    .split at h
     .split at h
      .simp only[km]at h;obtain⟨e,b,rfl⟩:=h;exact vw i64 i64 g (readEs_okV a _ e d.2 b)
      .cases h
     .split at h
      .cases h
      .rename_i m j f;simp only[km]at h;obtain⟨e,b,rfl⟩:=h;unfold dL at f;have i:(0<=T.t/\T.t<=20)/\(m=0\/m=1):=by
        repeat' split at f
        all_goals first|(cases f;done)|(simp only[qk,zd]at f;omega)
       exact vw vf vf g (readTs_okV a _ e d.2 b)
def readTs_okV:∀(l:List Tr) (ts:List Ty) (xs:List Va),okNs l->readTs l ts=some xs->okVs xs
 | [],[],xs,_=>by intro h;simp[readTs]at h;subst h;trivial
 | [],_::_,xs,_=>by intro h;simp[readTs]at h
 | _::_,[],xs,_=>by intro h;simp[readTs]at h
 | t::l,T::ts,xs,b=>by
  intro h;rw[readTs]at h
  cases a:readT t T with
  | none=>rw[a]at h;cases h
  | some x =>
   rw[a]at h;simp only[km]at h;obtain⟨d,c,rfl⟩:=h;exact⟨readT_okV t T x b.1 a,readTs_okV l ts d b.2 c⟩
def readEs_okV:∀(l:List Tr) (ts:List Ty) (xs:List Va),okNs l->readEs l ts=some xs->okVs xs
 | [],ts,xs,_=>by intro h;simp[readEs]at h;subst h;trivial
 | .nd k n p s a::l,ts,xs,c=>by
  intro h;rw[readEs]at h
  cases b:readTs a ts with
  | none=>rw[b]at h;cases h
  | some e =>
   rw[b]at h;simp only at h;split at h
   .simp only[km]at h;obtain⟨f,d,rfl⟩:=h;exact⟨vw i64 i64 ov (readTs_okV a ts e c.1.2 b),readEs_okV l ts f c.2 d⟩
   .cases h
end
def rdA (T:Ty) (m:Int) (s:ByteArray):Option Va->AV
 | some x=>.rz [pF x,bA true]
 | none=>.rz [.agg [.d (.v (.i T.t)),.d (.v (.i m)),.d (.v (.i 0)),.d (.v (.string s)),.d (.s 0 []),.d (.s 0 []),.d (.s 0 [])],bA false]
def F7 (N:Nat):Prop:=∀(t:Tr) (T:Ty) (d:Nat),t.size<=N->t.size<=900->okN t->okT T->j5 d T=true->∃m s,Hd ⟨152,[tyA T,ndA t],rdA T m s (readT t T)⟩
def ou (K:Nat->Prop) (t:Tr) (T:Ty) (W:World) (e:Ending) (w':World):Prop :=
 W.grownBy w' none/\∃k n a s aa al ac ta tl tc na nl nc bb,e =.returned (.tuple #[bg k n a s aa al ac ta tl tc na nl nc,.bool bb]) /\
  (bb=true->∃x,readT t T=some x/\aA (λb=>K b\/W.heap.size<=b) w' x (bg k n a s aa al ac ta tl tc na nl nc))/\(bb=false->readT t T=none)
def F7.go{N:Nat}(h:F7 N){K:Nat->Prop}{t:Tr}{T:Ty}{d:Nat}{u tv:Value}{W:World}(B:t.size<=N)(b:t.size<=900)(C:bI K W t u)(g:aH K W T tv)(D:j5 d T=true):Calls prog 152 #[tv,u] W (ou K t T W):=by
 obtain⟨j,F⟩:=LH C;obtain⟨m,s,H⟩:=h t T d B b j (qI g).1 D;refine (H.runN rfl K W [tv,u] ⟨Mh g,F,trivial⟩).mono ?_;rintro e w' ⟨E,v,rfl,a⟩;refine⟨E,?_⟩
 cases c:readT t T with
 | none =>
  rw[c]at a;obtain⟨f,rfl,a⟩:=a
  match f,a with
  | [x,y],⟨⟨S,e,q⟩,b,_⟩ =>
   subst e
   match S,q with
   | [U,V,X,Y,Z,a5,a6],⟨L,M,O,P,l,o,r,_⟩ =>
    obtain⟨_,_,_,rfl,_⟩:=fH l;obtain⟨_,_,_,rfl,_⟩:=fH o;obtain⟨_,_,_,rfl,_⟩:=fH r;obtain⟨rfl,rfl⟩:=Rv l rfl;obtain⟨rfl,rfl⟩:=Rv o rfl;obtain⟨rfl,rfl⟩:=Rv r rfl;exact⟨T.t,m,0,s,none,0,0,none,0,0,none,0,0,false,by rw[bW L,bW M,bW O,bW P,bW b];rfl,(λh=>by cases h),λ_=>rfl⟩
 | some x =>
  rw[c]at a;obtain⟨f,rfl,a⟩:=a
  match f,a with
  | [y,z],⟨q,b,_⟩ =>
   have i:=mR (readT_okV t T x j c) q;obtain⟨k,n,p,s,w,al,A,Q,tl,R,G,J,I,rfl⟩:=i.bg;exact⟨k,n,p,s,w,al,A,Q,tl,R,G,J,I,true,by rw[bW b],λ_=>⟨x,rfl,i⟩,λh=>by cases h⟩
end
def kC (K:Nat->Prop) (r:Option (List Va)) (W:World) (e:Ending) (w':World):Prop :=
 W.grownBy w' none/\((∃xs,r=some xs/\∃a c V,e =.returned (.tuple #[.slice a xs.length c,.bool true])/\xs.length<=c/\aT (λb=>K b\/W.heap.size<=b) w' xs a V)\/(r=none/\e =.returned (.tuple #[.n0,.bool false])))
def readTs_len:∀(l:List Tr) (ts:List Ty),l.length≠ts.length->readTs l ts=none
 | [],[],h=>by simp at h
 | [],_::_,_=>by simp[readTs]
 | _::_,[],_=>by simp[readTs]
 | t::l,T::ts,h=>by
  rw[readTs]
  cases readT t T with
  | none=>rfl
  | some x=>simp[readTs_len l ts (by simpa using h)]
def iL.slice{K:Nat->Prop}{H:Nat}{w:World}{v:Value}{ts:List Va}{vs:List Value}(h:iL K H w v ts vs):∃d lc,v =.slice d vs.length lc:=by
 rcases h.own.2 with⟨rfl,c⟩|⟨g,a,b,rfl,_⟩
 .exact⟨none,0,by rw[c]⟩
 .exact⟨_,_,rfl⟩
def iL.call{K:Nat->Prop}{H:Nat}{w w':World}{v:Value}{ts:List Va}{vs:List Value}(h:iL K H w v ts vs)(c:w.grownBy w' none):iL K H w' v ts vs:=by refine⟨zp h.own c ?_,h.len,λi t u d e=>(h.lies i t u d e).same (λb o _ a=>qn (c.block b a ot))⟩;cases v.ownBlock<;>simp
def EY{w0 w:World}{b:Nat}{c d e f g i j:Value}(h:w0.grownBy w none)(a:w0.heap.size<=b):w0.grownBy (((((((w.setCell ⟨b,0,none⟩ c).setCell ⟨b,1,none⟩ d).setCell ⟨b,2,none⟩ e).setCell ⟨b,3,none⟩ f).setCell ⟨b,4,none⟩ g).setCell ⟨b,5,none⟩ i).setCell ⟨b,6,none⟩ j) none :=
 aX (aX (aX (aX (aX (aX (aX h a _ _ _) a _ _ _) a _ _ _) a _ _ _) a _ _ _) a _ _ _) a _ _ _
def PH (K:Nat->Prop) (t:Tr) (T:Ty) (wr:World) (p q:Value) (wx:World):Prop :=
 ∃b9 k n a s aa al ac ta tl tc na nl nc bb,p =.pointer (some ⟨b9,0,none⟩)/\q =.bool bb/\wx.heap[b9]?=some (.cells #[.i k,.i n,.i a,.string s,.slice aa al ac,.slice ta tl tc,.slice na nl nc] 36 (0,0))/\wr.grownBy wx none /\
  (bb=true->∃x,readT t T=some x/\aA (λb=>K b\/wr.heap.size<=b) wx x (bg k n a s aa al ac ta tl tc na nl nc))/\(bb=false->readT t T=none)
def N8{K:Nat->Prop}{t:Tr}{T:Ty}{wr f c:World}{k n a:Int}{s:ByteArray}{g:Option Addr}{al ac:Nat}{ta:Option Addr}{tl tc:Nat}{na:Option Addr}{l nc:Nat}{d:Bool}(m:wr.grownBy f none)(r:f.drew.grownBy c none)
 (h1:d=true->∃x,readT t T=some x/\aA (λb=>K b\/f.drew.heap.size<=b) c x (bg k n a s g al ac ta tl tc na l nc)) (h2:d=false->readT t T=none) :
 PH K t T wr (.pointer (some ⟨c.heap.size,0,none⟩)) (.bool d) (c.alloc (.cells #[.i k,.i n,.i a,.string s,.slice g al ac,.slice ta tl tc,.slice na l nc] 36)):=by
 refine⟨_,k,n,a,s,g,al,ac,ta,tl,tc,na,l,nc,d,rfl,rfl,qT _ _,aJ (aJ (fK m) r) (aK _),λq=>?_,h2⟩;obtain⟨x,e,p⟩:=h1 q;refine⟨x,e,(p.same (λb o _ j=>qn ((aK (w:=c) _).block b j ot))).ae (λb _ h=>?_)⟩;have:=m.size;exact h.imp id λh=>by have : f.heap.size<=b:=h;omega
def N9{K:Nat->Prop}{t:Tr}{T:Ty}{wr c g:World}{o:Obj}{k n a:Int}{s:ByteArray}{j:Option Addr}{al ac:Nat}{ta:Option Addr}{tl tc:Nat}{na:Option Addr}{p nc:Nat}{l:Bool}{x0 y z A B C D:Value}(v:∀b,K b->b<wr.heap.size)(m:wr.grownBy c none)(w:(c.drew.alloc o).grownBy g none)(d:g.heap[c.heap.size]?=some (.cells #[x0,y,z,A,B,C,D] 36 (0,0)))
 (h1:l=true->∃x,readT t T=some x/\aA (λb=>K b\/(c.drew.alloc o).heap.size<=b) g x (bg k n a s j al ac ta tl tc na p nc)) (h2:l=false->readT t T=none) :
 PH K t T wr (.pointer (some ⟨c.heap.size,0,none⟩)) (.bool l) (qW g c.heap.size (.i k) (.i n) (.i a) (.string s) (.slice j al ac) (.slice ta tl tc) (.slice na p nc)):=by
 have f:=zy g c.heap.size (.i k) (.i n) (.i a) (.string s) (.slice j al ac) (.slice ta tl tc) (.slice na p nc);refine⟨_,k,n,a,s,j,al,ac,ta,tl,tc,na,p,nc,l,rfl,rfl,wN d _ _ _ _ _ _ _,aG (aJ (aJ (fK m) (aK _)) w) f m.size,λq=>?_,h2⟩;obtain⟨x,e,u⟩:=h1 q;have hz:(c.drew.alloc o).heap.size=c.heap.size+1:=yb _ _;rw[hz]at u;refine⟨x,e,(u.same (λb o d r=>qn (f.block b r (by simp;have:=m.size;rcases d with d|d;have:=v b d;all_goals omega)))).ae (λb _ h=>?_)⟩;have:=m.size;exact h.imp id λh=>od
def yj{N:Nat}(ab:F7 N){W:World}{l:List Tr}{ts:List Ty}{la ta:Option Addr}{lc tc:Nat}{VL VT:Nat->Value}{d:Nat}{K:Nat->Prop}(ao:∀b,K b->b<W.heap.size)(hL:cK K W l la VL)(hT:dw K W ts ta VT)(hf:∀U∈ts,j5 d U=true)(hz:sizes l<=N)(cd:sizes l<=900) :
 Calls prog 188 #[.slice la l.length lc,.slice ta ts.length tc] W (kC K (readTs l ts) W):=by
 have cb:=cB l;have bp:=hT.1;unfold maxLen at bp
 by_cases y:l.length=ts.length
 .have I:Hid (∀(j:Nat) (h:j<l.length) (h2:j<ts.length) (F:World),W.grownBy F none->Calls prog 152 #[VT j,VL j] F (ou K l[j] ts[j] F)):=λj h h2 F G=>by
   have h3:(l[j]).size<=sizes l:=by have h4:=gH l j h;have h5:=jF l (j+1);omega
   exact ab.go od od ((hL.2.2 j h).same (RJ G)) ((hT.2.2 j h2).same (RJ G)) (hf _ (zj h2))
  obtain⟨HL,HT,M,ak⟩:=JT hL hT y ao;clear ab hL hT hf hz ao;rw[<-y];clear y;have aj:=jh (DC l.length od W);go_enter func188,ntmps188;go_wp2_with fail;refine aj.mono ?_;rintro e w1 ⟨bz,rfl,E,ax⟩;have bk:=jh E;have bd:=jh ax;clear E ax aj;go_wp2_with fail;go_loopw [6,21] (λlv iv wr=>∃(R:List Va) (m:List Value),iv =.i m.length/\m.length<=l.length/\iL K W.heap.size wr lv R m/\W.grownBy wr none/\readTs l ts=(readTs (l.drop m.length) (ts.drop m.length)).map (R ++ ·)) (λ_ iv _=>l.length - (intOf iv).toNat)
  case atStart=>exact⟨[],[],rfl,kB _,⟨bk,rfl,λi t u h=>by simp at h⟩,bd,ot⟩
  case round =>
   obtain⟨R,m,rfl,hj,hK,G,hr⟩:=hrel;obtain⟨ra,rc,rfl⟩:=hK.slice;have ai:=hK.len
   by_cases ae:m.length<l.length
   .have C:m.length<ts.length:=by have:=M.out;omega
    obtain⟨b,o,rfl,_,k',n',p',s',a',l',c',hv,h0,h1,h2,h3,h4⟩:=(HL.out.2.1 m.length ae).same (w':=wr) (RJ G);obtain⟨b2,o2,rfl,_,t2,a2,l2,c2,aO,e0,e1⟩:=(HT.out.2.1 m.length C).same (w':=wr) (RJ G);have ca:b<wr.heap.size:=kd wr _ h0;have O:b2<wr.heap.size:=kd wr _ e0;have ar:l.drop m.length=l[m.length]::l.drop (m.length+1):=qa5 ae;have au:ts.drop m.length=ts[m.length]::ts.drop (m.length+1):=qa5 C;have ay:∀F,wr.grownBy F none->Calls prog 152 #[bY t2 a2 l2 c2,af k' n' p' s' a' l' c'] F (ou K l[m.length] ts[m.length] F):=λF bn=>by have:=I.out m.length ae C F (aJ G bn);rw[hv,aO]at this;exact this
    have HC:=jh ay;rw[ar,au,readTs]at hr;obtain⟨HR,HK,HG,bw⟩:=JT hr hK G ai;clear ay hr ar au hK G hv aO ai;unfold bY af at HC;go_wp2_with fail;have L:=aK (w:=wr) (.cells #[.i k',.i n',.i p',.string s',.slice a' l' c'] 26);have ah:=qT wr (.cells #[.i k',.i n',.i p',.string s',.slice a' l' c'] 26);generalize wr.alloc (.cells #[.i k',.i n',.i p',.string s',.slice a' l' c'] 26)=A at *;have k1:∀f:World,A.grownBy f none->f.heap[wr.heap.size]?=_:=λf h=>(h.block _ (qq.1 ah).1 ot).trans ah;have f0:∀f:World,A.grownBy f none->f.cell? ⟨wr.heap.size,0,none⟩=some (.i k'):=λf h=>(bE (k1 f h)).1;have f1:∀f:World,A.grownBy f none->f.cell? ⟨wr.heap.size,1,none⟩=some (.i n'):=λf h=>(bE (k1 f h)).2.1;have f2:∀f:World,A.grownBy f none->f.cell? ⟨wr.heap.size,2,none⟩=some (.i p'):=λf h=>(bE (k1 f h)).2.2.1;have f3:∀f:World,A.grownBy f none->f.cell? ⟨wr.heap.size,3,none⟩=some (.string s'):=λf h=>(bE (k1 f h)).2.2.2.1;have f4:∀f:World,A.grownBy f none->f.cell? ⟨wr.heap.size,4,none⟩=some (.slice a' l' c'):=λf h=>(bE (k1 f h)).2.2.2.2;have g0:∀f:World,A.grownBy f none->f.cell? ⟨b2,o2+m.length*2,none⟩=some (.i t2):=λf h=>(qn ((aJ L h).block b2 O ot)).trans e0;have g1:∀f:World,A.grownBy f none->f.cell? ⟨b2,o2+m.length*2+1,none⟩=some (.slice a2 l2 c2):=λf h=>(qn ((aJ L h).block b2 O ot)).trans e1;have J:=jh L;clear k1 L ah h0 h1 h2 h3 h4 e0 e1;go_cut [9,10] (λp q wx=>PH K l[m.length] ts[m.length] wr p q wx)
    case first =>
     go_region_held3 (λw'=>A.grownBy w' none) (first|with_reducible assumption|with_reducible exact EY oS (qv _)|with_reducible exact aJ oS (aK _)|with_reducible exact fK (bM _ _)|with_reducible exact fK (aK _)) (first
      | (go_at_call 152;refine (HC _ (aJ J oS)).mono ?_;rintro e w2 z;obtain⟨v,kk,nn,aa,ss,xa,xl,xc,ya,yl,yc,za,zl,zc,bb,rfl,r,n⟩:=z;have Z:=jh r;have Y:=jh n;have T:=jh v;have hS:=aJ oS v;have s:w2.heap[A.heap.size]?=some (.cells #[.i 0,.i 0,.i 0,.string ⟨#[]⟩,.n0,.n0,.n0] 36 (0,0)):=(v.block _ ot ot).trans (qT A.drew _);obtain⟨v0,v1,v2,v3,v4,v5,v6⟩:=cO s;have fz:=qD s;have ba:=jh s;clear r n v s f0 f1 f2 f3 f4 g0 g1;unfold bg)
      | (go_at_call 152;refine (HC _ (aJ J oS)).mono ?_;rintro e w2 z;obtain⟨v,kk,nn,aa,ss,xa,xl,xc,ya,yl,yc,za,zl,zc,bb,rfl,r,n⟩:=z;have Z:=jh r;have Y:=jh n;have T:=jh v;have hS:=aJ oS v;clear r n v f0 f1 f2 f3 f4 g0 g1;unfold bg))
     all_goals
      go_wp2_with fail;go_meet
      first
      | with_reducible exact N8 J.out T.out Z.out Y.out
      | exact N9 (λb hb=>jz (ak b hb) HG.size) J T ba Z Y
    case rest =>
     obtain⟨b9,kk,nn,aa,ss,xa,xl,xc,ya,yl,yc,za,zl,zc,bb,rfl,rfl,s,B,r,n⟩:=hcut;obtain⟨v0,v1,v2,v3,v4,v5,v6⟩:=cO s
     cases bb with
     | false =>
      have D:readTs l ts=none:=by have h:=HR.out;rw[n rfl]at h;exact h
      have HN:=jh D;have H:=jh (aJ HG B);clear D B r n s f0 f1 f2 f3 f4 g0 g1 HR HC I;go_wp2_with fail;go_ret2;exact⟨H,.inr ⟨HN,rfl⟩⟩
     | true =>
      obtain⟨x,hx,aq⟩:=r rfl;have aE:readTs l ts=(readTs (l.drop (m.length+1)) (ts.drop (m.length+1))).map (R++[x] ++ ·):=by have h:=HR.out;rw[hx]at h;rw[h];cases readTs (l.drop (m.length+1)) (ts.drop (m.length+1))<;>simp
      obtain⟨bm,H,bj,X⟩:=JT aE (aJ HG B) aq (HK.call B);have bl:Hid (∀k,(Value.slice ra m.length rc).ownBlock=some k->k<wr.heap.size):=λk hk=>(kp HK.own k hk).2;have br:W.heap.size<=wc.heap.size:=H.out.size;have bq:W.heap.size<=wr.heap.size:=HG.out.size;clear aE aq hx B r n s f0 f1 f2 f3 f4 g0 g1 HR HC I;go_wp2_with (at_builtin;refine V7 W.heap.size m kk nn aa ss xa xl xc ya yl yc za zl zc wc (.slice ra m.length rc) rfl (.tmp 37) (.tmp 39) rfl rfl rfl rfl X.own br od ?_;intro g bx A aC ad;have bh:=jh (X.push (S:=wr.heap.size) ak bq bl bj ad aC);have bf:=jh (dX H X.own (qv _) ad.1);clear aC ad);refine⟨⟨R++[x],m++[bg kk nn aa ss xa xl xc ya yl yc za zl zc],ot,oB,?_,bf,?_⟩,vj⟩
      .have h:=bh.out;simpa using h
      .have h:=bm.out;simpa using h
   .have bo:m.length=l.length:=by omega
    have P:readTs l ts=some R:=by have h2:=M.out;rw[hr,jc6 od,jc6 od,readTs];simp
    have az:R.length<=maxLen:=oT
    obtain⟨a,c,V,hv,hc,Q⟩:=hK.done az;obtain⟨HE,an,HG,HV,bc⟩:=wg P Q G hv hc;have bt:¬(m.length:Int)<(l.length:Int):=od
    clear P Q G hv hc hr hK bo I az ai;go_wp2_with fail;go_ret2;exact⟨HG,.inl ⟨R,HE,a,c,V,by rw[HV.out];rfl,bc,an⟩⟩
 .have hn:=readTs_len l ts y;have HN:=jh hn;have hb:((l.length:Int)==(ts.length:Int))=false:=by simpa using (by omega:¬(l.length:Int)=ts.length)
  clear ab hL hT hf hn;have cc:¬(l.length:Int)=(ts.length:Int):=od
  clear y;go_enter func188,ntmps188;go_wp2_with fail;go_ret2;exact⟨bM _ _,.inr ⟨HN,rfl⟩⟩
def bI.yX{ok:Nat->Prop}{w:World}{t:Tr}{u:Value}(h:bI ok w t u):∃a c V,u=Go.Proofs.YtgfdimkbfnpepaaGreat.af t.k0 t.n0 t.p0 t.s0 a t.args0.length c/\(bD t.k0/\bD t.n0/\bD t.p0/\t.s0.size<=maxLen)/\cK ok w t.args0 a V:=by
 cases h with
 | mk V d f i g j b e=>exact⟨_,_,V,rfl,⟨i,g,j,f⟩,d,b,e⟩
def H8(t:Tr)(l:List Tr)(ts:List Ty):readEs (t::l) ts=match readTs t.args0 ts with
 | none=>none
 | some a=>if t.p0=28 then (readEs l ts).map (fM 11 0 ⟨#[]⟩ a :: ·)else none:=by
 cases t;rw[readEs];rfl
def bZ{w:World}{b:Nat}{o:Obj}(h:w.heap[b]?=some o):b<w.heap.size:=(qq.1 h).1
def IG(t:Tr):t.size=sizes t.args0+1:=by cases t;rw[Tr.size];rfl
def oJ{ok:Nat->Prop}{w:World}{k n:Int}{s:ByteArray}{ys:List Va}{a:Option Addr}{c:Nat}{V:Nat->Value}(g:bD k)(f:bD n)(e:s.size<=maxLen)(b:aT ok w ys a V)(d:ys.length<=c):aA ok w (fM k n s ys) (bg k n 0 s a ys.length c none 0 0 none 0 0) :=
 aA.of (types:=[]) (code:=[]) (VT:=λ_=>.i 0) (VN:=λ_=>.i 0) d e g f ⟨od,od⟩ b (dw.nil _ _ _ _) (cK.nil _ _ _ _)
def Fj{N:Nat}(ah:F7 N){W:World}{T:Ty}{tv:Value}{l:List Tr}{la:Option Addr}{lc:Nat}{VL:Nat->Value}{d:Nat}{K:Nat->Prop}(L:∀b,K b->b<W.heap.size)(ai:aH K W T tv)(hL:cK K W l la VL)(hf:∀U∈T.args,j5 d U=true)(hz:sizes l<=N)(bt:sizes l<=900) :
 Calls prog 189 #[tv,.slice la l.length lc] W (kC K (readEs l T.args) W):=by
 obtain⟨ta,tc,VT,rfl,it,hT⟩:=ai.inv;have bq:=cB l;have bh:=hT.1;unfold maxLen at bh;have x:Hid (∀(j:Nat) (h:j<l.length),∃a c,VL j=af l[j].k0 l[j].n0 l[j].p0 l[j].s0 a l[j].args0.length c/\∀(A:World),W.grownBy A none->Calls prog 188 #[.slice a l[j].args0.length c,.slice ta T.args.length tc] A (kC K (readTs l[j].args0 T.args) A)):=λj h=>by
  have h3:(l[j]).size<=sizes l:=by have h4:=gH l j h;have h5:=jF l (j+1);omega
  have h6:=IG l[j];obtain⟨a,c,V,e,_,hR⟩:=(hL.2.2 j h).yX;exact⟨a,c,e,λA B=>yj ah (λb hb=>jz (L b hb) B.size) (hR.same (RJ B)) (hT.same (RJ B)) hf od od⟩
 have HL:=jh hL;have ad:=qT W (.cells #[.i T.t,.slice ta T.args.length tc] 54);have ar:=jh ad;have aC:=jh L;clear ah hL hT hf hz ai it ad L;unfold bY;go_enter func189,ntmps189;go_wp2_with fail;go_loopw [6,13] (λlv iv wr=>∃(H:List Va) (m:List Value),iv =.i m.length/\m.length<=l.length/\iL K W.heap.size wr lv H m/\W.grownBy wr none/\wr.heap[W.heap.size]?=some (.cells #[.i T.t,.slice ta T.args.length tc] 54 (0,0))/\readEs l T.args=(readEs (l.drop m.length) T.args).map (H ++ ·)) (λ_ iv _=>l.length - (intOf iv).toNat)
 case atStart=>exact⟨[],[],rfl,kB _,⟨qa2 _ _ _ _,rfl,λi t u h=>by simp at h⟩,aK _,ar,ot⟩
 case round =>
  obtain⟨H,m,rfl,hj,X,B,r,Y⟩:=hrel;obtain⟨ra,rc,rfl⟩:=X.slice;have O:=X.len
  by_cases M:m.length<l.length
  .obtain⟨ca,cc,D,y⟩:=x.out m.length M;obtain⟨b,o,rfl,_,k',n',p',s',a',l',c',hv,h0,h1,h2,h3,h4⟩:=(HL.out.2.1 m.length M).same (w':=wr) (RJ B);have bo:b<wr.heap.size:=kd wr _ h0;have aj:l.drop m.length=l[m.length]::l.drop (m.length+1):=qa5 M;rw[aj,H8]at Y;rw[hv]at D;unfold af at D;simp only[qb3,qc1,xj,qg5,ke,true_and,and_true]at D;obtain⟨-,-,ep,-,rfl,el,rfl⟩:=D;rw[<-ep]at Y;have ak:∀A,wr.grownBy A none->Calls prog 188 #[.slice a' l' c',.slice ta T.args.length tc] A (kC K (readTs l[m.length].args0 T.args) A):=λA bc=>by
    have:=y A (aJ B bc);rw[<-el]at this;exact this
   have bp:=bZ r;have q0:=xq r;have q1:=wy r;obtain⟨HC,R,HK,Q,bm,Z,J,aa⟩:=wj ak Y X B O r (qT wr (.cells #[.i k',.i n',.i p',.string s',.slice a' l' c'] 26)) (aK (w:=wr) (.cells #[.i k',.i n',.i p',.string s',.slice a' l' c'] 26));generalize readTs l[m.length].args0 T.args=rr at *;clear ak Y aj X B hv O y ep el r;go_wp2_with fail;refine (HC _ aa).mono ?_;rintro e w3 ⟨z,hw⟩;have F:=(z.block _ (bZ J) ot).trans J;obtain⟨m0,m1,m2,m3,m4⟩:=bE F;have v:=jh (aJ aa z);rcases hw with⟨ys,rfl,ya,yc,V,rfl,P,p⟩|⟨rfl,rfl⟩
   .by_cases hp:p'=28
    .subst hp;have aq:readEs l T.args=(readEs (l.drop (m.length+1)) T.args).map (H++[fM 11 0 ⟨#[]⟩ ys] ++ ·):=by
      rw[R.out];simp only[if_true];cases readEs (l.drop (m.length+1)) T.args<;>simp
     obtain⟨bb,aO,q,C,I⟩:=wg aq (oJ (k:=11) (n:=0) (s:=⟨#[]⟩) ⟨od,od⟩ ⟨od,od⟩ (kB _) (p.ae (ok':=λb=>K b\/wr.heap.size<=b) (λb _ hb=>hb.imp id λhb=>by have h9:(wr.alloc (.cells #[.i k',.i n',.i 28,.string s',.slice a' l' c'] 26)).heap.size<=b:=hb;rw[yb]at h9;show wr.heap.size<=b;omega)) P) (aJ Q v) (HK.call v) ((v.block _ (bZ Z) ot).trans Z);have ba:Hid (∀k,(Value.slice ra m.length rc).ownBlock=some k->k<wr.heap.size):=λk hk=>(kp HK.own k hk).2;have bk:W.heap.size<=w3.heap.size:=q.out.size;have bj:W.heap.size<=wr.heap.size:=Q.out.size;have ax:Hid (∀(w5:World) (v5:Value),Gr w3 (.slice ra m.length rc) w5 v5->w5.heap[W.heap.size]?=some (.cells #[.i T.t,.slice ta T.args.length tc] 54 (0,0))):=λw5 v5 bd=>(bd.block (bZ I) (aD C.own I ov)).trans I;clear aq p z P F R HC x J;go_wp2_with (at_builtin;refine V7 W.heap.size m 11 0 0 ⟨#[]⟩ ya ys.length yc none 0 0 none 0 0 w3 (.slice ra m.length rc) rfl (.tmp 32) (.tmp 35) rfl rfl rfl rfl C.own bk od ?_;intro g bn w5 ao E;have au:=jh (ax w5 _ E);have aE:=jh (C.push (S:=wr.heap.size) aC bj ba aO E ao);have az:=jh (dX q C.own (qv _) E.1);clear ao E);refine⟨⟨H++[fM 11 0 ⟨#[]⟩ ys],m++[bg 11 0 0 ⟨#[]⟩ ya ys.length yc none 0 0 none 0 0],ot,oB,?_,az,au,?_⟩,vj⟩
     .have h:=aE.out;simpa using h
     .have h:=bb.out;simpa using h
    .have f:readEs l T.args=none:=by
      rw[R.out];simp[hp]
     have HN:=jh f;have q:=jh (aJ Q v);have br:(p'==28)=false:=by simpa using hp
     clear f p z P F R HC x hp;go_wp2_with fail;go_ret2;exact⟨q,.inr ⟨HN,rfl⟩⟩
   .have f:readEs l T.args=none:=R.out;have HN:=jh f;have q:=jh (aJ Q v);clear f z F R HC x;go_wp2_with fail;go_ret2;exact⟨q,.inr ⟨HN,rfl⟩⟩
  .have bf:m.length=l.length:=by omega
   have G:readEs l T.args=some H:=by rw[Y,jc6 od,readEs];simp
   have an:H.length<=maxLen:=oT
   obtain⟨a,c,V,hv,hc,p⟩:=X.done an;obtain⟨HE,ab,Q,HV,ay⟩:=wg G p B hv hc;have bl:¬(m.length:Int)<(l.length:Int):=od
   clear G p B hv hc Y X bf x an O r;go_wp2_with fail;go_ret2;exact⟨Q,.inl ⟨H,HE,a,c,V,by rw[HV.out];rfl,ay,ab⟩⟩
open Pe
def eachA:Option (List Va)->AV
 | some xs=>.rz [qi xs,bA true]
 | none=>.rz [nilA,bA false]
def UN{K ok:Nat->Prop}{W w':World}{e:Ending}{r:Option (List Va)}(hk:∀b,K b->ok b)(h:kC K r W e w'):W.grownBy w' none/\∃v,e =.returned v/\iZ (λ_=>none) (λb=>ok b\/W.heap.size<=b) w' (eachA r) v:=by
 obtain⟨d,⟨i,rfl,a,c,V,rfl,g,f⟩|⟨rfl,rfl⟩⟩:=h
 .exact⟨d,_,rfl,[_,_],rfl,yu (f.ae λb _ h=>h.imp (hk b) id) g,.v _,trivial⟩
 .exact⟨d,_,rfl,[_,_],rfl,PI _ _ (.n0),.v _,trivial⟩
def ZY{N:Nat}(hN:F7 N){l:List Tr}{ts:List Ty}{n d:Nat}(q:n=2\/ts=[])(p:okNs l)(r:okTs ts)(o:∀U∈ts,j5 d U=true)(hz:sizes l<=N)(j:sizes l<=900):Hd ⟨188,[CW l,.one (.d (.s n (tysD ts)))],eachA (readTs l ts)⟩:=⟨bK func188,λok w t h=>by
 match t,h with
 | [u,v],⟨g,i,_⟩ =>
  obtain⟨a,c,V,rfl,_,m⟩:=xU p (.inl rfl) g;obtain⟨b,y,x,rfl,_,k⟩:=jR r q i;exact (yj hN (K:=λb=>ok b/\b<w.heap.size) (λb h=>h.2) (m.ae λb f h=>⟨h,f⟩) (k.ae λb f h=>⟨h,f⟩) o hz j).mono λe z h=>UN (λb h=>h.1) h⟩
def aac{N:Nat}(hN:F7 N){l:List Tr}{T:Ty}{d:Nat}(o:okNs l)(k:okT T)(n:∀U∈T.args,j5 d U=true)(hz:sizes l<=N)(j:sizes l<=900):Hd ⟨189,[tyA T,CW l],eachA (readEs l T.args)⟩:=⟨bK func189,λok w p h=>by
 match p,h with
 | [u,v],⟨g,i,_⟩ =>
  obtain⟨a,c,V,rfl,_,m⟩:=xU o (.inl rfl) i;exact (Fj hN (K:=λb=>ok b/\b<w.heap.size) (λb h=>h.2) ((jC k g).ae λb f h=>⟨h,f⟩) (m.ae λb f h=>⟨h,f⟩) n hz j).mono λe q h=>UN (λb h=>h.1) h⟩
def ZZ{T:Ty}{n:Nat}(B:okT T)(D:n<1000):Hd ⟨181,[dZ [T],iA n],.of (dZ (List.replicate n T))⟩:=⟨bK func181,λok w F h=>by
 match F,h with
 | [u,v],⟨z,A,_⟩ =>
  obtain⟨a,c,V,rfl,_,q⟩:=jR (ts:=[T]) ⟨B,trivial⟩ (.inl rfl) z;obtain rfl:=bW A;obtain⟨b,o,rfl,_,m,d,l,f,k,x,y⟩:=q.2.1 0 ot;have p:=q.2.2 0 ot;rw[k]at p;refine (Rw m d l f b o n c D w (by simpa using x) (by simpa using y)).mono ?_;rintro e G ⟨g,rfl,C,⟨t,s,J,K,E⟩,r⟩;have hR:dw (λb=>ok b\/w.heap.size<=b) G (List.replicate n T) (some ⟨g,0,none⟩) (λ_=>bY m d l f):=by
   refine⟨by simp[maxLen];omega,λi j=>?_,λi j=>?_⟩
   .rw[List.length_replicate]at j;obtain⟨H,I⟩:=E i j;refine⟨g,0,rfl,.inr C,m,d,l,f,rfl,?_,?_⟩<;>rw[qa4]
    .simp[World.cell?,s,H]
    .simp[World.cell?,s,I]
   .rw[List.getElem_replicate];exact (aH.same p (RJ r)).ae λb _ h=>.inl h
  have:=(qV (c:=n) hR ot).2;rw[List.length_replicate]at this;exact⟨r,_,rfl,this⟩⟩
def Pe.Holds.aaa{f:FuncId}{args:List A1}{k n:Int}{s:ByteArray}{i:Nat}{al:List Va}(h:Hd ⟨f,args,.rz [.agg [.d (.v (.i k)),.d (.v (.i n)),.d (.v (.i 0)),.d (.v (.string s)),.d (.s i (vasD al)),.d (.s 0 []),.d (.s 0 [])],bA true]⟩)(c:i=7\/al=[]):Hd ⟨f,args,.rz [pF (fM k n s al),bA true]⟩:=h.conv (λ_ _ _ h=>h) λok w v h=>by
 obtain⟨z,e,j⟩:=h
 match z,j with
 | [x,y],⟨⟨u,b,q⟩,g,_⟩ =>
  subst b
  match u,q with
  | [A,B,C,D,E,F,G],⟨l,m,o,p,a,r,t,_⟩ =>
   refine⟨_,e,⟨_,rfl,l,m,o,p,?_,gG r,gG t,trivial⟩,g,trivial⟩;rcases c with rfl|rfl
   .exact a
   .exact gG a
def Od{N:Nat}(hN:F7 N):F7 (N+1):=by
 intro S T d hz R J F K;obtain⟨k,n,p,s,l⟩:=S;obtain⟨u,j⟩:=jU K;have Q:Tr.size (.nd k n p s l)=sizes l+1:=by rw[Tr.size]
 have O:=cB l;have B:=O3 K p;obtain⟨t,c⟩:=T;simp only[Ty.t,Ty.args]at u j;have o:∀{a b:Int},a≠b->jJ (decide (a=b)) false:=λh=>eT (jc2 h);have M:t=3\/t=4\/t=5\/t=7->Hd ⟨152,[tyA (.nd t c),ndA (.nd k n p s l)],.rz [.agg [.d (.v (.i t)),.d (.v (.i n)),.d (.v (.i 0)),.d (.v (.string ⟨#[]⟩)),.d (.s 0 []),.d (.s 0 []),.d (.s 0 [])],bA (decide (k=0))]⟩:=by rintro (rfl|rfl|rfl|rfl)<;>exact aF func152 []
 by_cases r:t=3\/t=4\/t=5\/t=7
 .have H:=M r;rw[readT,if_pos (by simpa[Ty.t]using r)]
  by_cases f:k=0
  .rw[jf0 f]at H;rw[if_pos f];exact⟨0,s,H.aaa (al:=[]) (.inr rfl)⟩
  .rw[jc2 f]at H;rw[if_neg f];exact⟨n,_,H⟩
 by_cases G:t=6
 .subst G;have H:Hd ⟨152,[tyA (.nd 6 c),ndA (.nd k n p s l)],.rz [.agg [.d (.v (.i 6)),.d (.v (.i 0)),.d (.v (.i 0)),.d (.v (.string s)),.d (.s 0 []),.d (.s 0 []),.d (.s 0 [])],bA (decide (k=1))]⟩:=aF func152 [];rw[readT,if_neg (by simp[Ty.t]),if_pos (show (Ty.nd 6 c).t=6 from rfl)]
  by_cases f:k=1
  .rw[jf0 f]at H;rw[if_pos f];exact⟨0,s,H.aaa (al:=[]) (.inr rfl)⟩
  .rw[jc2 f]at H;rw[if_neg f];exact⟨0,_,H⟩
 by_cases y:t=10
 .subst y;rw[readT,if_neg (by simp[Ty.t]),if_neg (by simp[Ty.t]),if_pos (show (Ty.nd 10 c).t=10 from rfl)]
  by_cases f:k=3
  .subst f;rw[if_pos rfl];obtain⟨A,rfl⟩:=jc5.1 (show c.length=1 by simp[bT]at u;omega);have e:(ndsD l).length=l.length:=by simp[ndsD_map]
   have hR:=ZZ (T:=A) (n:=(ndsD l).length) F.2.1 od;have g:=ZY hN (l:=l) (ts:=List.replicate (ndsD l).length A) (n:=2) (d:=d+1) (.inl rfl) J.2 (okTs_at.2 λU C=>by rw[qf7 C];exact F.2.1) (λU C=>by rw[qf7 C];exact j A ot) od od;rw[show List.replicate l.length (bB (Ty.nd 10 [A]).args 0)=List.replicate (ndsD l).length A by rw[e];rfl]
   cases w:readTs l (List.replicate (ndsD l).length A)with
   | none =>
    rw[w]at g;exact⟨0,⟨#[]⟩,aF func152 [⟨_,hR⟩,⟨_,g⟩]⟩
   | some E =>
    rw[w]at g;exact⟨0,⟨#[]⟩,Holds.aaa (i:=7) (al:=E) (aF func152 [⟨_,hR⟩,⟨_,g⟩]) (.inl rfl)⟩
  .rw[if_neg f];exact⟨0,⟨#[]⟩,runT func152 [(55,bA false)] [] (al (o f) al0)⟩
 by_cases z:t=13
 .subst z;rw[readT,if_neg (by simp[Ty.t]),if_neg (by simp[Ty.t]),if_neg (by simp[Ty.t]),if_pos (show (Ty.nd 13 c).t=13 from rfl)]
  by_cases f:k=3
  .subst f;rw[if_pos rfl];have g:=aac hN (l:=l) J.2 F j od od
   cases w:readEs l (Ty.nd 13 c).args with
   | none =>
    rw[w]at g;exact⟨0,⟨#[]⟩,aF func152 [⟨_,g⟩]⟩
   | some E =>
    rw[w]at g;exact⟨0,⟨#[]⟩,Holds.aaa (i:=7) (al:=E) (aF func152 [⟨_,g⟩]) (.inl rfl)⟩
  .rw[if_neg f];exact⟨0,⟨#[]⟩,runT func152 [(73,bA false)] [] (al (o f) al0)⟩
 rw[readT,if_neg (by exact r),if_neg (by exact G),if_neg (by exact y),if_neg (by exact z)];simp only[not_or]at r;have D:=al (o r.1) (al (o r.2.1) (al (o r.2.2.1) (al (o r.2.2.2) (al (o G) (al (o y) (al (o z) al0))))))
 cases I:dL (.nd t c) p with
 | none =>
  rw[I]at B;exact⟨0,⟨#[]⟩,runT func152 [(33,fA),(34,fA),(35,fA),(36,fA),(44,fA),(52,fA),(70,fA)] [⟨_,B⟩] D⟩
 | some q =>
  obtain⟨m,x⟩:=q;rw[I]at B;have L:=M7 I;have g:=λ{n:Nat} P=>ZY hN (l:=l) (ts:=x) (n:=n) (d:=d+1) P J.2 (okTs_at.2 λU C=>okTs_at.1 F.2 U (L U C)) (λU C=>j U (L U C)) od od;dsimp only
  cases w:readTs l x with
  | none =>
   rw[w]at g;refine⟨m,⟨#[]⟩,?_⟩
   cases x with
   | nil=>exact runT func152 [(33,fA),(34,fA),(35,fA),(36,fA),(44,fA),(52,fA),(70,fA)] [⟨_,B⟩,⟨_,g (n:=0) (.inr rfl)⟩] D
   | cons A x=>exact runT func152 [(33,fA),(34,fA),(35,fA),(36,fA),(44,fA),(52,fA),(70,fA)] [⟨_,B⟩,⟨_,g (n:=2) (.inl rfl)⟩] D
  | some E =>
   rw[w]at g;refine⟨0,⟨#[]⟩,Holds.aaa (i:=7) (al:=E) ?_ (.inl rfl)⟩
   cases x with
   | nil=>exact runT func152 [(33,fA),(34,fA),(35,fA),(36,fA),(44,fA),(52,fA),(70,fA)] [⟨_,B⟩,⟨_,g (n:=0) (.inr rfl)⟩] D
   | cons A x=>exact runT func152 [(33,fA),(34,fA),(35,fA),(36,fA),(44,fA),(52,fA),(70,fA)] [⟨_,B⟩,⟨_,g (n:=2) (.inl rfl)⟩] D
def read_all:∀N,F7 N
 | 0=>λt _ _ h=>by have:=size_pos t;omega
 | N+1=>Od (read_all N)
mutual
def encTr:Tr->List UInt8
 | .nd k n p s args=>k.toNat.toUInt8::(if k=0 then pE n else if k=1 then pE s.size++s.data.toList else if k=2 then p.toNat.toUInt8::(pE args.length++encTrs args)else pE args.length++encTrs args)
def encTrs:List Tr->List UInt8
 | []=>[]
 | t::ts=>encTr t++encTrs ts
end
def vV(a b:List Tr):encTrs (a++b)=encTrs a++encTrs b:=by
 induction a with
 | nil=>simp[encTrs]
 | cons t d c=>simp[encTrs,c]
def yP(l:List Tr)(i:Nat)(h:i<l.length):encTrs (l.take (i+1))=encTrs (l.take i)++encTr l[i]:=by rw[ur h,vV];simp[encTrs]
def Ab(l:List Tr)(i:Nat):(encTrs (l.take i)).length<=(encTrs l).length:=by have h:=vV (l.take i) (l.drop i);rw[qc4]at h;rw[h];simp
def nJ (B:Nat) (w:World) (vb:Value) (l:List UInt8) (e:Ending) (w':World):Prop:=∃v',e =.returned v'/\om B w' v' l/\Gr w vb w' v'
def VU (B:Nat) (w0:World) (v:Value) (t:Tr):Prop:=∀(xs:List UInt8) (vb:Value) (w2:World),Below B w0 w2->om B w2 vb xs->xs.length+(encTr t).length<=1000000 ->
 Calls prog 214 #[vb,v] w2 (nJ B w2 vb (xs++encTr t))
def BZ{B:Nat}{w0:World}{args:List Tr}{a:Option Addr}{c:Nat}(V:Nat->Value)(D:B<=w0.heap.size)(L:∀i,i<args.length->ky (· < B) w0 a i (V i))(K:∀i (h:i<args.length),VU B w0 (V i) args[i])
 (xs:List UInt8) (vb:Value) (w2:World) (f:Below B w0 w2) (hown:om B w2 vb xs) (hlen:xs.length+(pE args.length++encTrs args).length<=1000000) (hal:args.length<=1000000) :
 Calls prog 222 #[vb,.slice a args.length c] w2 (nJ B w2 vb (xs++(pE args.length++encTrs args))):=by
 obtain⟨S,HI,G⟩:=we L K f;have l:B<=w2.heap.size:=kh D f.size;have W:=jh hown;have H:=jh (Jg B args.length ⟨od,od⟩ od vb xs w2 hown l od);rw[qS]at hlen;clear L K f hown;go_enter func222,ntmps222;go_wp2_with fail;refine H.out.mono ?_;rintro e w3 ⟨v3,rfl,d,q⟩;have A:=jh d;have y:=jh q;clear d q H;go_wp2_with fail;go_loopw [0,13] (λv i wr=>∃j:Nat,j<=args.length/\i =.i j/\om B wr v (xs++pE args.length++encTrs (args.take j))/\Gr w2 vb wr v) (λ_ i _=>args.length - (intOf i).toNat)
 case atStart=>exact⟨0,kB _,rfl,by simpa[encTrs]using A.out,y.out⟩
 case round =>
  obtain⟨j,hj,rfl,n,s⟩:=hrel;have f:=s.below W.out l
  by_cases m:j<args.length
  .have X:=(S.out j m).same (Same.below (G.out.trans f));obtain⟨b,o,rfl,Y,N,P,Q,R,I,O,J,M,Z,e1,e2,e3,e4⟩:=X;have p:=yP args j m;have E:=Ab args (j+1);have u:=congrArg List.length p;rw[qS]at u;have F:B<=wr.heap.size:=kh l f.size;have x:=HI.out j m (xs++pE args.length++encTrs (args.take j)) u0 (wr.alloc (.cells #[.i N,.i P,.i Q,.string R,.slice I O J] 26))
    ((G.out.trans f).alloc F _) (xo n _) (by simp only[qS];omega)
   rw[M]at x;unfold af at x;obtain⟨U,C,z⟩:=we x p (s.alloc (.cells #[.i N,.i P,.i Q,.string R,.slice I O J] 26));clear x p f s n M E u;go_wp2_with fail;refine U.out.mono ?_;rintro e w4 ⟨v4,rfl,w,r⟩;have k:=jh w;have g:=jh r;clear w r;go_wp2_with fail;go_roundw
   case rel=>exact⟨j+1,od,OF,by rw[C.out,<-ub];exact k.out,z.out.trans g.out⟩
   case measure=>simp[intOf];omega
  .have t:j=args.length:=by omega
   obtain⟨k,g,T⟩:=we n s t;clear n f s t;go_wp2_with fail;go_ret;have n:=k.out;rw[T.out,qe2,ub]at n;exact⟨_,rfl,n,g.out⟩
def CG{k n p:Int}{s:ByteArray}{l:Nat}(h:Lf.fD k n p s l=0):(0<=k/\k<=3)/\(k=2->Lf.gD p=true)/\Lf.qM k n p s l=false/\(-1152921504606846976<=n/\n<=1152921504606846976)/\s.size<=200:=by
 unfold Lf.fD at h
 by_cases a:Lf.rP k=false
 .simp[a]at h
 rw[if_neg a]at h
 by_cases b:k=2/\Lf.gD p=false
 .simp[b]at h
 rw[if_neg b]at h
 by_cases c:Lf.qM k n p s l=true
 .simp[c]at h
 rw[if_neg c]at h
 by_cases d:n < -1152921504606846976\/1152921504606846976<n
 .rw[if_pos d]at h;omega
 rw[if_neg d]at h
 by_cases f:200<s.size
 .rw[if_pos f]at h;omega
 refine⟨by simpa[Lf.rP]using a,λe=>?_,by simpa using c,od,od⟩;simpa[e]using b
def zP{d:Nat}{k n p:Int}{s:ByteArray}{args:List Tr}(h:bC d (.nd k n p s args)=0):d<=24/\Lf.fD k n p s args.length=0/\bG (d+1) args=0:=by
 rw[bC]at h
 by_cases b:24<d
 .rw[if_pos b]at h;omega
 rw[if_neg b]at h
 by_cases a:Lf.fD k n p s args.length=0
 .rw[if_neg (by simpa using a)]at h;exact⟨od,a,h⟩
 .rw[if_pos a]at h;exact absurd h a
def rJ{d:Nat}{args:List Tr}(h:bG d args=0):∀t∈args,bC d t=0:=by
 induction args with
 | nil=>simp
 | cons t e c =>
  rw[bG]at h
  by_cases a:bC d t=0
  .rw[if_neg (by simpa using a)]at h;intro x b;rcases xb.1 b with rfl|b
   .exact a
   .exact c h x b
  .rw[if_pos a]at h;exact absurd h a
def BS{p:Int}(h:Lf.gD p=true):1<=p/\p<=95:=by simp[Lf.gD]at h;omega
def Nh(t:Tr):1<=(encTr t).length:=by cases t;simp[encTr]
def BB(l:List Tr):l.length<=(encTrs l).length:=by
 induction l with
 | nil=>simp
 | cons t b a=>have:=Nh t;simp[encTrs];omega
def IJ(k:Int)(a:0<=k)(b:k<=255):k=(k.toNat.toUInt8).toNat:=by rw[show k.toNat.toUInt8.toNat=k.toNat % 256 from rfl,jf2 od];omega
def nJ.mk{B:Nat}{w w':World}{b v':Value}{l a:List UInt8}(e:om B w' v' a)(c:Gr w b w' v')(d:a=l):nJ B w b l (.returned v') w':=by subst d;exact⟨v',rfl,e,c⟩
def H5{B:Nat}{w0:World}{t:Tr}{v:Value}(P:B<=w0.heap.size)(hL:bI (· < B) w0 t v):∀d,bC d t=0->VU B w0 v t:=by
 induction hL with
 | @mk k n p s args a c _ V hl hS ik iN ip S hr T =>
  intro d W y M q G g j;obtain⟨hd,Y,A⟩:=zP W;obtain⟨Z,X,hm,hN,hs⟩:=CG Y;have U:B<=q.heap.size:=kh P G.size;have C:some q.heap.size≠M.ownBlock:=λe=>by have:=(kp g _ e.symm).2;omega
  rcases (show k=0\/k=1\/k=2\/k=3 from by omega)with rfl|rfl|rfl|rfl
  .have H:encTr (.nd 0 n p s args)=(0:Int).toNat.toUInt8::pE n:=by simp[encTr]
   rw[H]at j|-;unfold af;have O:=jh (IJ 0 od od);have HO:=jh g;simp only[jn]at j;clear W Y A hm S hr T G g H Z X;generalize (0:Int).toNat.toUInt8=u at *;go_enter func214,ntmps214;go_wp2_with (first
    | (at_builtin;refine app1 B y u _ (q.alloc (.cells #[.i 0,.i n,.i p,.string s,.slice a args.length c] 26)) M rfl _ _ rfl rfl rfl ot O (xo HO _) oB od ?_;intro R N b f;obtain⟨b0,b1,b2,b3,b4⟩:=bE ((f.block (k:=q.heap.size) ot C).trans (qT _ _));have x:=f.1.size;have r:=jh b;have m:=jh f;clear b f))
   simp at x;refine (Jg B n iN od R (y++[u]) N r od oB).mono ?_;rintro e w3 ⟨v3,rfl,I,l⟩;have E:=jh I;have z:=jh l;clear I l;go_wp2_with fail;go_ret;exact nJ.mk E (((Gr.refl _ _).alloc _).trans (m.trans z)) ot
  .have H:encTr (.nd 1 n p s args)=(1:Int).toNat.toUInt8::(pE s.size++s.data.toList):=by simp[encTr]
   rw[H]at j|-;unfold af;simp only[jn,qS]at j;have O:=jh (IJ 1 od od);have HO:=jh g;clear W Y A hm S hr T G g H Z X;generalize (1:Int).toNat.toUInt8=u at *;go_enter func214,ntmps214;go_wp2_with (first
    | (at_builtin;refine app1 B y u _ (q.alloc (.cells #[.i 1,.i n,.i p,.string s,.slice a args.length c] 26)) M rfl (.tmp 5) _ rfl rfl rfl ot O (xo HO _) oB od ?_;intro R N b f;obtain⟨b0,b1,b2,b3,b4⟩:=bE ((f.block (k:=q.heap.size) ot C).trans (qT _ _));have x:=f.1.size;simp at x;have r:=jh b;have m:=jh f;clear b f))
   have HN:=jh (λw'=>Jg B s.size ⟨od,od⟩ od R (y++[u]) w');go_region_law (first
    | (refine Ai B (y++[u]++pE s.size) s _ v3 rfl (.tmp 25) (.tmp 27) rfl rfl rfl E Kx Kx od ?_;intro v4 w4 L o;have F:=jh L;have D:=jh o;clear L o)
    | (go_simp;go_at_call 221;refine (HN N.drew r.drew oB oB).mono ?_;rintro e w3 ⟨v3,rfl,I,l⟩;have w:=m.out.trans l.QY;obtain⟨e0,e1,e2,e3,e4⟩:=bE ((w.block (k:=q.heap.size) ot C).trans (qT _ _));have ad:=l.1.size;simp at ad;have E:=jh I;have z:=jh w;clear I l w))
   all_goals
    go_wp2_with fail;go_ret;exact nJ.mk F (((Gr.refl _ _).alloc _).trans (z.trans D)) ot
  .have H:encTr (.nd 2 n p s args)=(2:Int).toNat.toUInt8::p.toNat.toUInt8::(pE args.length++encTrs args):=by simp[encTr]
   rw[H]at j|-;unfold af;obtain⟨ae,ah⟩:=BS (X rfl);have ab:=BB args;simp only[jn,qS]at j;obtain⟨O,aa,HO,HA,HB⟩:=wg (IJ 2 od od) (IJ p od od) g (λy M q G ho hl=>BZ (c:=c) V P S (λi h=>T i h (d+1) (rJ A _ (zj h))) y M q G ho hl od) G;clear W Y A hm S hr T G g H Z X;generalize (2:Int).toNat.toUInt8=u at *;generalize p.toNat.toUInt8=u2 at *;go_enter func214,ntmps214;go_wp2_with (first
    | (at_builtin;refine app1 B y u _ (q.alloc (.cells #[.i 2,.i n,.i p,.string s,.slice a args.length c] 26)) M rfl (.tmp 5) _ rfl rfl rfl ot O (xo HO _) oB od ?_;intro R N b f;obtain⟨b0,b1,b2,b3,b4⟩:=bE ((f.block (k:=q.heap.size) ot C).trans (qT _ _));have x:=f.1.size;simp at x;have r:=jh b;have m:=jh f;clear b f)
    | (at_builtin;refine app1 B (y++[u]) u2 _ N R rfl (.tmp 31) _ rfl rfl rfl ot aa r od oB ?_;intro v3 w3 K l;have w:=m.out.trans l;obtain⟨e0,e1,e2,e3,e4⟩:=bE ((w.block (k:=q.heap.size) ot C).trans (qT _ _));have E:=jh K;have z:=jh w;clear K l w))
   have Q:Below B w0 w3:=(HB.out.alloc U _).trans (z.below (xo HO _) oB);refine (HA (y++[u]++[u2]) v3 w3 Q E Kx).mono ?_;rintro e w4 ⟨v4,rfl,J,o⟩;have F:=jh J;have D:=jh o;clear J o;go_wp2_with fail;go_ret;exact nJ.mk F (((Gr.refl _ _).alloc _).trans (z.trans D)) ot
  .have H:encTr (.nd 3 n p s args)=(3:Int).toNat.toUInt8::(pE args.length++encTrs args):=by simp[encTr]
   rw[H]at j|-;unfold af;have ab:=BB args;simp only[jn,qS]at j;obtain⟨O,HO,HA,HB⟩:=JT (IJ 3 od od) g (λy M q G ho hl=>BZ (c:=c) V P S (λi h=>T i h (d+1) (rJ A _ (zj h))) y M q G ho hl od) G;clear W Y A hm S hr T G g H Z X;generalize (3:Int).toNat.toUInt8=u at *;go_enter func214,ntmps214;go_wp2_with (first
    | (at_builtin;refine app1 B y u _ (q.alloc (.cells #[.i 3,.i n,.i p,.string s,.slice a args.length c] 26)) M rfl (.tmp 5) _ rfl rfl rfl ot O (xo HO _) oB od ?_;intro R N b f;obtain⟨b0,b1,b2,b3,b4⟩:=bE ((f.block (k:=q.heap.size) ot C).trans (qT _ _));have x:=f.1.size;simp at x;have r:=jh b;have m:=jh f;clear b f))
   have Q:Below B w0 N:=(HB.out.alloc U _).trans (m.below (xo HO _) oB);refine (HA (y++[u]) R N Q r Kx).mono ?_;rintro e w4 ⟨v4,rfl,J,o⟩;have F:=jh J;have D:=jh o;clear J o;go_wp2_with fail;go_ret;exact nJ.mk F (((Gr.refl _ _).alloc _).trans (m.trans D)) ot
def Rc{B:Nat}{w:World}{v:Value}{l:List UInt8}(h:om B w v l):(convert 222 9 v).run prog w =.ok (.string ⟨l.toArray⟩) w:=by
 have b:=h;unfold om at b;rcases b.2 with⟨rfl,e⟩|⟨g,a,d,rfl,f,o,n,i,k,c⟩
 .have : l=[]:=ju e;subst this;exact run_convert_bytes_nil w 222 5 underlying222 underlying5 0 0 9 underlying9
 .refine run_convert_bytes_back w 222 9 5 ⟨g,0,none⟩ a l underlying222 underlying5 underlying9 λj m=>?_;exact yy b (g:=g) rfl j _ (by simp[cs,qt m])
mutual
def tX(d:Nat):∀t,bC d t=0->t.size<=1000000->(encTr t).length<=215*t.size
 | .nd k n p s a,h,l=>by
  obtain⟨u,j,b⟩:=zP h;obtain⟨v,x,w,r,y⟩:=CG j;rw[Tr.size]at l;have z:=xy (d+1) a b od;have i:=cB a;have m:=xx n ⟨od,od⟩;have o:=xx s.size ⟨od,od⟩;have q:=xx a.length ⟨od,od⟩;have c:s.data.toList.length=s.size:=ot
  rw[encTr,Tr.size]
  by_cases e:k=0
  .rw[if_pos e];simp;omega
  rw[if_neg e]
  by_cases f:k=1
  .rw[if_pos f];simp only[jn,qS,c];omega
  rw[if_neg f]
  by_cases g:k=2
  .rw[if_pos g];simp only[jn,qS];omega
  .rw[if_neg g];simp only[jn,qS];omega
def xy(d:Nat):∀ts,bG d ts=0->sizes ts<=1000000->(encTrs ts).length<=215*sizes ts
 | [],_,_=>by simp[encTrs]
 | t::ts,h,c=>by
  rw[sizes]at c;have e:=tX d t (rJ h t ot) od;have b:bG d ts=0:=by
   rw[bG]at h
   by_cases a:bC d t=0
   .rwa [if_neg (by simpa using a)]at h
   .rw[if_pos a]at h;exact absurd h a
  have f:=xy d ts b od;rw[encTrs,sizes,qS];omega
end
def iV{t:Tr}(h:dS t=0):bC 1 t=0/\t.size<=300:=by
 unfold dS at h
 by_cases a:bC 1 t=0
 .rw[if_neg (by simpa using a)]at h
  by_cases b:300<t.size
  .rw[if_pos b]at h;omega
  .exact⟨a,od⟩
 .rw[if_pos a]at h;exact absurd h a
def Ju{w:World}{t:Tr}{v:Value}(z:bI (· < w.heap.size) w t v)(B:dS t=0) :
 Calls prog 203 #[v] w λe w'=>e =.returned (.tuple #[.string ⟨(encTr t).toArray⟩,.i 0])/\w.grownBy w' none:=by
 obtain⟨y,H⟩:=iV B;have q:=tX 1 t y od;have u:∃k n p s a l c,v=af k n p s a l c:=by cases z;exact⟨_,_,_,_,_,_,_,rfl⟩
 obtain⟨k,n,p,s,a,l,c,u⟩:=u;have d:∀o,bI (· < (w.alloc o).heap.size) (w.alloc o) t v:=λo=>(z.same (w':=w.alloc o) (λb _ f _=>jd7 _ _ _ f)).ae (λb _ f=>by simp;have : b<w.heap.size:=f;omega);have j:=Bj (d (.cells #[.i k,.i n,.i p,.string s,.slice a l c] 26)) od;have r:∀w',(w.alloc (.cells #[.i k,.i n,.i p,.string s,.slice a l c] 26)).grownBy w' none->Calls prog 214 #[.n0,v] w' (nJ w'.heap.size w' (.n0) (encTr t)):=by intro w' C;have I:Same (· < (w.alloc (.cells #[.i k,.i n,.i p,.string s,.slice a l c] 26)).heap.size) (w.alloc (.cells #[.i k,.i n,.i p,.string s,.slice a l c] 26)) w':=λb o f _=>Lf.Qr C b o f;have A:=((d _).same I).ae (ok':=(· < w'.heap.size)) (λb f _=>f);exact H5 (qv _) A 1 y [] (.n0) w' (Below.refl _ _) (qa2 _ _ _ _) oB
 rw[B]at j;rw[u]at j r|-;unfold af at j r|-;have F:=jh j;have G:=jh r;clear j r z d u B y H q;generalize encTr t=O at *;go_enter func203,ntmps203;go_wp2_with fail;refine F.mono ?_;rintro e Q ⟨rfl,g⟩;obtain⟨J,K,L,M,N⟩:=bE ((g.block w.heap.size ot ot).trans (qT _ _));have h:=jh g;clear g;go_wp2_with fail;refine (G _ h).mono ?_;rintro e R ⟨P,rfl,D,m⟩;have E:=Rc D;have x:=jh m.1;clear D m;go_wp2_with fail;go_ret2;refine⟨rfl,aJ (aK _) (aJ h ?_)⟩;exact x
def Ni{w:World}{t:Tr}{v:Value}(m:bI (· < w.heap.size) w t v)(y:t.size<=4611686018427387904 - 1)(u:dS t≠0) :
 Calls prog 203 #[v] w λe w'=>e =.returned (.tuple #[.string ⟨#[]⟩,.i (dS t)])/\w.grownBy w' none:=by
 have h:∃k n p s a l c,v=af k n p s a l c:=by cases m;exact⟨_,_,_,_,_,_,_,rfl⟩
 obtain⟨k,n,p,s,a,l,c,h⟩:=h;have d:∀o,bI (· < (w.alloc o).heap.size) (w.alloc o) t v:=λo=>(m.same (w':=w.alloc o) (λb _ q _=>jd7 _ _ _ q)).ae (λb _ q=>by simp;have : b<w.heap.size:=q;omega);have g:=Bj (d (.cells #[.i k,.i n,.i p,.string s,.slice a l c] 26)) od;rw[h]at g|-;unfold af at g|-;have r:=jh g;clear g m d h;generalize dS t=x at *;go_enter func203,ntmps203;go_wp2_with fail;refine r.mono ?_;rintro e z ⟨rfl,f⟩;have j:=jh f;clear f;go_wp2_with fail;go_ret2;exact⟨rfl,aJ (aK _) j⟩
mutual
def readT_size:∀(t:Tr) (T:Ty) (x:Va),readT t T=some x->x.size<=t.size
 | .nd k n p s d,T,x=>by
  intro h;have g:∀(a b:Int) (c:ByteArray) (e:List Va),(fM a b c e).size=vsizes e+1:=λa b c e=>by simp[fM,Va.size,tysizes,sizes]
  have i:vsizes []=0:=rfl;rw[Tr.size];rw[readT]at h;split at h
  .split at h
   .simp only[qk]at h;subst h;rw[g,i];omega
   .cases h
  .split at h
   .split at h
    .simp only[qk]at h;subst h;rw[g,i];omega
    .cases h
   .split at h
    .split at h
     .simp only[km]at h;obtain⟨e,f,rfl⟩:=h;have:=readTs_size d _ e f;rw[g];omega
     .cases h
    .split at h
     .split at h
      .simp only[km]at h;obtain⟨e,f,rfl⟩:=h;have:=readEs_size d _ e f;rw[g];omega
      .cases h
     .split at h
      .cases h
      .simp only[km]at h;obtain⟨e,f,rfl⟩:=h;have:=readTs_size d _ e f;rw[g];omega
def readTs_size:∀(l:List Tr) (ts:List Ty) (xs:List Va),readTs l ts=some xs->vsizes xs<=sizes l
 | [],[],xs=>by intro h;simp[readTs]at h;subst h;simp[vsizes,sizes]
 | [],_::_,xs=>by intro h;simp[readTs]at h
 | _::_,[],xs=>by intro h;simp[readTs]at h
 | t::l,T::ts,xs=>by
  intro h;rw[readTs]at h
  cases a:readT t T with
  | none=>rw[a]at h;cases h
  | some x =>
   rw[a]at h;simp only[km]at h;obtain⟨c,b,rfl⟩:=h;have d:=readT_size t T x a;have e:=readTs_size l ts c b;rw[vsizes,sizes];omega
def readEs_size:∀(l:List Tr) (ts:List Ty) (xs:List Va),readEs l ts=some xs->vsizes xs<=sizes l
 | [],ts,xs=>by intro h;simp[readEs]at h;subst h;simp[vsizes,sizes]
 | .nd k n p s a::l,ts,xs=>by
  intro h;rw[readEs]at h
  cases b:readTs a ts with
  | none=>rw[b]at h;cases h
  | some c =>
   rw[b]at h;simp only at h;split at h
   .simp only[km]at h;obtain⟨f,d,rfl⟩:=h;have g:=readTs_size a ts c b;have i:=readEs_size l ts f d;have e:(fM 11 0 ⟨#[]⟩ c).size=vsizes c+1:=by simp[fM,Va.size,tysizes,sizes]
    rw[vsizes,sizes,e,Tr.size];omega
   .cases h
end
def jf (T:Ty) (t:Tr):Option Va:=if zt T=true/\dS t=0 then (match readT t T with
 | none=>none
 | some x=>if pY T x=true then some x else none)else none
section
mutual
def first_okN:∀(t:Tr) (d:Nat),bC d t=0->okN t
 | .nd k n p s c,d,h=>by
  simp only[bC]at h;split at h
  .cases h
  .split at h
   .rename_i a;exact absurd h a
   .rename_i a;have b:Lf.fD k n p s c.length=0:=by simpa using a
    refine⟨?_,first_okNs c (d+1) h⟩;unfold Lf.fD Lf.rP Lf.gD Lf.qM at b;unfold bD maxLen
    repeat' split at b
    all_goals first
     | (cases b;done)
     | (simp_all<;>omega)
def first_okNs:∀(l:List Tr) (d:Nat),bG d l=0->okNs l
 | [],_,_=>trivial
 | t::l,d,h=>by
  simp only[bG]at h;split at h
  .rename_i a;exact absurd h a
  .rename_i a;exact⟨first_okN t d (by simpa using a),first_okNs l d h⟩
end
def D5{T:Ty}{t:Tr}{x:Va}(h:jf T t=some x):okV x:=by
 unfold jf at h;split at h
 .rename_i c;split at h
  .cases h
  .rename_i y a;split at h
   .cases h;exact readT_okV _ _ _ (first_okN _ _ (iV c.2).1) a
   .cases h
 .cases h
def K3{t:Tr}(hk:okN t)(hz:t.size<=4611686018427387904):Hd ⟨21,[ndA t],.of (iA (dS t))⟩:=by
 refine⟨bK func21,λok w c h=>?_⟩
 match c,h with
 | [v],⟨a,_⟩ =>
  refine (Bj ((oK hk a).ae (λ_ h _=>h)) hz).mono ?_;rintro e d ⟨rfl,b⟩;exact⟨b,_,rfl,fI.v _⟩
def SV{T:Ty}(a:okT T):Hd ⟨45,[tyA T],aQ (zt T)⟩:=jM (bK func45) λok w d h=>by
 match d,h with
 | [v],⟨c,_⟩=>exact nT ((jC a c).ae λb h _=>h)
def X4{T:Ty}{x:Va}(c:okT T)(d:okV x)(hz:x.size<=20000000):Hd ⟨56,[tyA T,pF x],aQ (pY T x)⟩:=jM (bK func56) λok w e h=>by
 match e,h with
 | [u,v],⟨a,b,_⟩=>exact Lv ((jC c a).ae λ_ _ _=>trivial) ((mR d b).ae λ_ _ _=>trivial) hz w (bM _ _)
def vaZ:A1:=.agg [.d (.v (.i 0)),.d (.v (.i 0)),.d (.v (.i 0)),.d (.v (.string ⟨#[]⟩)),.d (.s 0 []),.d (.s 0 []),.d (.s 0 [])]
def anyA:A1:=.agg [.d .t,.d .t,.d .t,.d .t,.d .t,.d .t,.d .t]
def parseA:Option Va->AV
 | some x=>.rz [pF x,iA 0]
 | none=>.rz [vaZ,iA 1]
def WI{T:Ty}{t:Tr}(i:okT T)(l:okN t)(hz:t.size<=4611686018427387903):Hd ⟨113,[tyA T,ndA t],parseA (jf T t)⟩:=by
 have a:=SV i;have hN:=K3 l od;unfold jf
 cases j:zt T with
 | false =>
  rw[j]at a;rw[if_neg ot];obtain⟨u,g⟩:=T;obtain⟨k,n,p,s,c⟩:=t;exact aF func113 [⟨_,a⟩]
 | true =>
  rw[j]at a
  by_cases b:dS t=0
  .rw[b]at hN;rw[if_pos ⟨rfl,b⟩];have r:=(iV b).2;obtain⟨o,q,hR⟩:=read_all _ t T 1 (qv _) od l i (dE j).1
   cases f:readT t T with
   | none =>
    rw[f]at hR;obtain⟨u,g⟩:=T;obtain⟨k,n,p,s,c⟩:=t;exact aF func113 [⟨_,a⟩,⟨_,hN⟩,⟨_,hR⟩]
   | some x =>
    rw[f]at hR;have d:=X4 (x:=x) i (readT_okV _ _ _ l f) (by have:=readT_size t T x f;omega);simp only
    cases m:pY T x with
    | false =>
     rw[m]at d;obtain⟨u,g⟩:=T;obtain⟨k,n,p,s,c⟩:=t;exact aF func113 [⟨_,a⟩,⟨_,hN⟩,⟨_,hR⟩,⟨_,d⟩]
    | true =>
     rw[m]at d;obtain⟨u,g⟩:=T;obtain⟨k,n,p,s,c⟩:=t;exact aF func113 [⟨_,a⟩,⟨_,hN⟩,⟨_,hR⟩,⟨_,d⟩]
  .rw[if_neg (λh=>b h.2)];generalize dS t=e at *;obtain⟨u,g⟩:=T;obtain⟨k,n,p,s,c⟩:=t;exact runT func113 [(14,bA true)] [⟨_,a⟩,⟨_,hN⟩] (ob:=[jJ (!decide (e=0)) true]) (al (eT (by simpa using b)) al0)
end
inductive iF where
 | no (e:Int)
 | ok (f:Bool) (ts:List Ty)
def sFq:List Ty->List Int->Bool
 | _,[]=>true
 | [],_::_=>false
 | T::s,k::ks=>(decide (k=0)||decide (T.t=k))&&sFq s ks
structure Ins where
 p:Int
 n:Int
 types:List Ty
 rows:List (List Tr)
 data:Tr
def tr0:Tr:=.nd 0 0 0 ⟨#[]⟩ []
def bR (p:Int):List UInt8 :=
 if p=41\/p=43\/p=44 then [110]
 else if p=45 then [116,118]
 else if p=50\/p=51\/p=54\/p=56\/p=82\/p=88 then [116]
 else if p=61 then [116,117]
 else if p=52\/p=55\/p=58\/p=64 then [99,100]
 else if p=60\/p=65\/p=68 then [99]
 else if p=66 then [116,117,99]
 else []
def iy (i:Ins) (f:UInt8) (t:Tr):Option Ins :=
 if f=110 then (if t.k0=0/\0<=t.n0/\t.n0<=40 then some { i with n:=t.n0 } else none)
 else if f=116\/f=117 then (if fu t=true then some { i with types:=i.types++[kreadT t] } else none)
 else if f=99\/f=100 then (if t.k0=3 then some { i with rows:=i.rows++[t.args0] } else none)
 else some { i with data:=t }
def takesF:Ins->List UInt8->List Tr->Option Ins
 | i,f::fs,t::l=>match iy i f t with
  | none=>none
  | some j=>takesF j fs l
 | i,[],_=>some i
 | i,_::_,[]=>some i
def iY (t:Tr):Option Ins :=
 if t.k0=2/\40<=t.p0/\t.args0.length=(bR t.p0).length then takesF ⟨t.p0,0,[],[],tr0⟩ (bR t.p0) t.args0 else none
mutual
def mintsT:Tr->Bool
 | .nd k _ p _ args=>(decide (k=2/\p=84))||mintsTs args
def mintsTs:List Tr->Bool
 | []=>false
 | t::l=>mintsT t||mintsTs l
end
def fQ (s top:List Ty):iF:=.ok false (top++s)
def meetF:iF->iF->iF
 | .no e,_=>.no e
 | .ok _ _,.no e=>.no e
 | .ok f a,.ok g b=>if f=true then .ok g b else if g=true\/sameTs a b=true then .ok f a else .no 5
def rowAt (i:Ins) (k:Nat):List Tr:=(i.rows[k]?).getD []
def iC (row:List Tr->List Ty->iF) (i:Ins) (s x y:List Ty):iF:=meetF (row (rowAt i 0) (x++s)) (row (rowAt i 1) (y++s))
def dM (row:List Tr->List Ty->iF) (i:Ins) (x y z:List Ty):iF:=match meetF (row (rowAt i 0) x) (fQ y [])with
 | .no e=>.no e
 | .ok _ _=>fQ z []
def l7 (row:List Tr->List Ty->iF) (i:Ins) (top:Ty) (s:List Ty):iF:=match row (rowAt i 0) s with
 | .no e=>.no e
 | .ok f ts=>if f=true then .no 1 else fQ ts [top]
def dG (i:Ins) (s:List Ty):iF :=
 if i.p=40/\sFq s [0]=true then fQ (s.drop 1) []
 else if i.p=41/\1<=i.n/\i.n<=s.length/\A7 (bB s (i.n.toNat - 1))=true then fQ s [bB s (i.n.toNat - 1)]
 else if i.p=42/\sFq s [0,0]=true then fQ (s.drop 2) [bB s 1,bB s 0]
 else if i.p=43/\i.n<s.length then fQ (s.take i.n.toNat++s.drop (i.n.toNat+1)) [bB s i.n.toNat]
 else if i.p=44/\i.n<s.length then fQ (s.take 1++s.drop (i.n.toNat+1)) ((s.drop 1).take i.n.toNat)
 else .no 5
def bO (i:Ins) (s:List Ty):iF :=
 if i.p=46/\sFq s [0,0]=true then fQ (s.drop 2) [.nd 11 [bB s 0,bB s 1]]
 else if i.p=47/\sFq s [11]=true then fQ (s.drop 1) (bB s 0).args
 else if i.p=48/\sFq s [11]=true then fQ (s.drop 1) [bB (bB s 0).args 0]
 else if i.p=49/\sFq s [11]=true then fQ (s.drop 1) [bB (bB s 0).args 1]
 else if i.p=50/\sFq s [0]=true then fQ (s.drop 1) [.nd 12 [bB s 0,bB i.types 0]]
 else if i.p=51/\sFq s [0]=true then fQ (s.drop 1) [.nd 12 [bB i.types 0,bB s 0]]
 else if i.p=53/\sFq s [0]=true then fQ (s.drop 1) [.nd 9 [bB s 0]]
 else if i.p=54 then fQ s [.nd 9 [bB i.types 0]]
 else .no 5
def aP (i:Ins) (s:List Ty):iF :=
 if i.p=56 then fQ s [.nd 10 [bB i.types 0]]
 else if i.p=57/\sFq s [0,10]=true/\sameT (bB s 0) (bB (bB s 1).args 0)=true then fQ (s.drop 1) []
 else if i.p=59/\(sFq s [6]=true\/sFq s [10]=true\/sFq s [13]=true)then fQ (s.drop 1) [.nd 4 []]
 else if i.p=61/\oF (bB i.types 0)=true then fQ s [.nd 13 i.types]
 else if i.p=62/\sFq s [0,13]=true/\sameT (bB s 0) (bB (bB s 1).args 0)=true/\A7 (bB (bB s 1).args 1)=true then fQ (s.drop 2) [.nd 9 [bB (bB s 1).args 1]]
 else if i.p=63/\sFq s [0,9,13]=true/\sameT (bB s 0) (bB (bB s 2).args 0)=true/\sameT (bB (bB s 1).args 0) (bB (bB s 2).args 1)=true then fQ (s.drop 2) []
 else .no 5
def eG (row:List Tr->List Ty->iF) (i:Ins) (s:List Ty):iF :=
 if i.p=52/\sFq s [12]=true then iC row i (s.drop 1) ((bB s 0).args.take 1) ((bB s 0).args.drop 1)
 else if i.p=55/\sFq s [9]=true then iC row i (s.drop 1) [] (bB s 0).args
 else if i.p=58/\sFq s [10]=true then iC row i (s.drop 1) [bB (bB s 0).args 0,bB s 0] []
 else if i.p=64/\sFq s [2]=true then iC row i (s.drop 1) [] []
 else .no 5
def bP (row:List Tr->List Ty->iF) (i:Ins) (s:List Ty):iF :=
 if i.p=60/\sFq s [10]=true then dM row i ((bB s 0).args++s.drop 1) (s.drop 1) (s.drop 1)
 else if i.p=60/\sFq s [13]=true then dM row i ([.nd 11 (bB s 0).args]++s.drop 1) (s.drop 1) (s.drop 1)
 else if i.p=65/\sFq s [2]=true then dM row i (s.drop 1) s (s.drop 1)
 else if i.p=66/\mintsTs (rowAt i 0)=false then dM row i (i.types.take 1) (i.types.drop 1) ([.nd 14 i.types]++s)
 else if i.p=67/\sFq s [0,14]=true/\sameT (bB s 0) (bB (bB s 1).args 0)=true then fQ (s.drop 2) [bB (bB s 1).args 1]
 else if i.p=68/\sFq s [0]=true then l7 row i (bB s 0) (s.drop 1)
 else .no 5
def zC (t:Int):Bool:=decide (t=3\/t=4)
def Jt (q r:Ty):Ty:=.nd 9 [.nd 11 [q,r]]
def IP (p a b:Int):Option Ty :=
 if p=69/\a=5/\b=5 then some (.nd 5 [])
 else if p=70/\a=5/\b=5 then some (.nd 9 [.nd 5 []])
 else if p=71/\(a=5/\b=4\/a=4/\b=5)then some (.nd 5 [])
 else if p=72/\a=5/\b=5 then some (Jt (.nd 4 []) (.nd 5 []))
 else if p=72/\a=5/\b=4 then some (Jt (.nd 5 []) (.nd 5 []))
 else if zC a=false\/zC b=false then none
 else if p=72/\a=4/\b=4 then some (Jt (.nd 4 []) (.nd 4 []))
 else if p=72 then some (Jt (.nd 3 []) (.nd 4 []))
 else if p≠70/\a=4/\b=4 then some (.nd 4 [])
 else some (.nd 3 [])
def bJ (i:Ins) (s:List Ty):iF :=
 if i.p=93/\sFq s [3]=true then fQ (s.drop 1) [.nd 4 []]
 else if i.p=94/\sFq s [3]=true then fQ (s.drop 1) [.nd 9 [.nd 4 []]]
 else if i.p=95/\sFq s [4]=true then fQ (s.drop 1) [.nd 3 []]
 else if (i.p=69\/i.p=70\/i.p=71\/i.p=72)/\sFq s [0,0]=true then (match IP i.p (bB s 0).t (bB s 1).t with
  | some T=>fQ (s.drop 2) [T]
  | none=>.no 5)
 else .no 5
def dI (i:Ins) (s:List Ty):iF :=
 if i.p=73/\sFq s [0,0]=true/\sameT (bB s 0) (bB s 1)=true/\oF (bB s 0)=true then fQ (s.drop 2) [.nd 3 []]
 else if (i.p=74\/i.p=75\/i.p=76)/\sFq s [3]=true then fQ (s.drop 1) [.nd 2 []]
 else if i.p=77/\sFq s [2]=true then fQ (s.drop 1) [.nd 2 []]
 else if (i.p=78\/i.p=79)/\sFq s [2,2]=true then fQ (s.drop 2) [.nd 2 []]
 else .no 5
def cZ (i:Ins) (s:List Ty):iF :=
 if i.p=45/\eB (bB i.types 0)=true/\(jf (bB i.types 0) i.data).isSome=true then fQ s [bB i.types 0]
 else if i.p=80/\sFq s [6,6]=true then fQ (s.drop 2) [.nd 6 []]
 else if i.p=81/\sFq s [0]=true/\eB (bB s 0)=true then fQ (s.drop 1) [.nd 6 []]
 else if i.p=82/\sFq s [6]=true/\eB (bB i.types 0)=true then fQ (s.drop 1) [.nd 9 [bB i.types 0]]
 else if i.p=83/\sFq s [0]=true/\eB (bB s 0)=true then .ok true []
 else .no 5
def bF (i:Ins) (s:List Ty):iF :=
 if i.p=84/\sFq s [0,4]=true/\oF (bB s 0)=true then fQ (s.drop 2) [.nd 9 [.nd 15 [bB s 0]]]
 else if i.p=85/\sFq s [15]=true then fQ s [.nd 11 [.nd 7 [],.nd 11 [bB (bB s 0).args 0,.nd 4 []]]]
 else if i.p=86/\sFq s [15,11]=true/\sFq (bB s 1).args [4,4]=true then fQ (s.drop 2) [.nd 9 [.nd 11 [bB s 0,bB s 0]]]
 else if i.p=87/\sFq s [11]=true/\sFq (bB s 0).args [15,15]=true/\sameT (bB (bB s 0).args 0) (bB (bB s 0).args 1)=true then fQ (s.drop 1) [.nd 9 [bB (bB s 0).args 0]]
 else .no 5
def dO (i:Ins) (s:List Ty):iF :=
 if i.p=88/\sFq s [0,5,7]=true/\sameT (bB s 0) (bB i.types 0)=true/\storeT (bB s 0)=true then fQ (s.drop 3) [.nd 8 []]
 else if i.p=89\/i.p=90 then fQ s [.nd 7 []]
 else if i.p=91\/i.p=92 then fQ s [.nd 5 []]
 else .no 5
def vP (row:List Tr->List Ty->iF) (i:Ins) (s:List Ty):iF :=
 if i.p=40\/i.p=41\/i.p=42\/i.p=43\/i.p=44 then dG i s
 else if i.p=46\/i.p=47\/i.p=48\/i.p=49\/i.p=50\/i.p=51\/i.p=53\/i.p=54 then bO i s
 else if i.p=56\/i.p=57\/i.p=59\/i.p=61\/i.p=62\/i.p=63 then aP i s
 else if i.p=52\/i.p=55\/i.p=58\/i.p=64 then eG row i s
 else if i.p=60\/i.p=65\/i.p=66\/i.p=67\/i.p=68 then bP row i s
 else if i.p=69\/i.p=70\/i.p=71\/i.p=72\/i.p=93\/i.p=94\/i.p=95 then bJ i s
 else if i.p=73\/i.p=74\/i.p=75\/i.p=76\/i.p=77\/i.p=78\/i.p=79 then dI i s
 else if i.p=45\/i.p=80\/i.p=81\/i.p=82\/i.p=83 then cZ i s
 else if i.p=84\/i.p=85\/i.p=86\/i.p=87 then bF i s
 else dO i s
def keptF:iF->iF
 | .no e=>.no e
 | .ok f ts=>if 40<ts.length then .no 7 else if ts.all zt=true then .ok f ts else .no 4
def iG (st:Tr->List Ty->iF):List Tr->Bool->List Ty->iF
 | [],f,s=>.ok f s
 | t::l,f,s=>if f=true then .no 1 else match keptF (st t s)with
  | .no e=>.no e
  | .ok g s'=>iG st l g s'
def stepF:Nat->Tr->List Ty->iF
 | 0,_,_=>.no 1
 | N+1,t,s=>if t.k0=3 then iG (stepF N) t.args0 false s else match iY t with
  | none=>.no 1
  | some i=>vP (λl s=>iG (stepF N) l false s) i s
def codeF (n:Tr) (s:List Ty):iF :=
 if dS n≠0 then .no (dS n)else if n.k0≠3 then .no 1 else if 40<s.length then .no 7 else if s.all zt=true then iG (stepF 300) n.args0 false s else .no 5
def Rl(st:Tr->List Ty->iF):∀(a b:List Tr) (f:Bool) (s:List Ty),iG st (a++b) f s=(match iG st a f s with | .no e=>.no e | .ok g c=>iG st b g c)
 | [],b,f,s=>by simp[iG]
 | t::a,b,f,s=>by
  simp only[qd2,iG]
  by_cases d:f=true
  .simp[d]
  .simp only[d]
   cases h:keptF (st t s)with
   | no e=>simp
   | ok g c=>simpa using Rl st a b g c
def nP{r:iF}{f:Bool}{ts:List Ty}(h:keptF r =.ok f ts):r =.ok f ts/\ts.length<=40/\ts.all zt=true:=by
 cases r with
 | no e=>simp[keptF]at h
 | ok g c =>
  simp only[keptF]at h
  by_cases a:40<c.length
  .simp[a]at h
  .by_cases b:c.all zt=true
   .rw[if_neg a,if_pos b]at h;injection h with d i;subst d;subst i;exact⟨rfl,od,b⟩
   .rw[if_neg a,if_neg b]at h;cases h
def kT (r:iF):Prop:=∀ts,r =.ok true ts->ts=[]
def Ec{st:Tr->List Ty->iF}(a:∀t s,kT (st t s)):∀(l:List Tr) (f:Bool) (s:List Ty) {g:Bool}{ts:List Ty},s.length<=40->s.all zt=true->(f=true->s=[])->iG st l f s =.ok g ts->ts.length<=40/\ts.all zt=true/\(g=true->ts=[])
 | [],f,s,g,ts,d,i,j,h=>by simp only[iG,iF.ok.injEq]at h;obtain⟨rfl,rfl⟩:=h;exact⟨d,i,j⟩
 | t::l,f,s,g,ts,d,i,j,h=>by
  simp only[iG]at h
  by_cases k:f=true
  .simp[k]at h
  .simp only[k]at h
   cases c:keptF (st t s)with
   | no e=>simp[c]at h
   | ok n m =>
    simp only[c]at h;obtain⟨e,o,p⟩:=nP c;exact Ec a l n m o p (λb=>a t s m (by rw[e,b])) (by simpa using h)
def vg(s top:List Ty):kT (fQ s top):=λa h=>by simp[fQ]at h
def jy(e:Int):kT (.no e):=λa h=>by simp at h
def noTys_fail:kT (.ok true []):=λa h=>by simp at h;exact h
def NQ{c:Prop}[Decidable c]{a b:iF}(d:kT a)(e:kT b):kT (if c then a else b):=by
 by_cases h:c
 .rw[if_pos h];exact d
 .rw[if_neg h];exact e
def NR{o:Option Ty}{g:Ty->iF}(a:∀T,kT (g T)){e:Int} : kT (match o with
 | some T=>g T
 | none=>.no e):=by
 cases o with
 | none=>exact jy e
 | some T=>exact a T
def JU{a b:iF}(c:kT a)(d:kT b):kT (meetF a b):=by
 cases a with
 | no e=>exact jy e
 | ok f x =>
  cases b with
  | no e=>exact jy e
  | ok g y =>
   simp only[meetF];split
   .exact d
   .split
    .exact c
    .exact jy 5
def ze{st:Tr->List Ty->iF}(a:∀t s,kT (st t s)):∀(l:List Tr) (f:Bool) (s:List Ty),(f=true->s=[])->kT (iG st l f s)
 | [],f,s,h=>λi e=>by simp only[iG,iF.ok.injEq]at e;obtain⟨rfl,rfl⟩:=e;exact h rfl
 | t::l,f,s,h=>by
  simp only[iG];split
  .exact jy 1
  .cases g:keptF (st t s)with
   | no e=>exact jy e
   | ok d c=>exact ze a l d c (λb=>a t s c (by rw[(nP g).1,b]))
def NP{row:List Tr->List Ty->iF}(b:∀l s,kT (row l s))(i:Ins)(s:List Ty):kT (vP row i s):=by
 have d:∀s x y,kT (iC row i s x y):=λs x y=>JU (b _ _) (b _ _);have e:∀x y z,kT (dM row i x y z):=λx y z=>by
  unfold dM;split
  .exact jy _
  .exact vg _ _
 have c:∀a s,kT (l7 row i a s):=λa s=>by
  unfold l7;split
  .exact jy _
  .split
   .exact jy 1
   .exact vg _ _
 unfold vP dG bO aP eG bP bJ dI cZ bF dO
 repeat' apply NQ
 all_goals first|exact vg _ _|exact jy _|exact noTys_fail|exact d _ _ _|exact e _ _ _|exact c _ _|exact NR (λT=>vg _ _)
def noTys_step:∀(N:Nat) (t:Tr) (s:List Ty),kT (stepF N t s)
 | 0,t,s=>jy 1
 | N+1,t,s=>by
  rw[stepF];split
  .exact ze (noTys_step N) _ _ _ ot
  .split
   .exact jy 1
   .exact NP (λl s=>ze (noTys_step N) _ _ _ ot) _ _
def slq:∀{s:List Ty}{ks:List Int},sFq s ks=true->ks.length<=s.length
 | _,[],_=>ot
 | [],_::_,h=>by simp[sFq]at h
 | T::s,k::ks,h=>by simp only[sFq,qu]at h;have:=slq h.2;simp;omega
def WL (r:iF) (W:World) (e:Ending) (w':World):Prop :=
 W.grownBy w' none/\((∃er,r =.no er/\er≠0/\e =.returned (.tuple #[.agg #[.n0,.bool false],.i er]))\/∃f ts a l c,r =.ok f ts/\e =.returned (.tuple #[.agg #[.slice a l c,.bool f],.i 0])/\jo w' ts (.slice a l c))
def WL.of{r:iF}{W a:World}{e:Ending}{w':World}(h:WL r a e w')(b:W.grownBy a none):WL r W e w':=⟨aJ b h.1,h.2⟩
def WL.form{r:iF}{W:World}{e:Ending}{w':World}(h:WL r W e w'):∃a l c f b,e =.returned (.tuple #[.agg #[.slice a l c,.bool f],.i b]):=by
 rcases h.2 with⟨b,_,_,rfl⟩|⟨f,d,a,l,c,_,rfl,_⟩
 .exact⟨_,_,_,_,_,rfl⟩
 .exact⟨_,_,_,_,_,rfl⟩
def NT{w:World}{R l c:Nat}{a:Option Addr}{f:Bool}{T:TypeId}(b:w.heap[R]?=some (.cells #[.slice a l c,.bool f] T (0,0)))(n:Nat)(z:Int):w.cell? ⟨R,n,none⟩≠some (.i z):=by intro h;rcases n with _|_|n<;>simp[World.cell?,b]at h
def rC.ne{ok:Nat->Prop}{w:World}{R l c:Nat}{a:Option Addr}{f:Bool}{T:TypeId}(n:w.heap[R]?=some (.cells #[.slice a l c,.bool f] T (0,0))){p:Option Addr}{i:Nat}{v:Value}(h:rC ok w p i v):rC (λb=>ok b/\b≠R) w p i v:=by obtain⟨b,o,e,q,t,g,s,j,r,d,m⟩:=h;exact⟨b,o,e,⟨q,λk=>by subst k;exact NT n _ _ d⟩,t,g,s,j,r,d,m⟩
def aH.ne{ok:Nat->Prop}{w:World}{R l c:Nat}{a:Option Addr}{f:Bool}{T:TypeId}(e:w.heap[R]?=some (.cells #[.slice a l c,.bool f] T (0,0))){t:Ty}{v:Value}(h:aH ok w t v):aH (λb=>ok b/\b≠R) w t v:=by
 induction h with
 | mk V k d n g _ m=>exact .mk V k d n (λi j=>(g i j).ne e) m
def jo.set{w:World}{ts:List Ty}{u:Value}(h:jo w ts u){R l c:Nat}{a:Option Addr}{f:Bool}{T:TypeId}(n:w.heap[R]?=some (.cells #[.slice a l c,.bool f] T (0,0)))(x y:Value):jo (set2 w R x y) ts u:=by obtain⟨m,p,V,e,q,j⟩:=h;have s:Same (λb=>True/\b≠R) w (set2 w R x y):=λb o r g=>qn ((vI w R x y).block b g (by have:=r.2;simp;omega));have k:dw (λb=>True/\b≠R) w ts m V:=⟨j.1,λi d=>(j.2.1 i d).ne n,λi d=>(j.2.2 i d).ne n⟩;exact⟨m,p,V,e,q,(k.same s).ae (λ_ _ _=>trivial)⟩
def stand_iff:∀(s:List Ty) (ks:List Int),sFq s ks=true ↔ ks.length<=s.length/\∀i (h:i<ks.length) (a:i<s.length),ks[i]=0\/(s[i]).t=ks[i]
 | s,[]=>by cases s<;>simp[sFq]
 | [],k::ks=>by simp[sFq]
 | T::s,k::ks=>by
  have f:=stand_iff s ks;simp only[sFq,qu,qc7,ki,f,jn,Nat.add_le_add_iff_right];constructor
  .rintro⟨b,a,c⟩;refine⟨a,λi d e=>?_⟩
   cases i with
   | zero=>exact b
   | succ i=>exact c i od od
  .rintro⟨b,a⟩;exact⟨a 0 od od,b,λi d e=>a (i+1) od od⟩
