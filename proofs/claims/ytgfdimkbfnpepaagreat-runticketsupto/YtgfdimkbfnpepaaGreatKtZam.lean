import Derived.Test.YtgfdimkbfnpepaaGreatKtZal
namespace Go.Proofs.YtgfdimkbfnpepaaGreat
set_option linter.all false
open Go.Proofs.Tryz
set_option maxRecDepth 100000
set_option maxHeartbeats 4000000
open Go.ChangeShapes Go.WideShapes Go.ChangeAt Go.RowKit
variable {K:br}
def II{f:UInt8}{k:Nat}(hk:k<256)(h:f≠UInt8.ofNat k):(f.toNat:Int)≠(k:Int):=λe=>h (by
 have a:f.toNat=k:=od
 rw[<-a,UInt8.ofNat_toNat])
def R5{h W:bx}{g:Nat}{i:Ins}{t:Tr}{p:cg}(f:UInt8)(d:nA K h W g i)(e:bI (λb=>K b/\b+1<g) h t p)(c:i.types.length<=1000)(a:i.rows.length<=1000) :
 Calls prog 101 #[.po g,.int .u8 (f.toNat:Int),p] W (lG K h g i f t):=by
 by_cases j:f=110
 .subst j;exact Vq d e
 .by_cases l:f=116
  .subst l;exact R7 (.inl ⟨rfl,rfl⟩) d e c a
  .by_cases m:f=117
   .subst m;exact R7 (.inr ⟨rfl,rfl⟩) d e c a
   .by_cases n:f=99
    .subst n;exact R6 (.inl ⟨rfl,rfl⟩) d e c a
    .by_cases o:f=100
     .subst o;exact R6 (.inr ⟨rfl,rfl⟩) d e c a
     .exact XQ ⟨j,by simp[l,m],by simp[n,o]⟩ d e ⟨II (k:=110) ov j,II (k:=116) ov l,II (k:=117) ov m,II (k:=99) ov n,II (k:=100) ov o⟩ c a
def OA{i j:Ins}{f:UInt8}{t:Tr}(h:iy i f t=some j):j.types.length<=i.types.length+1/\j.rows.length<=i.rows.length+1:=by
 unfold iy at h;split at h
 .split at h
  .cases h;exact⟨kb0 _,kb0 _⟩
  .cases h
 .split at h
  .split at h
   .cases h;simp
   .cases h
  .split at h
   .split at h
    .cases h;simp
    .cases h
   .cases h;exact⟨kb0 _,kb0 _⟩
def EE (K:br) (r:Option Ins) (W:bx) (e:Ending) (w':bx):Prop :=
 cm W w' none/\((r=none/\e =.returned (.tuple #[Af 0 0 none 0 0 none 0 0 0 0 0 ⟨#[]⟩ none 0 0,.bool false]))\/∃i ta tc ra rc da dc,r=some i/\e =.returned (.tuple #[Af i.p i.n ta i.types.length tc ra i.rows.length rc i.data.k0 i.data.n0 i.data.p0 i.data.s0 da i.data.args0.length dc,.bool true]) /\
  (i.types.length<=tc/\∃V,dw (W.heap.size <= ·) w' i.types ta V)/\PM (λb=>K b\/W.heap.size<=b) w' i.rows ra/\i.rows.length<=rc/\bI K w' i.data (af i.data.k0 i.data.n0 i.data.p0 i.data.s0 da i.data.args0.length dc))
def Kr (w:bx) (g:Nat) (y0 y1 y2 y3 y4 y5 y6 y7 y8:cg):bx:=((((((((w.setCell ⟨g,0,none⟩ y0).setCell ⟨g,1,none⟩ y1).setCell ⟨g,2,none⟩ y2).setCell ⟨g,3,none⟩ y3).setCell ⟨g,4,none⟩ y4).setCell ⟨g,5,none⟩ y5).setCell ⟨g,6,none⟩ y6).setCell ⟨g,7,none⟩ y7).setCell ⟨g,8,none⟩ y8
def Cm{w:bx}{g:Nat}{T:TypeId}{x0 l m n o p q r s:cg}(h:w.heap[g]?=some (.cells #[x0,l,m,n,o,p,q,r,s] T (0,0)))(a b c d e f i j k:cg):(Kr w g a b c d e f i j k).heap[g]?=some (.cells #[a,b,c,d,e,f,i,j,k] T (0,0)):=by simp[Kr,World.setCell,ux,h]
def Eh(w:bx)(g:Nat)(a b c d e f h i j:cg):cm w (Kr w g a b c d e f h i j) (some g) :=
 dY (dY (dY (dY (dY (dY (dY (dY (dY (bM w (some g)) 0 none a) 1 none b) 2 none c) 3 none d) 4 none e) 5 none f) 6 none h) 7 none i) 8 none j
def uY{w d e:bx}{b:Nat}(h:cm w d none)(a:cm d e (some b))(hb:w.heap.size<=b):cm w e none :=
 ⟨a.os.trans h.os,a.tape.trans h.tape,a.output.trans h.output,km h.size a.size,λk c f=>(a.block k (ki c h.size) oB).trans (h.block k c f)⟩
def Iz{i j:Ins}{a:bw}{l:aE}{k:Nat}(b:k<a.length)(c:k<l.length):takesF i (a.drop k) (l.drop k)=match iy i a[k] l[k]with
 | none=>none
 | some j=>takesF j (a.drop (k+1)) (l.drop (k+1)):=by
 rw[yW b,yW c];rfl
def Ke{W:bx}{t:Tr}{nv:cg}(hL:bI K W t nv)(h1:t.k0=2)(h2:40<=t.p0)(h3:t.args0.length=(bR t.p0).length) :
 Calls prog 67 #[nv] W (EE K (takesF ⟨t.p0,0,[],[],tr0⟩ (bR t.p0) t.args0) W):=by
 have⟨na,nc,VN,e1,⟨ik,iN,ip,cj⟩,X⟩:=hL.yX;rw[e1];unfold af;have cd:t.args0.length<=3:=by rw[h3];unfold bR;split<;>(try split)<;>(try split)<;>(try split)<;>(try split)<;>(try split)<;>(try split)<;>simp
 have ck:(ByteArray.mk (bR t.p0).toArray).size=t.args0.length:=by rw[h3];simp[ByteArray.size]
 have⟨F,bb,U,T⟩:=XJ W (.cells #[.i 2,.i t.n0,.i t.p0,.string t.s0,.slice na t.args0.length nc] 26) (.cells #[.i 0,.i 0,.n0,.n0,.i 0,.i 0,.i 0,.string ⟨#[]⟩,.n0] 104) (.cells #[.i t.p0,.i 0,.n0,.n0,.i 0,.i 0,.i 0,.string ⟨#[]⟩,.n0] 104);have B:(((W.alloc (.cells #[.i 2,.i t.n0,.i t.p0,.string t.s0,.slice na t.args0.length nc] 26)).alloc (.cells #[.i 0,.i 0,.n0,.n0,.i 0,.i 0,.i 0,.string ⟨#[]⟩,.n0] 104)).alloc (.cells #[.i t.p0,.i 0,.n0,.n0,.i 0,.i 0,.i 0,.string ⟨#[]⟩,.n0] 104)).heap.size=W.heap.size+1+1+1:=ot
 have N:Hid (cK (λb=>K b/\b+1<W.heap.size+1+1) _ t.args0 na VN):=((X.ae (ok':=λb=>K b/\b<W.heap.size) (λb g h=>⟨h,g⟩)).same (λb o g _=>qt (F.block b g.2 ot))).ae (λb _ g=>⟨g.1,by have : b<W.heap.size:=g.2;omega⟩);have L:Hid (nA K _ _ (W.heap.size+1+1) ⟨t.p0,0,[],[],tr0⟩):=⟨.n0,.n0,[],[],none,0,T,⟨bM _ _,by rw[B];omega,qg1 _ _ _ _,rfl,λk t u h=>by simp at h,qg1 _ _ _ _,rfl,λk t u h=>by simp at h⟩,bI.mk (hk:=zE _) (λ_=>.i 0) (zE _) (zE _) ⟨ov,ov⟩ ⟨ov,ov⟩ ⟨ov,ov⟩ (λi hi=>by cases hi) (λi hi=>by cases hi)⟩;have⟨z,m,bp⟩:=we F U B;have bm:¬t.p0<40:=od
 have cb:(bR t.p0).length=t.args0.length:=h3.symm;have⟨q,hq⟩:∃q,q=takesF ⟨t.p0,0,[],[],tr0⟩ (bR t.p0) t.args0:=⟨_,rfl⟩;rw[<-hq];have HQ:=jh hq;generalize t.k0=kk at *;subst h1;clear hq hL X F bb U T B h3 e1 h2;go_enter func67,ntmps67;go_wp2_with fail;refine (pK _ _).mono ?_;rintro e w1 ⟨rfl,rfl⟩;go_wp2_with fail;generalize ((W.alloc _).alloc _).alloc _=WB at *;go_loopw [34] (λiv wr=>∃(j:Nat) (i:Ins),j<=t.args0.length/\iv =.i j/\nA K WB wr (W.heap.size+1+1) i/\i.types.length<=j/\i.rows.length<=j/\q=takesF i ((bR t.p0).drop j) (t.args0.drop j)) (λiv _=>t.args0.length - (intOf iv).toNat)
 case atStart=>exact⟨0,_,zE _,rfl,L,qS _,qS _,HQ⟩
 case round =>
  obtain⟨j,i,hj,rfl,J,cl,ch,aj⟩:=hrel;have d:cm WB wr (some (W.heap.size+1+1)):=by have⟨_,_,_,_,_,_,_,hm,_⟩:=J;exact hm.grow
  have hR:=(d.block _ (qq.1 m).1 ot).trans m;have c:=jh aj;have au:=jh d;clear aj L HQ
  by_cases I:j<t.args0.length
  .obtain⟨b,o,rfl,bc,k',n',p',s',a',l',c',hv,y0,y1,y2,y3,y4⟩:=N.out.2.1 j I;have A:=N.out.2.2 j I;rw[hv]at A;have s:j<(bR t.p0).length:=by omega
   have bf:(j:Int)<(t.args0.length:Int):=od
   have a:∀{o:Nat} {v:cg},WB.cell? ⟨b,o,none⟩=some v->wr.cell? ⟨b,o,none⟩=some v:=λ{o v} h=>(qt (d.block b (zv WB _ h) (by have h1:b+1<W.heap.size+1+1:=bc.2;simp;omega))).trans h;have z0:=a y0;have z1:=a y1;have z2:=a y2;have z3:=a y3;have z4:=a y4;have ab:=aK (w:=wr) (.cells #[.i k',.i n',.i p',.string s',.slice a' l' c'] 26);have Z:=jj wr (.cells #[.i k',.i n',.i p',.string s',.slice a' l' c'] 26);have G:(wr.alloc (.cells #[.i k',.i n',.i p',.string s',.slice a' l' c'] 26)).grownBy (wr.alloc (.cells #[.i k',.i n',.i p',.string s',.slice a' l' c'] 26)).drew none:=fK (bM _ _);have⟨n0,n1,n2,n3,n4⟩:=bE (l5 Z G);have HT:=jh (R5 ((bR t.p0)[j]'s) (J.call (aJ ab G)) A od od);have l:=jh (Iz (i:=i) (j:=i) s I);have cc:True:=trivial;have cf:(ByteArray.mk (bR t.p0).toArray).data[j]?=some ((bR t.p0)[j]'s):=by simp[s]
   clear J A ab Z G d hR a y0 y1 y2 y3 y4;go_wp2_with fail;refine ja7 (S:=λ_=>True) oA ?_ (λba=>?_)
   .trivial
   generalize (wr.alloc _).drew=w5 at *;refine fG 0 39 ?_;refine fG 1 40 ?_;refine fG 2 41 ?_;refine kO (rs:=[3]) oA ot ?_;refine ke rfl (λK R=>?_) kp;go_simp;refine R _ _ trivial (λ_=>?_);clear R K;refine kO (rs:=[4]) oA ot ?_;refine ke rfl (λK R=>?_) kp;go_simp;go_at_call 101;refine HT.mono ?_;rintro e w6 ⟨ok,rfl,x,D⟩;refine R _ _ trivial (λ_=>?_);clear R K HT;refine fG 5 44 ?_;refine qf4 oA ?_ _;rcases D with⟨rfl,ai⟩|⟨rfl,i2,f,Q⟩
   .have bh:q=none:=by rw[c.out,l.out,ai]
    subst bh;have r:=(x.block _ (qq.1 m).1 ot).trans m;have⟨r0,r1,r2,r3,r4,r5,r6,r7,r8⟩:=nL r;have rf:=pM r;have aO:=jh r;have ax:=jh (uY z x od);clear r x ai l c n0 n1 n2 n3 n4 z0 z1 z2 z3 z4;go_wp2_with fail;change bodyPost _ _ _ _ _ (Kr w6 (W.heap.size+1) (.i 0) (.i 0) (.n0) (.n0) (.i 0) (.i 0) (.i 0) (.string ⟨#[]⟩) (.n0));have C:=Cm aO (.i 0) (.i 0) (.n0) (.n0) (.i 0) (.i 0) (.i 0) (.string ⟨#[]⟩) (.n0);have E:=uY ax (Eh w6 (W.heap.size+1) (.i 0) (.i 0) (.n0) (.n0) (.i 0) (.i 0) (.i 0) (.string ⟨#[]⟩) (.n0)) (kb0 _);generalize Kr w6 (W.heap.size+1) _ _ _ _ _ _ _ _ _=wf at *;have⟨s0,s1,s2,s3,s4,s5,s6,s7,s8⟩:=nL C;exact yb (v:=.tuple #[Af 0 0 none 0 0 none 0 0 0 0 0 ⟨#[]⟩ none 0 0,.bool false]) (by simp[results,results67,go_sem,s0,s1,s2,s3,s4,s5,s6,s7,s8,Af]) rfl ⟨E,.inl ⟨rfl,rfl⟩⟩
   .have ay:=jh Q;have M:=jh (OA f);have y:q=takesF i2 ((bR t.p0).drop (j+1)) (t.args0.drop (j+1)):=by rw[c.out,l.out,f]
    have aC:=jh y;clear y Q f x l c n0 n1 n2 n3 n4 z0 z1 z2 z3 z4;go_wp2;go_roundw
    case rel=>exact⟨j+1,i2,od,OS,ay,by have:=M.out;omega,by have:=M.out;omega,aC⟩
    case measure=>simp[intOf];omega
  .have bf:¬(j:Int)<(t.args0.length:Int):=by omega
   have y:q=some i:=by rw[c.out,je0 od,je0 od];rfl
   subst y;have⟨ta,tc,ra,rc,O,P,H,_⟩:=J.done (bM wr (some (W.heap.size+1))) rfl;have HI:=jh J;have⟨v0,v1,v2,v3,v4,v5,v6,v7,v8⟩:=nL H;have⟨r0,r1,r2,r3,r4,r5,r6,r7,r8⟩:=nL hR;have rf:=pM hR;have HR:=jh hR;have az:=jh H;clear H hR J c d;go_wp2_with fail;change bodyPost _ _ _ _ _ (Kr wr (W.heap.size+1) (.i i.p) (.i i.n) (.slice ta i.types.length tc) (.slice ra i.rows.length rc) (.i i.data.k0) (.i i.data.n0) (.i i.data.p0) (.string i.data.s0) (.slice O i.data.args0.length P));have C:=Cm HR (.i i.p) (.i i.n) (.slice ta i.types.length tc) (.slice ra i.rows.length rc) (.i i.data.k0) (.i i.data.n0) (.i i.data.p0) (.string i.data.s0) (.slice O i.data.args0.length P);have ad:=Eh wr (W.heap.size+1) (.i i.p) (.i i.n) (.slice ta i.types.length tc) (.slice ra i.rows.length rc) (.i i.data.k0) (.i i.data.n0) (.i i.data.p0) (.string i.data.s0) (.slice O i.data.args0.length P);have E:=uY (uY z au od) ad (kb0 _);have⟨bl,cq,cn,cp,bq,ca,ah,⟨aq,V1,ar⟩,k2,k3,k4⟩:=HI.out.done ad rfl;have Y:W.heap.size<=_:=z.out.size;have k1:=(⟨aq,V1,ar.ae (λb _ g=>km Y g)⟩:_/\∃V,dw (W.heap.size <= ·) _ i.types bl V);replace k2:=k2.mono (J':=λb=>K b\/W.heap.size<=b) (λb g=>g.imp id (km Y));clear aq ar;have aa:=az.out.symm.trans ah;simp only[qk,Obj.cells.injEq,qf0,xo,kl,true_and,and_true]at aa;obtain⟨⟨rfl,rfl⟩,⟨rfl,rfl⟩,⟨rfl,rfl⟩⟩:=aa;generalize Kr wr (W.heap.size+1) _ _ _ _ _ _ _ _ _=wf at *;have⟨s0,s1,s2,s3,s4,s5,s6,s7,s8⟩:=nL C;exact yb (v:=.tuple #[Af i.p i.n ta i.types.length tc ra i.rows.length rc i.data.k0 i.data.n0 i.data.p0 i.data.s0 O i.data.args0.length P,.bool true]) (by simp[results,results67,go_sem,s0,s1,s2,s3,s4,s5,s6,s7,s8,Af]) rfl ⟨E,.inr ⟨i,ta,tc,ra,rc,O,P,rfl,rfl,k1,k2,k3,k4⟩⟩
def Rn{W:bx}{t:Tr}{z:cg}(x:bI K W t z)(h:¬(t.k0=2/\40<=t.p0/\t.args0.length=(bR t.p0).length)) :
 Calls prog 67 #[z] W (EE K none W):=by
 have⟨G,H,I,u,⟨O,N,P,F⟩,f⟩:=x.yX;rw[u];unfold af;have⟨g,d,a⟩:=RO W (.cells #[.i t.k0,.i t.n0,.i t.p0,.string t.s0,.slice G t.args0.length H] 26) (.cells #[.i 0,.i 0,.n0,.n0,.i 0,.i 0,.i 0,.string ⟨#[]⟩,.n0] 104);have⟨Q,R,S,T,U⟩:=bE d;have⟨V,X,Y,Z,r4,r5,r6,r7,r8⟩:=nL a;have rf:=pM a;have b:=jh g;have c:=jh a;have E:(bR t.p0).length<=3:=by unfold bR;split<;>(try split)<;>(try split)<;>(try split)<;>(try split)<;>(try split)<;>(try split)<;>simp
 have D:t.args0.length<=9223372036854775807:=by have:=f.1;unfold maxLen at this;omega
 clear x f u g d a;generalize t.k0=y at *;generalize t.p0=s at *
 by_cases w:y=2
 .subst w
  by_cases C:s<40
  .go_enter func67,ntmps67;go_wp2_with fail;refine (pK _ _).mono ?_;rintro e A ⟨rfl,rfl⟩;go_wp2_with fail;generalize (W.alloc _).alloc _=B at *;have⟨j,k,l,m,n,o,p,q,r⟩:=nL c;exact yb (v:=.tuple #[Af 0 0 none 0 0 none 0 0 0 0 0 ⟨#[]⟩ none 0 0,.bool false]) (by simp[results,results67,go_sem,j,k,l,m,n,o,p,q,r,Af]) rfl ⟨b,.inl ⟨rfl,rfl⟩⟩
  .have J:((t.args0.length:Int) != ((bR s).length:Int)):=by simp;omega
   have L:¬(t.args0.length:Int)=((bR s).length:Int):=od
   have M:¬t.args0.length=(bR s).length:=od
   clear h;go_enter func67,ntmps67;go_wp2_with fail;refine (pK _ _).mono ?_;rintro e A ⟨rfl,rfl⟩;go_wp2_with fail;generalize (W.alloc _).alloc _=B at *;have⟨j,k,l,m,n,o,p,q,r⟩:=nL c;exact yb (v:=.tuple #[Af 0 0 none 0 0 none 0 0 0 0 0 ⟨#[]⟩ none 0 0,.bool false]) (by simp[results,results67,go_sem,j,k,l,m,n,o,p,q,r,Af]) rfl ⟨b,.inl ⟨rfl,rfl⟩⟩
 .have C:(y != 2):=by simpa using w
  clear h;go_enter func67,ntmps67;go_wp2_with fail;refine (pK _ _).mono ?_;rintro e A ⟨rfl,rfl⟩;go_wp2_with fail;generalize (W.alloc _).alloc _=B at *;have⟨j,k,l,m,n,o,p,q,r⟩:=nL c;exact yb (v:=.tuple #[Af 0 0 none 0 0 none 0 0 0 0 0 ⟨#[]⟩ none 0 0,.bool false]) (by simp[results,results67,go_sem,j,k,l,m,n,o,p,q,r,Af]) rfl ⟨b,.inl ⟨rfl,rfl⟩⟩
def Oc{W:bx}{t:Tr}{b:cg}(a:bI K W t b):Calls prog 67 #[b] W (EE K (iY t) W):=by
 unfold iY
 by_cases h:t.k0=2/\40<=t.p0/\t.args0.length=(bR t.p0).length
 .rw[if_pos h];exact Ke a h.1 h.2.1 h.2.2
 .rw[if_neg h];exact Rn a h
def ZA (p:Int):Nat:=((bR p).filter (λf=>decide (f=116\/f=117))).length
def Cc{st:Tr->ao->iF} : ∀(l:aE) (f:Bool) (s:ao) {g:Bool}{ts:ao},s.length<=1001->s.all bn->iG st l f s =.ok g ts->ts.length<=1001/\ts.all bn
 | [],f,s,g,ts,a,b,h=>by simp only[iG,iF.ok.injEq]at h;obtain⟨rfl,rfl⟩:=h;exact⟨a,b⟩
 | t::l,f,s,g,ts,a,b,h=>by
  simp only[iG]at h
  by_cases c:f
  .simp[c]at h
  .simp only[c]at h
   cases hk:keptF (st t s)with
   | no e=>simp[hk]at h
   | ok d j =>
    simp only[hk]at h;have⟨e,k,i⟩:=nP hk;exact Cc l d j od i (by simpa using h)
def og{l:aE}{t:Tr}(h:t∈l):t.size<=sizes l:=by
 induction l with
 | nil=>cases h
 | cons x l a =>
  simp only[sizes];rcases zr.1 h with rfl|h
  .omega
  .have:=a h;omega
def Zy (p:Int):Nat:=((bR p).filter (λf=>decide (f=99\/f=100))).length
def J9{t:Tr}(h:fu t):bn (kreadT t):=by unfold fu at h;rw[qu]at h;exact h.2
def Iy{i j:Ins}{f:UInt8}{t:Tr}(h:iy i f t=some j) :
 j.p=i.p/\j.types.length=i.types.length+(if f=116\/f=117 then 1 else 0)/\j.rows.length=i.rows.length+(if f=99\/f=100 then 1 else 0)/\(i.types.all bn->j.types.all bn) /\
 (∀P:aE->Prop,(∀l∈i.rows,P l)->P t.args0->∀l∈j.rows,P l)/\(j.data=i.data\/j.data=t)/\(0<=i.n->0<=j.n)/\(i.n<=40->j.n<=40):=by
 unfold iy at h
 by_cases e:f=110
 .subst e;rw[if_pos rfl]at h;split at h
  .rename_i c;cases h;exact⟨rfl,ot,ot,id,λP h _=>h,.inl rfl,λ_=>c.2.1,λ_=>c.2.2⟩
  .cases h
 .rw[if_neg e]at h
  by_cases a:f=116\/f=117
  .rw[if_pos a]at h;have b:¬(f=99\/f=100):=by rcases a with rfl|rfl<;>decide
   split at h
   .rename_i c;cases h;refine⟨rfl,by simp[a],by simp[b],λk=>um k (by simp[J9 c]),λP h _=>h,.inl rfl,id,id⟩
   .cases h
  .rw[if_neg a]at h
   by_cases b:f=99\/f=100
   .rw[if_pos b]at h;split at h
    .cases h;refine⟨rfl,by simp[a],by simp[b],id,λP h g l d=>?_,.inl rfl,id,id⟩;simp only[xb,js]at d;rcases d with d|rfl
     .exact h l d
     .exact g
    .cases h
   .rw[if_neg b]at h;cases h;exact⟨rfl,by simp[a],by simp[b],id,λP h _=>h,.inr rfl,id,id⟩
def takesF_facts:∀(a:bw) (l:aE) (i j:Ins),a.length=l.length->takesF i a l=some j ->
 j.p=i.p/\j.types.length=i.types.length+(a.filter (λf=>decide (f=116\/f=117))).length/\j.rows.length=i.rows.length+(a.filter (λf=>decide (f=99\/f=100))).length/\(i.types.all bn->j.types.all bn) /\
 (∀P:aE->Prop,(∀r∈i.rows,P r)->(∀t∈l,P t.args0)->∀r∈j.rows,P r)/\(j.data=i.data\/j.data∈l)/\(0<=i.n->0<=j.n)/\(i.n<=40->j.n<=40)
 | [],l,i,j,_,h=>by simp only[takesF,qk]at h;subst h;exact⟨rfl,ot,ot,id,λP h _=>h,.inl rfl,id,id⟩
 | f::a,[],i,j,e,h=>by simp at e
 | f::a,t::l,i,j,e,h=>by
  simp only[takesF]at h
  cases d:iy i f t with
  | none=>simp[d]at h
  | some k =>
   simp only[d]at h;have⟨o,q,s,u,v,c,w,x⟩:=Iy d;have⟨y,z,A,B,C,b,D,E⟩:=takesF_facts a l k j (by simpa using e) h;refine⟨y.trans o,?_,?_,λh=>B (u h),λP F m=>C P (v P F (m t ot)) (λG g=>m G (by simp[g])),?_,λh=>D (w h),λh=>E (x h)⟩
   .rw[z,q,List.filter_cons];split<;>simp_all<;>omega
   .rw[A,s,List.filter_cons];split<;>simp_all<;>omega
   .rcases b with b|b
    .rcases c with c|c
     .exact .inl (b.trans c)
     .exact .inr (by rw[b,c];simp)
    .exact .inr (by simp[b])
structure VO (N:Nat) (i:Ins):Prop where
 p40:40<=i.p
 nt:i.types.length=ZA i.p
 nr:i.rows.length=Zy i.p
 gt:i.types.all bn
 rows:∀r∈i.rows,∀x∈r,x.size<=N
 data:i.data.size<=N+1
 n0:0<=i.n
 n1:i.n<=40
 Zx:∀r∈i.rows,okNs r
 Zg:okN i.data
def BJ{t:Tr}(h:okN t):okNs t.args0:=by cases t;exact h.2
def Rm{t:Tr}{i:Ins}{N:Nat}(hk:okN t)(hz:t.size<=N+1)(h:iY t=some i):VO N i:=by
 unfold iY at h;split at h
 .rename_i g;have⟨b,j,k,l,f,a,m,n⟩:=takesF_facts _ _ _ _ g.2.2.symm h;have o:t.size=sizes t.args0+1:=by cases t;rfl
  refine⟨by rw[b];exact g.2.1,by rw[j,b];simp[ZA],by rw[k,b];simp[Zy],l rfl,λr c x e=>?_,?_,m ot,n ot,λr c=>?_,?_⟩
  .refine f (λr=>∀x∈r,x.size<=N) ot (λu d x e=>?_) r c x e;have q:=og d;have s:=og e;have p:u.size=sizes u.args0+1:=by cases u;rfl
   omega
  .rcases a with a|a
   .rw[a];show tr0.size<=_;simp[tr0,Tr.size,sizes]
   .have:=og a;omega
  .exact f okNs ot (λu d=>BJ (okNs_at.1 (BJ hk) u d)) r c
  .rcases a with a|a
   .rw[a];show okN tr0;simp[tr0,okN,okNs,bD,maxLen,ByteArray.size]
   .exact okNs_at.1 (BJ hk) _ a
 .cases h
def U7{t:Tr}{i:Ins}(h:iY t=some i){l:aE}(c:l∈i.rows):l.length<=sizes t.args0:=by
 unfold iY at h;split at h
 .rename_i b;have⟨e,f,g,j,a,_⟩:=takesF_facts _ _ _ _ b.2.2.symm h;refine a (λr=>r.length<=sizes t.args0) ot (λu d=>?_) l c;have m:=og d;have n:=cB u.args0;have k:u.size=sizes u.args0+1:=by cases u;rfl
  omega
 .cases h
open Go.ChangeShapes Go.WideShapes Go.ChangeAt Go.RowKit Pe
def dw.Vf{ok:br}{w:bx}{ts:ao}{a:bj}{V:bt}(h:dw ok w ts a V)(c:Nat):∃vs:bk,vs.length=ts.length/\gZ w (.slice a ts.length c) ts.length (bX vs)/\(bX vs).length=ts.length*2/\(∀u∈bX vs,u.oneCell')/\∀(i:Nat) (t:Ty) (u:cg),ts[i]?=some t->vs[i]?=some u->aH ok w t u:=by
 let vs:=(List.range ts.length).map V
 have f:vs.length=ts.length:=by simp[vs]
 have n:∀i,i<ts.length->vs[i]?=some (V i):=λi g=>by simp[vs,g]
 have C:∀i,i<ts.length->∃t m l k,V i=Go.Proofs.YtgfdimkbfnpepaaGreat.bY t m l k:=λi g=>by have⟨_,_,_,_,t,m,l,k,D,_⟩:=h.2.1 i g;exact⟨t,m,l,k,D⟩
 have E:∀u∈vs,∃t m l k,u=Go.Proofs.YtgfdimkbfnpepaaGreat.bY t m l k:=λu d=>by simp only[vs,ud,List.mem_range]at d;obtain⟨i,g,rfl⟩:=d;exact C i g
 have p:∀u∈vs,(tyCells u).length=2:=λu d=>by obtain⟨t,m,l,k,rfl⟩:=E u d;rfl
 have v:∀(s:bk),(∀u∈s,(tyCells u).length=2)->(bX s).length=s.length*2:=λs=>by
  induction s with
  | nil=>intro _;rfl
  | cons x s J =>
   intro z;have K:=z x ot;have A:=J (λu d=>z u (by simp[d]));simp only[bX,qd4,qT,jt]at A|-;omega
 refine⟨vs,f,?_,by rw[v vs p,f],λu d=>?_,λi t u y d=>?_⟩
 .cases a with
  | none =>
   have B:ts.length=0:=by
    rcases Nat.eq_zero_or_pos ts.length with e|e
    .exact e
    .have⟨b,o,A⟩:=h.base e;cases A
   exact .inl ⟨c,by rw[B],B,by rw[jx (f.trans B)];rfl⟩
  | some F =>
   refine .inr ⟨F,c,rfl,λj u d=>?_⟩;have I:j<(bX vs).length:=(qv.1 d).1;rw[v vs p,f]at I;have g:j / 2<ts.length:=od
   have⟨b,o,e,_,t,m,l,k,D,G,H⟩:=h.2.1 (j / 2) g;have r:=flatT_get vs p (j / 2) (j % 2) (V (j / 2)) (n _ g) od;rw[show j / 2*2+j % 2=j from by omega,d,D]at r;simp only[qk]at e;subst e;rcases (show j % 2=0\/j % 2=1 by omega)with q|q
   .rw[q]at r;simp[tyCells,Go.Proofs.YtgfdimkbfnpepaaGreat.bY]at r;rw[r,<-G];rw[addr_add,show o+j=o+j / 2*2 from by omega]
   .rw[q]at r;simp[tyCells,Go.Proofs.YtgfdimkbfnpepaaGreat.bY]at r;rw[r,<-H];rw[addr_add,show o+j=o+j / 2*2+1 from by omega]
 .simp only[bX,qc1]at d;have⟨x,z,d⟩:=d;obtain⟨t,m,l,k,rfl⟩:=E x z;simp[tyCells,Go.Proofs.YtgfdimkbfnpepaaGreat.bY]at d;rcases d with rfl|rfl<;>rfl
 .have g:i<ts.length:=(qv.1 y).1;rw[n i g]at d;rw[qn g]at y;simp only[qk]at y d;subst y;subst d;exact h.2.2 i g
structure vN (ok:br) (W w:bx) (v:cg) (ts:ao) (vs:bk):Prop where
 own:wS W.heap.size w v vs
 len:vs.length=ts.length
 lies:∀(i:Nat) (t:Ty) (u:cg),ts[i]?=some t->vs[i]?=some u->aH ok W t u
def vN.more{ok:br}{W w w':bx}{v v':cg}{ts us:ao}{vs ns:bk}(h:vN ok W w v ts vs)(e:wS W.heap.size w' v' (vs++ns))(d:ns.length=us.length)(f:∀(i:Nat) (t:Ty) (u:cg),us[i]?=some t->ns[i]?=some u->aH ok W t u):vN ok W w' v' (ts++us) (vs++ns):=by
 refine⟨e,by simp[h.len,d],λi t u a b=>?_⟩
 by_cases c:i<ts.length
 .rw[jz c]at a;rw[jz (by rw[h.len];exact c)]at b;exact h.lies i t u a b
 .rw[ju od]at a;rw[ju (by rw[h.len];omega),h.len]at b;exact f _ t u a b
def K6 (w:bx) (r:iF) (a:bj) (l c:Nat) (f:Bool) (er:Int):Prop :=
 (r =.no er/\er≠0/\a=none/\l=0/\c=0/\f=false)\/(∃ts,r =.ok f ts/\er=0/\jo w ts (.slice a l c))
def WL.is{r:iF}{W:bx}{e:Ending}{w':bx}(h:WL r W e w'):∃a l c f b,e =.returned (.tuple #[.agg #[.slice a l c,.bool f],.i b])/\cm W w' none/\K6 w' r a l c f b:=by
 rcases h.2 with⟨b,d,g,rfl⟩|⟨f,k,a,l,c,d,rfl,j⟩
 .exact⟨none,0,0,false,b,rfl,h.1,.inl ⟨d,g,rfl,rfl,rfl,rfl⟩⟩
 .exact⟨a,l,c,f,0,rfl,h.1,.inr ⟨k,d,rfl,j⟩⟩
def K6.grow{w w':bx}{r:iF}{a:bj}{l c:Nat}{f:Bool}{b:Int}(h:K6 w r a l c f b)(i:cm w w' none):K6 w' r a l c f b:=by
 rcases h with h|⟨j,d,e,g⟩
 .exact .inl h
 .exact .inr ⟨j,d,e,g.grow i⟩
def ent_mi1:∀args w,(callFunc 139 args).run prog w =.ok (.enter 139 args) w:=λargs w=>OK
def zQ(l:aE):mintsTs l=l.any mintsT:=by
 induction l with
 | nil=>simp[mintsTs]
 | cons t l a=>simp[mintsTs,a]
def JB{W:bx}{l:aE}{na:bj}{nc:Nat}{VN:bt}(hN:cK (λ_=>True) W l na VN)
 (hK:∀(j:Nat) (h:j<l.length) (u:bx),cm W u none->Calls prog 139 #[VN j] u λe w'=>e =.returned (.bool (mintsT l[j]))/\cm u w' none) :
 Calls prog 185 #[.slice na l.length nc,.func (.func 139) #[] #[]] W λe w'=>∃r:Int,e =.returned (.i r)/\((0<=r/\l.any mintsT)\/(r = -1/\l.any mintsT=false))/\cm W w' none:=by
 have F:=hN.1;unfold maxLen at F;have C:=jh hN;have s:=jh hK;have J:=ent_mi1;clear hN hK;go_enter func185,ntmps185;go_wp2_with fail;go_loopw [8] (λy wr=>∃j:Nat,j<=l.length/\y =.i j/\(∀i (h:i<l.length),i<j->mintsT l[i]=false)/\cm W wr none) (λy _=>l.length - (intOf y).toNat)
 case atStart=>exact⟨0,zE _,rfl,λi h v=>od,bM _ _⟩
 case round =>
  obtain⟨j,P,rfl,f,c⟩:=hrel;have d:=jh f;have g:=jh c;clear f
  by_cases k:j<l.length
  .obtain⟨b,o,rfl,_,Q,S,T,U,H,R,I,B,K,L,M,N,O⟩:=(C.out.2.1 j k).same (w':=wr) (ni c);have hk:=s.out j k wr c;rw[B]at hk;unfold af at hk;have p:=jh hk;have D:(j:Int)<(l.length:Int):=by omega
   clear c B hk
   cases m:mintsT l[j]with
   | false =>
    rw[m]at p;have t:=jh m;clear m;go_wp2_with fail;refine p.mono ?_;rintro e G ⟨rfl,n⟩;have q:=jh (aJ g n);clear n;go_wp2;go_roundw
    case rel =>
     refine⟨j+1,od,OS,λi h v=>?_,q⟩
     by_cases e:i=j
     .subst e;exact t
     .exact d i h od
    case measure=>simp[intOf];omega
   | true =>
    rw[m]at p;have t:=jh m;clear m;go_wp2_with fail;refine p.mono ?_;rintro e G ⟨rfl,n⟩;have q:=jh (aJ g n);clear n;go_wp2;go_ret;exact⟨_,rfl,.inl ⟨od,ja6.2 ⟨_,zd k,t⟩⟩,q⟩
  .have a:l.any mintsT=false:=by
    cases h:l.any mintsT with
    | false=>rfl
    | true =>
     have⟨x,w,A⟩:=ja6.1 h;obtain⟨i,v,rfl⟩:=ub w;rw[d.out i v od]at A;cases A
   have z:=jh a;have E:¬(j:Int)<(l.length:Int):=od
   clear a c;go_wp2;go_ret;refine⟨_,rfl,.inr ⟨rfl,?_⟩,g⟩
   first|exact z|exact (λx w=>by have h:=z.out;rw[List.any_eq_false]at h;simpa using h x w)
def vU{W:bx}{l:aE}{na:bj}{nc:Nat}{VN:bt}(hN:cK (λ_=>True) W l na VN)
 (hK:∀(j:Nat) (h:j<l.length) (a:bx),cm W a none->Calls prog 139 #[VN j] a λe w'=>e =.returned (.bool (mintsT l[j]))/\cm a w' none) :
 Calls prog 138 #[.slice na l.length nc,.func (.func 139) #[] #[]] W λe w'=>e =.returned (.bool (l.any mintsT))/\cm W w' none:=by
 have H:=jh (JB (nc:=nc) hN hK);clear hN hK;generalize l.any mintsT=q at *;go_enter func138,ntmps138;go_wp2_with fail;refine H.mono ?_;rintro e i ⟨r,rfl,c,b⟩;have d:=jh b;have f:=jh c;clear b c;go_wp2;go_ret;refine Lf.kZ ?_ d;rcases f with⟨g,rfl⟩|⟨rfl,rfl⟩
 .simp[g]
 .rfl
def JR{W:bx}{k n p:Int}{f:bo}{a:bj}{l c:Nat}{b:Bool}(hk:∀o,cm W o none->Calls prog 90 #[.slice a l c] o λe w'=>e =.returned (.bool b)/\cm o w' none) :
 Calls prog 139 #[af k n p f a l c] W λe w'=>e =.returned (.bool (decide (k=2/\p=84)||b))/\cm W w' none:=by
 have d:=jh (aK (w:=W) (.cells #[.i k,.i n,.i p,.string f,.slice a l c] 26));have⟨t,u,v,x,y⟩:=bE (jj W (.cells #[.i k,.i n,.i p,.string f,.slice a l c] 26));have r:=jh (hk _ d);clear hk;unfold af
 by_cases j:k=2
 .by_cases q:p=84
  .subst j;subst q;go_enter func139,ntmps139;go_wp2;go_ret;exact⟨rfl,d⟩
  .have A:(p==84)=false:=by simpa using q
   have g:(decide (k=2/\p=84)||b)=b:=by simp[q]
   rw[g];subst j;clear g;go_enter func139,ntmps139;go_wp2_with fail;refine r.mono ?_;rintro e s ⟨rfl,h⟩;have m:=jh (aJ d h);clear h;go_wp2;go_ret;exact⟨rfl,m⟩
 .have z:(k==2)=false:=by simpa using j
  have g:(decide (k=2/\p=84)||b)=b:=by simp[j]
  rw[g];clear g;go_enter func139,ntmps139;go_wp2_with fail;refine r.mono ?_;rintro e s ⟨rfl,h⟩;have m:=jh (aJ d h);clear h;go_wp2;go_ret;exact⟨rfl,m⟩
def G8{W:bx}{a:bj}{l c:Nat}{b:Bool}(d:Calls prog 138 #[.slice a l c,.func (.func 139) #[] #[]] W λe w'=>e =.returned (.bool b)/\cm W w' none) :
 Calls prog 90 #[.slice a l c] W λe w'=>e =.returned (.bool b)/\cm W w' none:=by
 have H:=jh d;clear d;go_enter func90,ntmps90;go_wp2_with fail;refine H.mono ?_;rintro e h ⟨rfl,f⟩;have g:=jh f;clear f;go_wp2;go_ret;exact⟨rfl,g⟩
def mints_any:∀(N:Nat) {W:bx}{l:aE}{na:bj}{nc:Nat}{VN:bt},cK (λ_=>True) W l na VN->sizes l<=N->Calls prog 90 #[.slice na l.length nc] W λe w'=>e =.returned (.bool (mintsTs l))/\cm W w' none:=by
 intro N
 induction N with
 | zero =>
  intro W l na nc VN hN hz;rw[zQ];refine G8 (vU hN (λj h i g=>?_));have:=cB l;omega
 | succ N u =>
  intro W l na nc VN hN hz;rw[zQ];refine G8 (vU hN (λj h i g=>?_));have b:=(hN.2.2 j h).same (ni g);have f:(l[j]).size<=sizes l:=by have x:=gH l j h;have y:=jF l (j+1);omega
  generalize l[j]=t at *;generalize VN j=v at *
  cases b with
  | @mk k n p s args a c _ V o z B A C m r =>
   have q:mintsT (.nd k n p s args)=(decide (k=2/\p=84)||mintsTs args):=by rw[mintsT]
   rw[q];refine JR (λw d=>u (VN:=V) ?_ ?_)
   .exact cK.same ⟨o,m,r⟩ (ni d)
   .rw[Tr.size]at f;omega
def TB{W:bx}{T:Ty}{t:Int}{a:bj}{l c:Nat}(f:aH (λ_=>True) W T (bY t a l c)) :
 Calls prog 44 #[bY t a l c] W λe w'=>e =.returned (.bool (!bn T))/\cm W w' none:=by
 have b:=jh (aK (w:=W) (.cells #[.i t,.slice a l c] 54));have d:=jj W (.cells #[.i t,.slice a l c] 54);have m:=xq d;have n:=wy d;have H:=jh (nT (f.same (ni b)).low);unfold bY at H|-;clear f d;generalize bn T=g at *;go_enter func44,ntmps44;go_wp2_with fail;refine H.mono ?_;rintro e k ⟨rfl,h⟩;have j:=jh (aJ b h);clear h;go_wp2;go_ret;exact⟨rfl,j⟩
def ent_ag1:∀args w,(callFunc 44 args).run prog w =.ok (.enter 44 args) w:=λargs w=>OK
def JC{W:bx}{s:ao}{a:bj}{l c:Nat}(B:jo W s (.slice a l c)) :
 Calls prog 64 #[.slice a l c,.func (.func 44) #[] #[]] W λe w'=>∃r:Int,e =.returned (.i r)/\((0<=r/\s.all bn=false)\/(r = -1/\s.all bn))/\cm W w' none:=by
 have⟨C,L,K⟩:=B.len;subst C;unfold maxLen at K;have G:=jh B;have Q:=ent_ag1;clear B;go_enter func64,ntmps64;go_wp2_with fail;go_loopw [8] (λD wr=>∃j:Nat,j<=s.length/\D =.i j/\(∀i (h:i<s.length),i<j->bn s[i])/\cm W wr none) (λD _=>s.length - (intOf D).toNat)
 case atStart=>exact⟨0,zE _,rfl,λi h A=>od,bM _ _⟩
 case round =>
  obtain⟨j,R,rfl,k,f⟩:=hrel;have g:=jh k;have m:=jh f;clear k
  by_cases n:j<s.length
  .obtain⟨b,o,t,P,T,S,rfl,O,F,z⟩:=(G.out.grow f).at j n;have v:bB s j=s[j]:=by unfold bB;rw[qn n];rfl
   rw[v]at z;rw[show 2*j=j*2 from jc1 _ _]at O F;rw[<-qd6]at F;have q:=jh (TB z);unfold bY at q;have I:(j:Int)<(s.length:Int):=od
   clear z f v
   cases p:bn s[j]with
   | true =>
    rw[p]at q;have y:=jh p;clear p;go_wp2_with fail;refine q.mono ?_;rintro e N ⟨rfl,u⟩;have w:=jh (aJ m u);clear u;go_wp2;go_roundw
    case rel =>
     refine⟨j+1,od,OS,λi h A=>?_,w⟩
     by_cases e:i=j
     .subst e;exact y
     .exact g i h od
    case measure=>simp[intOf];omega
   | false =>
    rw[p]at q;have y:=jh p;clear p;go_wp2_with fail;refine q.mono ?_;rintro e N ⟨rfl,u⟩;have w:=jh (aJ m u);clear u;go_wp2;go_ret;refine⟨_,rfl,.inl ⟨od,?_⟩,w⟩
    cases H:s.all bn with
    | false=>rfl
    | true=>have:=kB.1 H s[j] (zd n);rw[y.out]at this;cases this
  .have d:s.all bn:=kB.2 λx M=>by
    obtain⟨i,A,rfl⟩:=ub M;exact g i A od
   have E:=jh d;have J:¬(j:Int)<(s.length:Int):=od
   clear d f;go_wp2;go_ret;refine⟨_,rfl,.inr ⟨rfl,?_⟩,m⟩
   first|exact E|exact kB.1 E
def CL{W:bx}{s:ao}{a:bj}{l c:Nat}(f:jo W s (.slice a l c)) :
 Calls prog 43 #[.slice a l c,.func (.func 44) #[] #[]] W λe w'=>e =.returned (.bool (!s.all bn))/\cm W w' none:=by
 have H:=jh (JC f);clear f;generalize s.all bn=q at *;go_enter func43,ntmps43;go_wp2_with fail;refine H.mono ?_;rintro e j ⟨r,rfl,d,b⟩;have g:=jh b;have h:=jh d;clear b d;go_wp2;go_ret;refine Lf.kZ ?_ g;rcases h with⟨i,rfl⟩|⟨rfl,rfl⟩
 .simp[i]
 .rfl
def Ga{W:bx}{s:ao}{a:bj}{l c:Nat}(d:jo W s (.slice a l c)) :
 Calls prog 23 #[.slice a l c] W λe w'=>e =.returned (.bool (s.all bn))/\cm W w' none:=by
 have H:=jh (CL d);clear d;generalize s.all bn=q at *;go_enter func23,ntmps23;go_wp2_with fail;refine H.mono ?_;rintro e g ⟨rfl,b⟩;have f:=jh b;clear b;go_wp2;go_ret;refine Lf.kZ ?_ f;simp
def Qz (l:List Int):A1:=.one (.d (.s 1 (l.map λk=>[.v (.i k)])))
def rowsD:List aE->List bd
 | []=>[]
 | r::rs=>[.s 5 (ndsD r)]::rowsD rs
def uq (p n:Int) (types:ao) (rows:List aE) (dk dn dp:Int) (ds:bo) (da:aE):A1 :=
 .agg [.d (.v (.i p)),.d (.v (.i n)),.d (.s 2 (tysD types)),.d (.s 1 (rowsD rows)),.d (.v (.i dk)),.d (.v (.i dn)),.d (.v (.i dp)),.d (.v (.string ds)),.d (.s 5 (ndsD da))]
def ledA:iF->List A1
 | .no e=>[.agg [.d (.s 0 []),.d (.v (.bool false))],iA e]
 | .ok f ts=>[.agg [.d (.s 2 (tysD ts)),.d (.v (.bool f))],iA 0]
def iH (r:iF):AV:=.rz (ledA r)
def XI{W:bx}{s:ao}{M:cg}{ks:List Int}{kb ko kc:Nat}(T:jo W s M)(hk:∀i (h:i<ks.length),W.cell? ⟨kb,ko+i,none⟩=some (.i ks[i]))(S:ks.length<=8) :
 Calls prog 102 #[M,.slice (some ⟨kb,ko,none⟩) ks.length kc] W λe w'=>e =.returned (.bool (sFq s ks))/\w'=W:=by
 obtain⟨sa,sc,V,rfl,U,x⟩:=T;have u:=x.1;unfold maxLen at u
 by_cases F:s.length<ks.length
 .have hz:(s.length:Int)<(ks.length:Int):=by omega
  have w:sFq s ks=false:=by
   cases h:sFq s ks with
   | false=>rfl
   | true=>have:=slq h;omega
  rw[w];clear x hk;go_enter func102,ntmps102;go_wp2;go_ret;exact⟨rfl,rfl⟩
 .have hz:¬(s.length:Int)<(ks.length:Int):=by omega
  have I:=jh x;have N:=jh hk;clear x hk;go_enter func102,ntmps102;go_wp2_with fail;go_loopw [14] (λH wr=>wr=W/\∃j:Nat,j<=ks.length/\H =.i j/\∀i (h:i<ks.length) (d:i<s.length),i<j->ks[i]=0\/(s[i]).t=ks[i]) (λH _=>ks.length - (intOf H).toNat)
  case atStart=>exact⟨rfl,0,zE _,rfl,λi _ _ h=>od⟩
  case round =>
   obtain⟨G,j,Z,rfl,a⟩:=hrel;replace G:=G.symm;subst G
   by_cases m:j<ks.length
   .have D:(j:Int)<(ks.length:Int):=by omega
    have q:j<s.length:=od
    have K:(j:Int)<(s.length:Int):=od
    have E:=N.out j m;obtain⟨b,o,rfl,_,t,X,l,c,L,Y,z⟩:=I.out.2.1 j q;have A:=I.out.2.2 j q;rw[L]at A;have v:(s[j]).t=t:=by have⟨_,_,_,e,_⟩:=A.inv;simp only[bY,qd7,qf0,xo,jd0,true_and]at e;exact e.1.symm
    have k:=jh a;have J:=jh v;have⟨n,r⟩:∃n,n=ks[j]:=⟨_,rfl⟩;rw[<-r]at E;have p:=jh r;clear a A L z v r F
    by_cases f:n=0
    .subst f;go_wp2;go_roundw
     case rel =>
      refine⟨by trivial,j+1,od,OS,λi B d C=>?_⟩
      by_cases e:i=j
      .subst e;exact .inl p.symm
      .exact k i B d od
     case measure=>simp[intOf];omega
    .have O:(n==0)=false:=by simpa using f
     have P:(n != 0):=by simpa using f
     by_cases g:t=n
     .subst g;go_wp2;go_roundw
      case rel =>
       refine⟨by trivial,j+1,od,OS,λi B d C=>?_⟩
       by_cases e:i=j
       .subst e;exact .inr (J.trans p)
       .exact k i B d od
      case measure=>simp[intOf];omega
     .have Q:(t==n)=false:=by simpa using g
      have R:(t != n):=by simpa using g
      have w:sFq s ks=false:=by
       cases h:sFq s ks with
       | false=>rfl
       | true =>
        have d:=((stand_iff s ks).1 h).2 j m q;rw[J.out,<-p.out]at d;rcases d with d|d
        .exact absurd d f
        .exact absurd d g
      have y:=jh w;clear w;go_wp2;go_ret;exact⟨by rw[y.out];rfl,rfl⟩
   .have D:¬(j:Int)<(ks.length:Int):=by omega
    have v:sFq s ks:=(stand_iff s ks).2 ⟨od,λi z d=>a i z d od⟩;have y:=jh v;clear a v;go_wp2;go_ret;exact⟨by rw[y.out];rfl,rfl⟩
def Ti{s:ao}{ks:List Int}(A:okTs s)(hk:0<ks.length)(z:ks.length<=8):Hd ⟨102,[dZ s,Qz ks],aQ (sFq s ks)⟩:=by
 refine⟨rM func102,λok w C h=>?_⟩
 match C,h with
 | [x,y],⟨n,p,_⟩ =>
  have⟨a,c,U,e,_⟩:=fH (n:fI ok w (.s 2 (tysD s)) x);subst e;have⟨l,j,V,q⟩:=rep_rowT _ (qS _) A n;have⟨G,kc,E,e,r,t,u,f⟩:=fH (p:fI ok w (.s 1 _) y);subst e;have d:∀(i:Nat) (g:i<ks.length),(ks.map λk=>[D.v (.i k)])[i]?=some [D.v (.i ks[i])]:=λi g=>by simp[g]
  obtain⟨⟨b,o,rfl,_⟩,_⟩:=f 0 _ 0 _ (d 0 hk) rfl;have hR:jo w s (.slice a s.length c):=⟨a,c,V,rfl,j,q.ae (λ_ _ _=>trivial)⟩;rw[l];have:=XI (ks:=ks) (kb:=b) (ko:=o) (kc:=kc) hR (λi g=>by have⟨⟨F,H,e,_,m⟩,B⟩:=f i _ 0 _ (d i g) rfl;simp only[qk,qc7,and_true]at e;obtain⟨rfl,rfl⟩:=e;rw[bW B]at m;simpa using m) z
  refine (by simpa using this:Calls _ _ _ _ _).mono ?_;rintro e I ⟨rfl,rfl⟩;exact⟨bM _ _,_,rfl,fI.v _⟩
section
variable {T U:Ty}
def Wx(b:okT T)(c:T.size<=50000000):Hd ⟨99,[tyA T],aQ (oF T)⟩:=jM (bK func99) λe w d h=>by
 match d,h with
 | [v],⟨a,_⟩=>exact tV ((jC b a).ae (λ_ h _=>h)) c
def Wy(b:okT T)(c:T.size<=50000000):Hd ⟨104,[tyA T],aQ (A7 T)⟩:=jM (bK func104) λe w d h=>by
 match d,h with
 | [v],⟨a,_⟩=>exact Jp ((jC b a).ae (λ_ h _=>h)) c
def WC(b:okT T)(c:T.size<=50000000):Hd ⟨112,[tyA T],aQ (eB T)⟩:=jM (bK func112) λe w d h=>by
 match d,h with
 | [v],⟨a,_⟩=>exact BQ ((jC b a).ae (λ_ h _=>h)) c
def Tj(b:okT T)(c:T.size<=50000000):Hd ⟨114,[tyA T],aQ (storeT T)⟩:=jM (bK func114) λe w d h=>by
 match d,h with
 | [v],⟨a,_⟩=>exact KA ((jC b a).ae (λ_ h _=>h)) c
def Po(c:okT T)(e:T.size<=50000000)(d:okT U):Hd ⟨39,[tyA T,tyA U],aQ (sameT T U)⟩:=jM (bK func39) λg w f h=>by
 match f,h with
 | [v,u],⟨a,b,_⟩=>exact Ik ((jC c a).ae (λ_ h _=>h)) ((jC d b).ae (λ_ h _=>h)) e
end
def YZ{x y:ao}{m n:Nat}(j:okTs x)(k:okTs y)(i:m=2\/x=[])(hn:n=2\/y=[])(hz:tysizes x<=50000000):Hd ⟨38,[.one (.d (.s m (tysD x))),.one (.d (.s n (tysD y))),.one (.d (.v (.func (.func 39) #[] #[])))],aQ (sameTs x y)⟩ :=
 jM (bK func38) λok w l h=>by
  match l,h with
  | [u,v,f],⟨a,b,c,_⟩ =>
   obtain⟨q,r,o,rfl,_,e⟩:=jR j i a;obtain⟨t,z,p,rfl,_,g⟩:=jR k hn b;have:=bW c;subst this;exact tY (e.ae (λ_ _ _=>trivial)) (g.ae (λ_ _ _=>trivial)) hz w (bM _ _)
def KZ{l:aE}(f:okNs l):Hd ⟨90,[CW l],aQ (mintsTs l)⟩:=jM (bK func90) λok w g h=>by
 match g,h with
 | [v],⟨b,_⟩ =>
  have⟨a,c,U,e,_⟩:=fH (b:fI ok w (.s 5 (ndsD l)) v);subst e;have⟨e,i,V,d⟩:=rep_rowN _ (qS _) f b;rw[e];exact mints_any _ (d.ae (λ_ _ _=>trivial)) (qS _)
def C9{s:ao}(f:okTs s):Hd ⟨23,[dZ s],aQ (s.all bn)⟩:=jM (bK func23) λok w g h=>by
 match g,h with
 | [v],⟨b,_⟩ =>
  obtain⟨a,c,V,rfl,e,d⟩:=jR f (.inl rfl) b;exact Ga ⟨a,c,V,rfl,e,d.ae (λ_ _ _=>trivial)⟩
def pz(t:Int)(az:ao):Hd ⟨106,[iA t,dZ az],.of (tyA (.nd t az))⟩:=aF func106 []
def dA(t:Int):Hd ⟨106,[iA t,nilA],.of (tyA (.nd t []))⟩:=by
 have h:Hd ⟨106,[iA t,nilA],.of (.agg [.d (.v (.i t)),.d (.s 0 [])])⟩:=aF func106 [];exact h.conv (λ_ _ _ h=>h) (λg w v ⟨f,e,c⟩=>by
  match f,c with
  | [x,y],⟨a,b,_⟩=>exact⟨_,e,a,gG b,trivial⟩)
def vS{s top:ao}(b:okTs s)(c:okTs top)(a:top.length+s.length<=20000000):Hd ⟨103,[dZ s,dZ top],iH (fQ s top)⟩ :=
 aF func103 [⟨_,lg (.inl rfl) (.inl rfl) a⟩]
def AO{s:ao}(b:okTs s)(a:s.length<=20000000):Hd ⟨103,[dZ s,nilA],iH (fQ s [])⟩ :=
 aF func103 [⟨_,lg (m:=0) (x:=[]) (y:=s) (.inr rfl) (.inl rfl) (by simpa using a)⟩]
def ag(e:Int):Hd ⟨22,[iA e],iH (.no e)⟩:=aF func22 []
open Pe
def iX{s:ao}{ks:List Int}(h:sFq s (0::ks)):∃t a r,s =.nd t a::r/\sFq r ks:=by
 cases s with
 | nil=>simp[sFq]at h
 | cons T r =>
  simp only[sFq,qu]at h;have⟨t,a⟩:=T;exact⟨t,a,r,rfl,h.2⟩
def fT{s:ao}{k:Int}{ks:List Int}(hk:k≠0)(h:sFq s (k::ks)):∃a r,s =.nd k a::r/\sFq r ks:=by
 cases s with
 | nil=>simp[sFq]at h
 | cons T r =>
  simp only[sFq,qu,qe0,kj]at h;have⟨t,a⟩:=T;obtain⟨b|b,c⟩:=h
  .exact absurd b hk
  .simp only[Ty.t]at b;subst b;exact⟨a,r,rfl,c⟩
def st2{u v j k:Int}{c d:ao}(f:j≠0)(hk:k≠0)(h:sFq [.nd u c,.nd v d] [j,k]):u=j/\v=k:=by have⟨a,r,e,b⟩:=fT f h;simp only[xo,Ty.nd.injEq]at e;obtain⟨⟨rfl,_⟩,rfl⟩:=e;have⟨a,r,e,_⟩:=fT hk b;simp only[xo,Ty.nd.injEq]at e;exact⟨rfl,e.1.1⟩
def lZ{k:Int}{a:ao}(h:bn (.nd k a))(c:bT k=0):a=[]:=by have b:=xL h;simp only[Ty.args,Ty.t,c]at b;exact jx od
def GR{a:ao}(h:a.length=1):∃t b,a=[.nd t b]:=by
 match a,h with
 | [.nd t b],_=>exact⟨t,b,rfl⟩
def Uk{a:ao}(h:a.length=2):∃t b u c,a=[.nd t b,.nd u c]:=by
 match a,h with
 | [.nd t b,.nd u c],_=>exact⟨t,b,u,c,rfl⟩
def Bi{k:Int}{a:ao}(h:bn (.nd k a))(d:bT k=1):∃t b,a=[.nd t b]:=by have c:=xL h;simp only[Ty.args,Ty.t,d]at c;exact GR od
def vY{k:Int}{a:ao}(h:bn (.nd k a))(e:bT k=2):∃t b u c,a=[.nd t b,.nd u c]:=by have d:=xL h;simp only[Ty.args,Ty.t,e]at d;exact Uk od
def sz_len:∀{s:ao},s.all bn->tysizes s<=300*s.length
 | [],_=>by simp[tysizes]
 | T::s,h=>by simp only[xf,qu]at h;have a:=sz_len h.2;have:=h.1;simp only[bn,qu,kj]at this;simp only[tysizes,jt];omega
def dD{s:ao}(h:s.all bn)(hn:s.length<=1000):tysizes s<=300000:=by have:=sz_len h;omega
section
variable {T U:Ty}{b:Bool}
def aN{s:ao}{k:Int}{ks:List Int}(c:okTs s)(h:sFq s (k::ks)=b)(a:(k::ks).length<=8:=by simp):Hd ⟨102,[dZ s,Qz (k::ks)],aQ b⟩:=h ▸ Ti c ot a
def aS{s:ao}{k:Int}{ks:List Int}(b:okTs s)(h:sFq s (k::ks):=by simp[sFq,Ty.t])(a:(k::ks).length<=8:=by simp):Hd ⟨102,[dZ s,Qz (k::ks)],aQ true⟩:=aN b h a
def dQ{s top:ao}(b:okTs s:=by simp_all [okTs,okT,bD])(c:okTs top:=by simp_all [okTs,okT,bD])(a:top.length+s.length<=20000000:=by simp only[jt,xT]at *;omega):Hd ⟨103,[dZ s,dZ top],iH (fQ s top)⟩:=vS b c a
abbrev HI (f:FuncId) (p n:Int) (types:ao) (rows:List aE) (dk dn dp:Int) (ds:bo) (da:aE) (s:ao) (F:Ins->ao->iF):Prop:=Hd ⟨f,[uq p n types rows dk dn dp ds da,dZ s],iH (F ⟨p,n,types,rows,.nd dk dn dp ds da⟩ s)⟩
def gu(a:okT T)(d:T.size<=50000000)(c:okT U)(h:sameT T U=b):Hd ⟨39,[tyA T,tyA U],aQ b⟩:=h ▸ Po a d c
def uQ(a:okT T)(c:T.size<=50000000)(h:oF T=b):Hd ⟨99,[tyA T],aQ b⟩:=h ▸ Wx a c
def Ak(a:okT T)(c:T.size<=50000000)(h:A7 T=b):Hd ⟨104,[tyA T],aQ b⟩:=h ▸ Wy a c
def pG(a:okT T)(c:T.size<=50000000)(h:eB T=b):Hd ⟨112,[tyA T],aQ b⟩:=h ▸ WC a c
def FO(a:okT T)(c:T.size<=50000000)(h:storeT T=b):Hd ⟨114,[tyA T],aQ b⟩:=h ▸ Tj a c
end
def H_two93:Hd ⟨110,[iA 93],aQ false⟩:=aF func110 []
def H_two94:Hd ⟨110,[iA 94],aQ false⟩:=aF func110 []
def H_two95:Hd ⟨110,[iA 95],aQ false⟩:=aF func110 []
def H_two69:Hd ⟨110,[iA 69],aQ true⟩:=aF func110 []
def H_two70:Hd ⟨110,[iA 70],aQ true⟩:=aF func110 []
def H_two71:Hd ⟨110,[iA 71],aQ true⟩:=aF func110 []
def H_two72:Hd ⟨110,[iA 72],aQ true⟩:=aF func110 []
