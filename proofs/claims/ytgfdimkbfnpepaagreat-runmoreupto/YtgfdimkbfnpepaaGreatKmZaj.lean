import Derived.Test.YtgfdimkbfnpepaaGreatKmZai
namespace Go.Proofs.YtgfdimkbfnpepaaGreat
set_option linter.all false
open Go.Proofs.Tryz
set_option maxRecDepth 100000
set_option maxHeartbeats 4000000
open Go.ChangeShapes Go.WideShapes Go.ChangeAt Go.RowKit
variable {K:Nat->Prop}
def wu.form{t:Tr}{W:World}{e:Ending}{w':World}(h:wu t W e w'):∃T l f k g b,e =.returned (.tuple #[.agg #[.i l,.slice f k g],.i b])/\W.grownBy w' none/\aH (W.heap.size <= ·) w' T (bY l f k g)/\((b=0/\fu t=true/\T=kreadT t)\/(b=1/\fu t=false)):=by
 rcases h.2 with⟨d,u,rfl,j⟩|⟨d,rfl⟩
 .obtain⟨a,c,V,e,_⟩:=j.inv;subst e;exact⟨_,_,_,_,_,_,rfl,h.1,j,.inl ⟨rfl,d,rfl⟩⟩
 .exact⟨.nd 0 [],0,none,0,0,1,rfl,h.1,aH.ofRow ⟨ov,ov⟩ (qv _) (dw.nil _ _ _ (λ_=>.i 0)),.inr ⟨rfl,d⟩⟩
def dh{d w0 r:World}{c:Nat}{i:Ins}{t:Tr}{f:UInt8}{C:Value}{ta da:Option Addr}{tc s g cap:Nat}{vs D:List Value}{T:Ty}{q:Int}{e:Option Addr}{o h S:Nat}{u:Int}(y:f=116\/f=117)
 (hM:kP K d w0 c i.types i.rows (.slice ta vs.length tc) C vs D) (hB:w0.heap[c]?=some (.cells #[.i i.p,.i i.n,.slice ta vs.length tc,C,.i i.data.k0,.i i.data.n0,.i i.data.p0,.string i.data.s0,.slice da i.data.args0.length s] 104 (0,0)))
 (hD:bI (λb=>K b/\b+1<c) d i.data (af i.data.k0 i.data.n0 i.data.p0 i.data.s0 da i.data.args0.length s))
 (hS:d.heap.size<=S) (h1:∀k,(Value.slice ta vs.length tc).ownBlock=some k->k<S) (h2:∀k,C.ownBlock=some k->k<S) (hT:aH (S <= ·) w0 T (bY q e o h))
 (ho:wS d.heap.size r (.slice (some ⟨g,0,none⟩) (vs.length+1) cap) (vs++[bY 0 none 0 0])) (hg:Gr w0 (.slice ta vs.length tc) r (.slice (some ⟨g,0,none⟩) (vs.length+1) cap))
 (hc:(u=0/\fu t=true/\T=kreadT t)\/(u=1/\fu t=false)) :
 lG K d c i f t (.returned (.bool (u==0))) (((r.setCell ⟨g,vs.length*2,none⟩ (.i q)).setCell ⟨g,vs.length*2+1,none⟩ (.slice e o h)).setCell ⟨c,2,none⟩ (.slice (some ⟨g,0,none⟩) (vs.length+1) cap)):=by
 have m:=Qt (Qt hg (vs.length*2) (.i q)) (vs.length*2+1) (.slice e o h);have A:=NY (k:=q) (sa:=e) (sl:=o) (sc:=h) ho;have x:=hM.YI hS h1 h2 hT m A;have E:=hM.lt;have v:=(m.block (qq.1 hB).1 (aD hM.nR hB ov)).trans hB;have z:=dY (bM ((r.setCell ⟨g,vs.length*2,none⟩ (.i q)).setCell ⟨g,vs.length*2+1,none⟩ (.slice e o h)) (some c)) 2 none (.slice (some ⟨g,0,none⟩) (vs.length+1) cap);have a:=x.step z;have w:=XF v (.slice (some ⟨g,0,none⟩) (vs.length+1) cap);have l:¬f=110:=by rcases y with rfl|rfl<;>decide
 rcases hc with⟨rfl,B,rfl⟩|⟨rfl,B⟩
 .refine yC (j:={ i with types:=i.types++[kreadT t] }) ?_ a.grow ⟨_,_,_,_,da,s,w,a,hD⟩;unfold iy;rw[if_neg l,if_pos y,if_pos B]
 .refine uN ?_ a.grow;unfold iy;rw[if_neg l,if_pos y,if_neg (by simp[B])]
def oh{e w0 o:World}{d:Nat}{i:Ins}{t:Tr}{f:UInt8}{tv:Value}{ra da na:Option Addr}{rc q nc g cap:Nat}{vs a:List Value}{VN:Nat->Value}(l:f=99\/f=100)
 (hM:kP K e w0 d i.types i.rows tv (.slice ra a.length rc) vs a) (hB:w0.heap[d]?=some (.cells #[.i i.p,.i i.n,tv,.slice ra a.length rc,.i i.data.k0,.i i.data.n0,.i i.data.p0,.string i.data.s0,.slice da i.data.args0.length q] 104 (0,0)))
 (hD:bI (λb=>K b/\b+1<d) e i.data (af i.data.k0 i.data.n0 i.data.p0 i.data.s0 da i.data.args0.length q))
 (hN:cK (λb=>K b/\b+1<d) e t.args0 na VN/\t.args0.length<=nc)
 (ho:AU e.heap.size o (.slice (some ⟨g,0,none⟩) (a.length+1) cap) (a++[.slice na t.args0.length nc])) (hg:Gr w0 (.slice ra a.length rc) o (.slice (some ⟨g,0,none⟩) (a.length+1) cap)) :
 lG K e d i f t (.returned (.bool (t.k0==3))) (o.setCell ⟨d,3,none⟩ (.slice (some ⟨g,0,none⟩) (a.length+1) cap)):=by
 have u:=hM.YH hN.1 hN.2 hg ho;have r:=(hg.block (qq.1 hB).1 (aD hM.sD hB ov)).trans hB;have v:=dY (bM o (some d)) 3 none (.slice (some ⟨g,0,none⟩) (a.length+1) cap);have c:=u.step v;have s:=XG r (.slice (some ⟨g,0,none⟩) (a.length+1) cap);have h:¬f=110:=by rcases l with rfl|rfl<;>decide
 have k:¬(f=116\/f=117):=by rcases l with rfl|rfl<;>decide
 by_cases m:t.k0=3
 .rw[show (t.k0==3)=true by simpa using m];refine yC (j:={ i with rows:=i.rows++[t.args0] }) ?_ c.grow ⟨_,_,_,_,da,q,s,c,hD⟩;unfold iy;rw[if_neg h,if_neg k,if_pos l,if_pos m]
 .rw[show (t.k0==3)=false by simpa using m];refine uN ?_ c.grow;unfold iy;rw[if_neg h,if_neg k,if_pos l,if_neg m]
def zA{b:Array Oper}{o:Oper}{a:Act}{K:Act->World->Prop}{Q:Exit->Act->World->Prop}{E:Prop}(B:Nat)(vs:List Value)(sa:Option Addr)(sl sc:Nat)(w0:World)(v:Value)(d:o.guard=none)(s x:Operand)
 (ho:o.op =.call { callee:=.builtin .append,args:=#[s,x],argTypes:=#[102,102] }) (hs:a.eval s=v) {H:Nat} (hx:a.eval x =.slice (some ⟨H,0,none⟩) 1 1) (hH:w0.heap.size=H)
 (hown:AU B w0 v vs) (hB:B<=w0.heap.size) (hlen:vs.length<=1000000000)
 (h:∀g cap w',AU B w' (.slice (some ⟨g,0,none⟩) (vs.length+1) cap) (vs++[.slice sa sl sc])->Gr w0 v w' (.slice (some ⟨g,0,none⟩) (vs.length+1) cap)->K (a.put o.dst (.slice (some ⟨g,0,none⟩) (vs.length+1) cap)) w') :
 if Region.wanted o (yielded b a.tmps)=true then Oper.wp prog o a (w0.alloc (.cells #[.slice sa sl sc] 24)) K Q else E:=by
 have n:Region.wanted o (yielded b a.tmps)=true:=by simp[Region.wanted,d]
 rw[if_pos n];obtain⟨p,m,e,f,i⟩:=qg1 Uf;subst hH;refine wp_append_lies _ s x 102 ho B 24 p _ 1 24 underlying102 m e f i rfl ov v vs.length vs hs (xo hown _) ⟨w0.heap.size,0,none⟩ 1 1 [.slice sa sl sc] hx rfl ?_ ?_ ov ?_ ?_ ?_ _ rfl ?_
 .exact qg0 (w:=w0.alloc _) (B:=w0.heap.size) (cs:=#[.slice sa sl sc]) (qT _ _)
 .intro u j;simp at j;subst j;rfl
 .unfold maxLen;omega
 .omega
 .simp;omega
 .intro g cap w' k l c _;refine h g cap w' ?_ ?_
  .unfold AU;rw[qS];exact k
  .refine Gr.trans (Gr.alloc (Gr.refl w0 v) _) ⟨l,?_⟩;rcases c with c|c
   .exact .inl c.symm
   .exact .inr ⟨g,rfl,od⟩
def R7{C W:World}{B:Nat}{i:Ins}{t:Tr}{nv:Value}{f:UInt8}{c:Int}(hf:f=116/\c=116\/f=117/\c=117)(hI:nA K C W B i)(hL:bI (λb=>K b/\b+1<B) C t nv)(aC:i.types.length<=1000)(ay:i.rows.length<=1000) :
 Calls prog 101 #[.pointer (some ⟨B,0,none⟩),.int .u8 c,nv] W (lG K C B i f t):=by
 obtain⟨tv,rv,A,aO,da,dc,X,hM,hD⟩:=hI;obtain⟨na,nc,VN,e1,⟨ik,iN,ip,az⟩,ao⟩:=hL.yX;rw[e1];unfold af;have O:=aK (w:=W) (.cells #[.i t.k0,.i t.n0,.i t.p0,.string t.s0,.slice na t.args0.length nc] 26);have ad:=qT W (.cells #[.i t.k0,.i t.n0,.i t.p0,.string t.s0,.slice na t.args0.length nc] 26);have ab:=l5 X O;have F:=hM.call O;obtain⟨m0,m1,m2,m3,m4⟩:=bE ad;have H:Same (λb=>K b/\b+1<B) C (W.alloc (.cells #[.i t.k0,.i t.n0,.i t.p0,.string t.s0,.slice na t.args0.length nc] 26)):=λb o X hl=>qn (F.grow.block b hl (by have : b+1<B:=X.2;simp;omega));have HP:=jh (Bv ((hL.same H).ae (ok':=(· < (W.alloc (.cells #[.i t.k0,.i t.n0,.i t.p0,.string t.s0,.slice na t.args0.length nc] 26)).heap.size)) (λb X _=>X)));rw[e1]at HP;unfold af at HP;obtain⟨R,U,rfl,_⟩:=vB F.nR;have aE:A.length<=1000:=by have:=F.CU;omega
 obtain⟨z,I,aj⟩:=we hD F ab;clear O ad F ab hM hD X hL ao e1 H;have b1:(A.length:Int)<(A.length:Int)+1:=od
 have b2:(0:Int)<=(A.length:Int):=od
 have b3:A.length<A.length+1:=od
 rcases hf with⟨rfl,rfl⟩|⟨rfl,rfl⟩
 all_goals
  go_enter func101,ntmps101;go_wp2_with fail;generalize W.alloc _=W2 at *;refine HP.mono ?_;rintro e V ai;obtain⟨T,tt,Y,ll,Z,er,rfl,hg,M,G⟩:=ai.form;have Q:=aK (w:=V) (.cells #[.i tt,.slice Y ll Z] 54);have ah:=qT V (.cells #[.i tt,.slice Y ll Z] 54);have J:(V.alloc (.cells #[.i tt,.slice Y ll Z] 54)).grownBy (V.alloc (.cells #[.i tt,.slice Y ll Z] 54)).drew none:=fK (bM _ _);have P:=aJ hg (aJ Q J);have m:=jh (l5 aj P);have j:=jh (I.call P);have aq:Same (W2.heap.size <= ·) V (V.alloc (.cells #[.i tt,.slice Y ll Z] 54)).drew:=λb o _ hl=>qn ((aJ Q J).block b hl ot);have u:=jh (M.same aq);have s:Hid (C.heap.size<=W2.heap.size):=I.out.grow.size;have q:Hid (∀k,(Value.slice R A.length U).ownBlock=some k->k<W2.heap.size):=λk hk=>(kp I.nR k hk).2;have r:Hid (∀k,rv.ownBlock=some k->k<W2.heap.size):=λk hk=>(kp I.sD k hk).2;have N:=l5 ah J;have x0:=xq N;have x1:=wy N;obtain⟨c0,c1,c2,c3,_⟩:=nL m;have ax:True:=trivial;have d:=jh G;have ar:=jh M;clear hg Q J ah P M m0 m1 m2 m3 m4 HP ai N G;go_wp2_with fail;refine qh6 (S:=λ_=>True) oA ?_ (λan=>?_)
  .trivial
  generalize (V.alloc _).drew=L at *;have au:=JJ (aK (w:=L) (.cells #[.i 0,.n0] 54)) c2;have ba:=JJ (aK (w:=L) (.cells #[.i 0,.n0] 54)) x0;have bb:=JJ (aK (w:=L) (.cells #[.i 0,.n0] 54)) x1;refine fG 0 38 ?_;refine fG 1 39 ?_;refine fG 2 40 ?_;refine kA (rs:=[3,4,6]) oA ot ?_;refine jx rfl (λK a=>?_) (jx rfl (λK a=>?_) (jx rfl (λK a=>?_) kj))
  .go_simp;refine a _ _ trivial (λ_=>?_);clear a K;refine fG 5 43 ?_;refine kA (rs:=[4,6]) oA ot ?_;refine jx rfl (λK a=>?_) (jx rfl (λK a=>?_) kj)
   .go_simp;refine a _ _ trivial (λ_=>?_);clear a K;refine kA (rs:=[6]) oA ot ?_;refine jx rfl (λK a=>?_) kj
    .go_simp;refine a _ _ trivial (λ_=>?_);clear a K;refine kA (rs:=[7]) oA ot ?_;refine jx rfl (λK a=>?_) kj;refine JW C.heap.size A 0 none 0 0 L (.slice R A.length U) rfl (.tmp 41) (.tmp 44) rfl rfl rfl rfl j.nR j.grow.size od ?_;intro g D w3 y x;have p:=jh y;have n:=jh x;obtain⟨g0,g1,g2,g3⟩:=vz y;have l:g≠B:=by have:=j.out.lt;omega
     have v:=(x.block (qq.1 m).1 (aD j.nR m ov)).trans m;have d2:=(nL v).2.2.1;have E:=pM v;clear y x v;refine a _ _ trivial (λ_=>?_);clear a K;refine fG 8 46 ?_;refine fG 10 47 ?_;refine fG 11 48 ?_;refine kA (rs:=[9,12]) oA ot ?_;refine jx rfl (λK a=>?_) (jx rfl (λK a=>?_) kj)
     .go_simp;refine a _ _ trivial (λ_=>?_);clear a K;refine kA (rs:=[12]) oA ot ?_;refine jx rfl (λK a=>?_) kj;go_simp;refine a _ _ trivial (λ_=>?_);clear a K;refine qd6 oA ?_ _;go_wp2_with fail;go_ret
      first|exact dh (.inl rfl) j m z s q r u p n d|exact dh (.inr rfl) j m z s q r u p n d
     .go_simp;refine a _ _ trivial (λ_=>?_);clear a K;refine kA (rs:=[9]) oA ot ?_;refine jx rfl (λK a=>?_) kj;go_simp;refine a _ _ trivial (λ_=>?_);clear a K;refine qd6 oA ?_ _;go_wp2_with fail;go_ret
      first
      | (have h:=dh (.inl rfl) j m z s q r u p n d;rw[bu _ _ l,bu _ _ l]at h;exact h)
      | (have h:=dh (.inr rfl) j m z s q r u p n d;rw[bu _ _ l,bu _ _ l]at h;exact h)
   .go_simp;refine a _ _ trivial (λ_=>?_);clear a K;refine kA (rs:=[4]) oA ot ?_;refine jx rfl (λK a=>?_) kj
    .go_simp;refine a _ _ trivial (λ_=>?_);clear a K;refine kA (rs:=[7]) oA ot ?_;refine jx rfl (λK a=>?_) kj;refine JW C.heap.size A 0 none 0 0 L (.slice R A.length U) rfl (.tmp 41) (.tmp 44) rfl rfl rfl rfl j.nR j.grow.size od ?_;intro g D w3 y x;have p:=jh y;have n:=jh x;obtain⟨g0,g1,g2,g3⟩:=vz y;have l:g≠B:=by have:=j.out.lt;omega
     have v:=(x.block (qq.1 m).1 (aD j.nR m ov)).trans m;have d2:=(nL v).2.2.1;have E:=pM v;clear y x v;refine a _ _ trivial (λ_=>?_);clear a K;refine fG 8 46 ?_;refine fG 10 47 ?_;refine fG 11 48 ?_;refine kA (rs:=[9,12]) oA ot ?_;refine jx rfl (λK a=>?_) (jx rfl (λK a=>?_) kj)
     .go_simp;refine a _ _ trivial (λ_=>?_);clear a K;refine kA (rs:=[12]) oA ot ?_;refine jx rfl (λK a=>?_) kj;go_simp;refine a _ _ trivial (λ_=>?_);clear a K;refine qd6 oA ?_ _;go_wp2_with fail;go_ret
      first|exact dh (.inl rfl) j m z s q r u p n d|exact dh (.inr rfl) j m z s q r u p n d
     .go_simp;refine a _ _ trivial (λ_=>?_);clear a K;refine kA (rs:=[9]) oA ot ?_;refine jx rfl (λK a=>?_) kj;go_simp;refine a _ _ trivial (λ_=>?_);clear a K;refine qd6 oA ?_ _;go_wp2_with fail;go_ret
      first
      | (have h:=dh (.inl rfl) j m z s q r u p n d;rw[bu _ _ l,bu _ _ l]at h;exact h)
      | (have h:=dh (.inr rfl) j m z s q r u p n d;rw[bu _ _ l,bu _ _ l]at h;exact h)
  .go_simp;refine a _ _ trivial (λ_=>?_);clear a K;refine kA (rs:=[3,6]) oA ot ?_;refine jx rfl (λK a=>?_) (jx rfl (λK a=>?_) kj)
   .go_simp;refine a _ _ trivial (λ_=>?_);clear a K;refine fG 5 43 ?_;refine kA (rs:=[6]) oA ot ?_;refine jx rfl (λK a=>?_) kj
    .go_simp;refine a _ _ trivial (λ_=>?_);clear a K;refine kA (rs:=[7]) oA ot ?_;refine jx rfl (λK a=>?_) kj;refine JW C.heap.size A 0 none 0 0 L (.slice R A.length U) rfl (.tmp 41) (.tmp 44) rfl rfl rfl rfl j.nR j.grow.size od ?_;intro g D w3 y x;have p:=jh y;have n:=jh x;obtain⟨g0,g1,g2,g3⟩:=vz y;have l:g≠B:=by have:=j.out.lt;omega
     have v:=(x.block (qq.1 m).1 (aD j.nR m ov)).trans m;have d2:=(nL v).2.2.1;have E:=pM v;clear y x v;refine a _ _ trivial (λ_=>?_);clear a K;refine fG 8 46 ?_;refine fG 10 47 ?_;refine fG 11 48 ?_;refine kA (rs:=[9,12]) oA ot ?_;refine jx rfl (λK a=>?_) (jx rfl (λK a=>?_) kj)
     .go_simp;refine a _ _ trivial (λ_=>?_);clear a K;refine kA (rs:=[12]) oA ot ?_;refine jx rfl (λK a=>?_) kj;go_simp;refine a _ _ trivial (λ_=>?_);clear a K;refine qd6 oA ?_ _;go_wp2_with fail;go_ret
      first|exact dh (.inl rfl) j m z s q r u p n d|exact dh (.inr rfl) j m z s q r u p n d
     .go_simp;refine a _ _ trivial (λ_=>?_);clear a K;refine kA (rs:=[9]) oA ot ?_;refine jx rfl (λK a=>?_) kj;go_simp;refine a _ _ trivial (λ_=>?_);clear a K;refine qd6 oA ?_ _;go_wp2_with fail;go_ret
      first
      | (have h:=dh (.inl rfl) j m z s q r u p n d;rw[bu _ _ l,bu _ _ l]at h;exact h)
      | (have h:=dh (.inr rfl) j m z s q r u p n d;rw[bu _ _ l,bu _ _ l]at h;exact h)
   .go_simp;refine a _ _ trivial (λ_=>?_);clear a K;refine kA (rs:=[3]) oA ot ?_;refine jx rfl (λK a=>?_) kj
    .go_simp;refine a _ _ trivial (λ_=>?_);clear a K;refine fG 5 43 ?_;refine kA (rs:=[7]) oA ot ?_;refine jx rfl (λK a=>?_) kj;refine JW C.heap.size A 0 none 0 0 L (.slice R A.length U) rfl (.tmp 41) (.tmp 44) rfl rfl rfl rfl j.nR j.grow.size od ?_;intro g D w3 y x;have p:=jh y;have n:=jh x;obtain⟨g0,g1,g2,g3⟩:=vz y;have l:g≠B:=by have:=j.out.lt;omega
     have v:=(x.block (qq.1 m).1 (aD j.nR m ov)).trans m;have d2:=(nL v).2.2.1;have E:=pM v;clear y x v;refine a _ _ trivial (λ_=>?_);clear a K;refine fG 8 46 ?_;refine fG 10 47 ?_;refine fG 11 48 ?_;refine kA (rs:=[9,12]) oA ot ?_;refine jx rfl (λK a=>?_) (jx rfl (λK a=>?_) kj)
     .go_simp;refine a _ _ trivial (λ_=>?_);clear a K;refine kA (rs:=[12]) oA ot ?_;refine jx rfl (λK a=>?_) kj;go_simp;refine a _ _ trivial (λ_=>?_);clear a K;refine qd6 oA ?_ _;go_wp2_with fail;go_ret
      first|exact dh (.inl rfl) j m z s q r u p n d|exact dh (.inr rfl) j m z s q r u p n d
     .go_simp;refine a _ _ trivial (λ_=>?_);clear a K;refine kA (rs:=[9]) oA ot ?_;refine jx rfl (λK a=>?_) kj;go_simp;refine a _ _ trivial (λ_=>?_);clear a K;refine qd6 oA ?_ _;go_wp2_with fail;go_ret
      first
      | (have h:=dh (.inl rfl) j m z s q r u p n d;rw[bu _ _ l,bu _ _ l]at h;exact h)
      | (have h:=dh (.inr rfl) j m z s q r u p n d;rw[bu _ _ l,bu _ _ l]at h;exact h)
  .go_simp;refine a _ _ trivial (λ_=>?_);clear a K;refine kA (rs:=[3,4]) oA ot ?_;refine jx rfl (λK a=>?_) (jx rfl (λK a=>?_) kj)
   .go_simp;refine a _ _ trivial (λ_=>?_);clear a K;refine fG 5 43 ?_;refine kA (rs:=[4]) oA ot ?_;refine jx rfl (λK a=>?_) kj
    .go_simp;refine a _ _ trivial (λ_=>?_);clear a K;refine kA (rs:=[7]) oA ot ?_;refine jx rfl (λK a=>?_) kj;refine JW C.heap.size A 0 none 0 0 L (.slice R A.length U) rfl (.tmp 41) (.tmp 44) rfl rfl rfl rfl j.nR j.grow.size od ?_;intro g D w3 y x;have p:=jh y;have n:=jh x;obtain⟨g0,g1,g2,g3⟩:=vz y;have l:g≠B:=by have:=j.out.lt;omega
     have v:=(x.block (qq.1 m).1 (aD j.nR m ov)).trans m;have d2:=(nL v).2.2.1;have E:=pM v;clear y x v;refine a _ _ trivial (λ_=>?_);clear a K;refine fG 8 46 ?_;refine fG 10 47 ?_;refine fG 11 48 ?_;refine kA (rs:=[9,12]) oA ot ?_;refine jx rfl (λK a=>?_) (jx rfl (λK a=>?_) kj)
     .go_simp;refine a _ _ trivial (λ_=>?_);clear a K;refine kA (rs:=[12]) oA ot ?_;refine jx rfl (λK a=>?_) kj;go_simp;refine a _ _ trivial (λ_=>?_);clear a K;refine qd6 oA ?_ _;go_wp2_with fail;go_ret
      first|exact dh (.inl rfl) j m z s q r u p n d|exact dh (.inr rfl) j m z s q r u p n d
     .go_simp;refine a _ _ trivial (λ_=>?_);clear a K;refine kA (rs:=[9]) oA ot ?_;refine jx rfl (λK a=>?_) kj;go_simp;refine a _ _ trivial (λ_=>?_);clear a K;refine qd6 oA ?_ _;go_wp2_with fail;go_ret
      first
      | (have h:=dh (.inl rfl) j m z s q r u p n d;rw[bu _ _ l,bu _ _ l]at h;exact h)
      | (have h:=dh (.inr rfl) j m z s q r u p n d;rw[bu _ _ l,bu _ _ l]at h;exact h)
   .go_simp;refine a _ _ trivial (λ_=>?_);clear a K;refine kA (rs:=[3]) oA ot ?_;refine jx rfl (λK a=>?_) kj
    .go_simp;refine a _ _ trivial (λ_=>?_);clear a K;refine fG 5 43 ?_;refine kA (rs:=[7]) oA ot ?_;refine jx rfl (λK a=>?_) kj;refine JW C.heap.size A 0 none 0 0 L (.slice R A.length U) rfl (.tmp 41) (.tmp 44) rfl rfl rfl rfl j.nR j.grow.size od ?_;intro g D w3 y x;have p:=jh y;have n:=jh x;obtain⟨g0,g1,g2,g3⟩:=vz y;have l:g≠B:=by have:=j.out.lt;omega
     have v:=(x.block (qq.1 m).1 (aD j.nR m ov)).trans m;have d2:=(nL v).2.2.1;have E:=pM v;clear y x v;refine a _ _ trivial (λ_=>?_);clear a K;refine fG 8 46 ?_;refine fG 10 47 ?_;refine fG 11 48 ?_;refine kA (rs:=[9,12]) oA ot ?_;refine jx rfl (λK a=>?_) (jx rfl (λK a=>?_) kj)
     .go_simp;refine a _ _ trivial (λ_=>?_);clear a K;refine kA (rs:=[12]) oA ot ?_;refine jx rfl (λK a=>?_) kj;go_simp;refine a _ _ trivial (λ_=>?_);clear a K;refine qd6 oA ?_ _;go_wp2_with fail;go_ret
      first|exact dh (.inl rfl) j m z s q r u p n d|exact dh (.inr rfl) j m z s q r u p n d
     .go_simp;refine a _ _ trivial (λ_=>?_);clear a K;refine kA (rs:=[9]) oA ot ?_;refine jx rfl (λK a=>?_) kj;go_simp;refine a _ _ trivial (λ_=>?_);clear a K;refine qd6 oA ?_ _;go_wp2_with fail;go_ret
      first
      | (have h:=dh (.inl rfl) j m z s q r u p n d;rw[bu _ _ l,bu _ _ l]at h;exact h)
      | (have h:=dh (.inr rfl) j m z s q r u p n d;rw[bu _ _ l,bu _ _ l]at h;exact h)
def R6{I W:World}{z:Nat}{i:Ins}{t:Tr}{nv:Value}{f:UInt8}{c:Int}(hf:f=99/\c=99\/f=100/\c=100)(hI:nA K I W z i)(U:bI (λb=>K b/\b+1<z) I t nv)(ah:i.types.length<=1000)(ad:i.rows.length<=1000) :
 Calls prog 101 #[.pointer (some ⟨z,0,none⟩),.int .u8 c,nv] W (lG K I z i f t):=by
 obtain⟨tv,rv,vs,m,da,dc,X,V,Z⟩:=hI;obtain⟨A,B,VN,R,⟨ik,iN,ip,ae⟩,y⟩:=U.yX;have L:=And.intro y (U.Y5 R);clear y;rw[R];unfold af;have E:=aK (w:=W) (.cells #[.i t.k0,.i t.n0,.i t.p0,.string t.s0,.slice A t.args0.length B] 26);have C:=qT W (.cells #[.i t.k0,.i t.n0,.i t.p0,.string t.s0,.slice A t.args0.length B] 26);have M:=l5 X E;have v:=V.call E;obtain⟨m0,m1,m2,m3,m4⟩:=bE C;have x:(W.alloc (.cells #[.i t.k0,.i t.n0,.i t.p0,.string t.s0,.slice A t.args0.length B] 26)).grownBy (W.alloc (.cells #[.i t.k0,.i t.n0,.i t.p0,.string t.s0,.slice A t.args0.length B] 26)).drew none:=fK (bM _ _);have D:=l5 C x;obtain⟨y0,y1,y2,y3,y4⟩:=bE D;have r:=jh D;obtain⟨O,P,rfl,_⟩:=vB v.sD;have ai:m.length<=1000:=by have:=v.CS;omega
 obtain⟨H,h,d,s⟩:=JT Z (v.call x) (l5 M x) L;have G:some W.heap.size≠(Value.slice O m.length P).ownBlock:=λe=>by have:=(kp V.sD W.heap.size e.symm).2;omega
 have F:W.heap.size≠z:=by have:=(qq.1 X).1;omega
 obtain⟨c0,c1,c2,c3,_⟩:=nL d;have ab:True:=trivial;clear E C v M V Z X U L R x D;rcases hf with⟨rfl,rfl⟩|⟨rfl,rfl⟩
 all_goals
  go_enter func101,ntmps101;go_wp2_with fail;refine qh6 (S:=λ_=>True) oA ?_ (λT=>?_)
  .trivial
  generalize (W.alloc _).drew=Q at *;have aa:=JJ (aK (w:=Q) (.cells #[.slice A t.args0.length B] 24)) c3;refine fG 0 54 ?_;refine fG 1 55 ?_;refine fG 2 56 ?_;refine fG 3 57 ?_;refine fG 5 59 ?_;refine kA (rs:=[4,6]) oA ot ?_;refine jx rfl (λK a=>?_) (jx rfl (λK a=>?_) kj)
  .go_simp;refine a _ _ trivial (λ_=>?_);clear a K;refine kA (rs:=[6]) oA ot ?_;refine jx rfl (λK a=>?_) kj;go_simp;refine a _ _ trivial (λ_=>?_);clear a K;refine kA (rs:=[7]) oA ot ?_;refine jx rfl (λK a=>?_) kj;go_simp;refine a _ _ trivial (λ_=>?_);clear a K;refine kA (rs:=[8]) oA ot ?_;refine jx rfl (λK a=>?_) kj;refine zA I.heap.size m A t.args0.length B Q (.slice O m.length P) rfl (.tmp 58) (.tmp 61) rfl rfl rfl rfl h.sD h.grow.size od ?_;intro g u N q j;have o:=jh q;have n:=jh j;have l:=(j.block (qq.1 d).1 (aD h.sD d ov)).trans d;have Y:=(nL l).2.2.2.1;have J:=pM l;have k:=(j.block (qq.1 r).1 G).trans r;have p:=((dY (bM N (some z)) 3 none (.slice (some ⟨g,0,none⟩) (m.length+1) u)).block _ (qq.1 k).1 (by simpa using F)).trans k;obtain⟨q0,_⟩:=bE k;obtain⟨r0,_⟩:=bE p;clear q j l k p;refine a _ _ trivial (λ_=>?_);clear a K;refine fG 9 63 ?_;refine fG 10 64 ?_;refine kA (rs:=[11]) oA ot ?_;refine jx rfl (λK a=>?_) kj;go_simp;refine a _ _ trivial (λ_=>?_);clear a K;refine qd6 oA ?_ _;go_wp2_with fail;go_ret
   first|exact oh (.inl rfl) h d H s o n|exact oh (.inr rfl) h d H s o n
  .go_simp;refine a _ _ trivial (λ_=>?_);clear a K;refine kA (rs:=[4,7]) oA ot ?_;refine jx rfl (λK a=>?_) (jx rfl (λK a=>?_) kj)
   .go_simp;refine a _ _ trivial (λ_=>?_);clear a K;refine kA (rs:=[7]) oA ot ?_;refine jx rfl (λK a=>?_) kj;go_simp;refine a _ _ trivial (λ_=>?_);clear a K;refine kA (rs:=[8]) oA ot ?_;refine jx rfl (λK a=>?_) kj;refine zA I.heap.size m A t.args0.length B Q (.slice O m.length P) rfl (.tmp 58) (.tmp 61) rfl rfl rfl rfl h.sD h.grow.size od ?_;intro g u N q j;have o:=jh q;have n:=jh j;have l:=(j.block (qq.1 d).1 (aD h.sD d ov)).trans d;have Y:=(nL l).2.2.2.1;have J:=pM l;have k:=(j.block (qq.1 r).1 G).trans r;have p:=((dY (bM N (some z)) 3 none (.slice (some ⟨g,0,none⟩) (m.length+1) u)).block _ (qq.1 k).1 (by simpa using F)).trans k;obtain⟨q0,_⟩:=bE k;obtain⟨r0,_⟩:=bE p;clear q j l k p;refine a _ _ trivial (λ_=>?_);clear a K;refine fG 9 63 ?_;refine fG 10 64 ?_;refine kA (rs:=[11]) oA ot ?_;refine jx rfl (λK a=>?_) kj;go_simp;refine a _ _ trivial (λ_=>?_);clear a K;refine qd6 oA ?_ _;go_wp2_with fail;go_ret
    first|exact oh (.inl rfl) h d H s o n|exact oh (.inr rfl) h d H s o n
   .go_simp;refine a _ _ trivial (λ_=>?_);clear a K;refine kA (rs:=[4]) oA ot ?_;refine jx rfl (λK a=>?_) kj;go_simp;refine a _ _ trivial (λ_=>?_);clear a K;refine kA (rs:=[8]) oA ot ?_;refine jx rfl (λK a=>?_) kj;refine zA I.heap.size m A t.args0.length B Q (.slice O m.length P) rfl (.tmp 58) (.tmp 61) rfl rfl rfl rfl h.sD h.grow.size od ?_;intro g u N q j;have o:=jh q;have n:=jh j;have l:=(j.block (qq.1 d).1 (aD h.sD d ov)).trans d;have Y:=(nL l).2.2.2.1;have J:=pM l;have k:=(j.block (qq.1 r).1 G).trans r;have p:=((dY (bM N (some z)) 3 none (.slice (some ⟨g,0,none⟩) (m.length+1) u)).block _ (qq.1 k).1 (by simpa using F)).trans k;obtain⟨q0,_⟩:=bE k;obtain⟨r0,_⟩:=bE p;clear q j l k p;refine a _ _ trivial (λ_=>?_);clear a K;refine fG 9 63 ?_;refine fG 10 64 ?_;refine kA (rs:=[11]) oA ot ?_;refine jx rfl (λK a=>?_) kj;go_simp;refine a _ _ trivial (λ_=>?_);clear a K;refine qd6 oA ?_ _;go_wp2_with fail;go_ret
    first|exact oh (.inl rfl) h d H s o n|exact oh (.inr rfl) h d H s o n
def XQ{n W:World}{g:Nat}{i:Ins}{t:Tr}{z:Value}{f:UInt8}{c:Int}(p:f≠110/\¬(f=116\/f=117)/\¬(f=99\/f=100))(D:nA K n W g i)(o:bI (λb=>K b/\b+1<g) n t z)(E:c≠110/\c≠116/\c≠117/\c≠99/\c≠100)(H:i.types.length<=1000)(F:i.rows.length<=1000) :
 Calls prog 101 #[.pointer (some ⟨g,0,none⟩),.int .u8 c,z] W (lG K n g i f t):=by
 obtain⟨tv,I,J,u,V,X,x,v,C⟩:=D;obtain⟨h,j,L,r,⟨Z,Y,ip,G⟩,s⟩:=o.yX;rw[r];unfold af;have e:=aK (w:=W) (.cells #[.i t.k0,.i t.n0,.i t.p0,.string t.s0,.slice h t.args0.length j] 26);have l:=qT W (.cells #[.i t.k0,.i t.n0,.i t.p0,.string t.s0,.slice h t.args0.length j] 26);have a:=l5 x e;have k:=v.call e;obtain⟨m0,m1,m2,m3,m4⟩:=bE l;have y:=XH a (.i t.k0) (.i t.n0) (.i t.p0) (.string t.s0) (.slice h t.args0.length j);have m:=dY (dY (dY (dY (dY (bM (W.alloc (.cells #[.i t.k0,.i t.n0,.i t.p0,.string t.s0,.slice h t.args0.length j] 26)) (some g)) 4 none (.i t.k0)) 5 none (.i t.n0)) 6 none (.i t.p0)) 7 none (.string t.s0)) 8 none (.slice h t.args0.length j);have d:=k.step m;rw[r]at o;have A:Hid (nA K n _ g { i with data:=t }):=⟨tv,I,J,u,h,j,y,d,o⟩;have q:=jh d.grow;have fr:=pM a;obtain⟨M,N,O,P,Q,R,S,T,U⟩:=nL a;have B:Hid (iy i f t=some { i with data:=t }):=by show _=_;unfold iy;rw[if_neg p.1,if_neg p.2.1,if_neg p.2.2]
 have p1:(c==110)=false:=vh
 have p2:(c==116)=false:=vh
 have p3:(c==117)=false:=vh
 have p4:(c==99)=false:=vh
 have p5:(c==100)=false:=vh
 clear d m y k a e l v C x o s r p E;go_enter func101,ntmps101;go_wp2_with fail;go_ret;exact yC B q A
variable {K:Nat->Prop}
def pK(p:Int)(W:World):Calls prog 100 #[.i p] W λe w'=>e =.returned (.string ⟨(bR p).toArray⟩)/\w'=W:=by
 by_cases a:p=41
 .subst a;go_enter func100,ntmps100;go_wp2_with fail;go_ret;exact⟨rfl,rfl⟩
 by_cases b:p=43
 .subst b;go_enter func100,ntmps100;go_wp2_with fail;go_ret;exact⟨rfl,rfl⟩
 by_cases c:p=44
 .subst c;go_enter func100,ntmps100;go_wp2_with fail;go_ret;exact⟨rfl,rfl⟩
 by_cases d:p=45
 .subst d;go_enter func100,ntmps100;go_wp2_with fail;go_ret;exact⟨rfl,rfl⟩
 by_cases f:p=50
 .subst f;go_enter func100,ntmps100;go_wp2_with fail;go_ret;exact⟨rfl,rfl⟩
 by_cases g:p=51
 .subst g;go_enter func100,ntmps100;go_wp2_with fail;go_ret;exact⟨rfl,rfl⟩
 by_cases j:p=54
 .subst j;go_enter func100,ntmps100;go_wp2_with fail;go_ret;exact⟨rfl,rfl⟩
 by_cases l:p=56
 .subst l;go_enter func100,ntmps100;go_wp2_with fail;go_ret;exact⟨rfl,rfl⟩
 by_cases u:p=82
 .subst u;go_enter func100,ntmps100;go_wp2_with fail;go_ret;exact⟨rfl,rfl⟩
 by_cases v:p=88
 .subst v;go_enter func100,ntmps100;go_wp2_with fail;go_ret;exact⟨rfl,rfl⟩
 by_cases o:p=61
 .subst o;go_enter func100,ntmps100;go_wp2_with fail;go_ret;exact⟨rfl,rfl⟩
 by_cases h:p=52
 .subst h;go_enter func100,ntmps100;go_wp2_with fail;go_ret;exact⟨rfl,rfl⟩
 by_cases k:p=55
 .subst k;go_enter func100,ntmps100;go_wp2_with fail;go_ret;exact⟨rfl,rfl⟩
 by_cases m:p=58
 .subst m;go_enter func100,ntmps100;go_wp2_with fail;go_ret;exact⟨rfl,rfl⟩
 by_cases q:p=64
 .subst q;go_enter func100,ntmps100;go_wp2_with fail;go_ret;exact⟨rfl,rfl⟩
 by_cases n:p=60
 .subst n;go_enter func100,ntmps100;go_wp2_with fail;go_ret;exact⟨rfl,rfl⟩
 by_cases r:p=65
 .subst r;go_enter func100,ntmps100;go_wp2_with fail;go_ret;exact⟨rfl,rfl⟩
 by_cases t:p=68
 .subst t;go_enter func100,ntmps100;go_wp2_with fail;go_ret;exact⟨rfl,rfl⟩
 by_cases s:p=66
 .subst s;go_enter func100,ntmps100;go_wp2_with fail;go_ret;exact⟨rfl,rfl⟩
 have w:bR p=[]:=by simp[bR,a,b,c,d,f,g,j,l,u,v,o,h,k,m,q,n,r,t,s]
 have y:(p==41)=false:=by simpa using a
 have z:(p==43)=false:=by simpa using b
 have A:(p==44)=false:=by simpa using c
 have B:(p==45)=false:=by simpa using d
 have C:(p==50)=false:=by simpa using f
 have D:(p==51)=false:=by simpa using g
 have F:(p==54)=false:=by simpa using j
 have H:(p==56)=false:=by simpa using l
 have P:(p==82)=false:=by simpa using u
 have Q:(p==88)=false:=by simpa using v
 have K:(p==61)=false:=by simpa using o
 have E:(p==52)=false:=by simpa using h
 have G:(p==55)=false:=by simpa using k
 have I:(p==58)=false:=by simpa using m
 have L:(p==64)=false:=by simpa using q
 have J:(p==60)=false:=by simpa using n
 have M:(p==65)=false:=by simpa using r
 have O:(p==68)=false:=by simpa using t
 have N:(p==66)=false:=by simpa using s
 have x:=jh w;clear w;go_enter func100,ntmps100;go_wp2_with fail;go_ret;exact⟨by rw[x.out];rfl,rfl⟩
variable {K:Nat->Prop}
def II{f:UInt8}{k:Nat}(hk:k<256)(h:f≠UInt8.ofNat k):(f.toNat:Int)≠(k:Int):=λe=>h (by
 have a:f.toNat=k:=od
 rw[<-a,UInt8.ofNat_toNat])
def R5{h W:World}{g:Nat}{i:Ins}{t:Tr}{p:Value}(f:UInt8)(d:nA K h W g i)(e:bI (λb=>K b/\b+1<g) h t p)(c:i.types.length<=1000)(a:i.rows.length<=1000) :
 Calls prog 101 #[.pointer (some ⟨g,0,none⟩),.int .u8 (f.toNat:Int),p] W (lG K h g i f t):=by
 by_cases j:f=110
 .subst j;exact Vq d e
 .by_cases l:f=116
  .subst l;exact R7 (.inl ⟨rfl,rfl⟩) d e c a
  .by_cases m:f=117
   .subst m;exact R7 (.inr ⟨rfl,rfl⟩) d e c a
   .by_cases n:f=99
    .subst n;exact R6 (.inl ⟨rfl,rfl⟩) d e c a
    .by_cases o:f=100
     .subst o;exact R6 (.inr ⟨rfl,rfl⟩) d e c a
     .exact XQ ⟨j,by simp[l,m],by simp[n,o]⟩ d e ⟨II (k:=110) ov j,II (k:=116) ov l,II (k:=117) ov m,II (k:=99) ov n,II (k:=100) ov o⟩ c a
def OA{i j:Ins}{f:UInt8}{t:Tr}(h:iy i f t=some j):j.types.length<=i.types.length+1/\j.rows.length<=i.rows.length+1:=by
 unfold iy at h;split at h
 .split at h
  .cases h;exact⟨jh5 _,jh5 _⟩
  .cases h
 .split at h
  .split at h
   .cases h;simp
   .cases h
  .split at h
   .split at h
    .cases h;simp
    .cases h
   .cases h;exact⟨jh5 _,jh5 _⟩
def EE (K:Nat->Prop) (r:Option Ins) (W:World) (e:Ending) (w':World):Prop :=
 W.grownBy w' none/\((r=none/\e =.returned (.tuple #[Af 0 0 none 0 0 none 0 0 0 0 0 ⟨#[]⟩ none 0 0,.bool false]))\/∃i ta tc ra rc da dc,r=some i/\e =.returned (.tuple #[Af i.p i.n ta i.types.length tc ra i.rows.length rc i.data.k0 i.data.n0 i.data.p0 i.data.s0 da i.data.args0.length dc,.bool true]) /\
  (i.types.length<=tc/\∃V,dw (W.heap.size <= ·) w' i.types ta V)/\PM (λb=>K b\/W.heap.size<=b) w' i.rows ra/\i.rows.length<=rc/\bI K w' i.data (af i.data.k0 i.data.n0 i.data.p0 i.data.s0 da i.data.args0.length dc))
def Kr (w:World) (g:Nat) (y0 y1 y2 y3 y4 y5 y6 y7 y8:Value):World:=((((((((w.setCell ⟨g,0,none⟩ y0).setCell ⟨g,1,none⟩ y1).setCell ⟨g,2,none⟩ y2).setCell ⟨g,3,none⟩ y3).setCell ⟨g,4,none⟩ y4).setCell ⟨g,5,none⟩ y5).setCell ⟨g,6,none⟩ y6).setCell ⟨g,7,none⟩ y7).setCell ⟨g,8,none⟩ y8
def Cm{w:World}{g:Nat}{T:TypeId}{x0 l m n o p q r s:Value}(h:w.heap[g]?=some (.cells #[x0,l,m,n,o,p,q,r,s] T (0,0)))(a b c d e f i j k:Value):(Kr w g a b c d e f i j k).heap[g]?=some (.cells #[a,b,c,d,e,f,i,j,k] T (0,0)):=by simp[Kr,World.setCell,yr,h]
def Eh(w:World)(g:Nat)(a b c d e f h i j:Value):w.grownBy (Kr w g a b c d e f h i j) (some g) :=
 dY (dY (dY (dY (dY (dY (dY (dY (dY (bM w (some g)) 0 none a) 1 none b) 2 none c) 3 none d) 4 none e) 5 none f) 6 none h) 7 none i) 8 none j
def uY{w d e:World}{b:Nat}(h:w.grownBy d none)(a:d.grownBy e (some b))(g:w.heap.size<=b):w.grownBy e none :=
 ⟨a.os.trans h.os,a.tape.trans h.tape,a.output.trans h.output,kh h.size a.size,λk c f=>(a.block k (jz c h.size) oB).trans (h.block k c f)⟩
def Iz{i j:Ins}{a:List UInt8}{l:List Tr}{k:Nat}(b:k<a.length)(c:k<l.length):takesF i (a.drop k) (l.drop k)=match iy i a[k] l[k]with
 | none=>none
 | some j=>takesF j (a.drop (k+1)) (l.drop (k+1)):=by
 rw[qa5 b,qa5 c];rfl
def Ke{W:World}{t:Tr}{nv:Value}(hL:bI K W t nv)(h1:t.k0=2)(h2:40<=t.p0)(h3:t.args0.length=(bR t.p0).length) :
 Calls prog 67 #[nv] W (EE K (takesF ⟨t.p0,0,[],[],tr0⟩ (bR t.p0) t.args0) W):=by
 obtain⟨na,nc,VN,e1,⟨ik,iN,ip,bq⟩,X⟩:=hL.yX;rw[e1];unfold af;have bm:t.args0.length<=3:=by rw[h3];unfold bR;split<;>(try split)<;>(try split)<;>(try split)<;>(try split)<;>(try split)<;>(try split)<;>simp
 have br:(ByteArray.mk (bR t.p0).toArray).size=t.args0.length:=by rw[h3];simp[ByteArray.size]
 obtain⟨F,aE,U,T⟩:=XJ W (.cells #[.i 2,.i t.n0,.i t.p0,.string t.s0,.slice na t.args0.length nc] 26) (.cells #[.i 0,.i 0,.n0,.n0,.i 0,.i 0,.i 0,.string ⟨#[]⟩,.n0] 104) (.cells #[.i t.p0,.i 0,.n0,.n0,.i 0,.i 0,.i 0,.string ⟨#[]⟩,.n0] 104);have B:(((W.alloc (.cells #[.i 2,.i t.n0,.i t.p0,.string t.s0,.slice na t.args0.length nc] 26)).alloc (.cells #[.i 0,.i 0,.n0,.n0,.i 0,.i 0,.i 0,.string ⟨#[]⟩,.n0] 104)).alloc (.cells #[.i t.p0,.i 0,.n0,.n0,.i 0,.i 0,.i 0,.string ⟨#[]⟩,.n0] 104)).heap.size=W.heap.size+1+1+1:=ot
 have N:Hid (cK (λb=>K b/\b+1<W.heap.size+1+1) _ t.args0 na VN):=((X.ae (ok':=λb=>K b/\b<W.heap.size) (λb g h=>⟨h,g⟩)).same (λb o g _=>qn (F.block b g.2 ot))).ae (λb _ g=>⟨g.1,by have : b<W.heap.size:=g.2;omega⟩);have L:Hid (nA K _ _ (W.heap.size+1+1) ⟨t.p0,0,[],[],tr0⟩):=⟨.n0,.n0,[],[],none,0,T,⟨bM _ _,by rw[B];omega,qa2 _ _ _ _,rfl,λk t u h=>by simp at h,qa2 _ _ _ _,rfl,λk t u h=>by simp at h⟩,bI.mk (hk:=kB _) (λ_=>.i 0) (kB _) (kB _) ⟨ov,ov⟩ ⟨ov,ov⟩ ⟨ov,ov⟩ (λi hi=>by cases hi) (λi hi=>by cases hi)⟩;obtain⟨z,m,bf⟩:=we F U B;have bd:¬t.p0<40:=od
 have bk:(bR t.p0).length=t.args0.length:=h3.symm;obtain⟨q,hq⟩:∃q,q=takesF ⟨t.p0,0,[],[],tr0⟩ (bR t.p0) t.args0:=⟨_,rfl⟩;rw[<-hq];have HQ:=jh hq;generalize t.k0=kk at *;subst h1;clear hq hL X F aE U T B h3 e1 h2;go_enter func67,ntmps67;go_wp2_with fail;refine (pK _ _).mono ?_;rintro e w1 ⟨rfl,rfl⟩;go_wp2_with fail;generalize ((W.alloc _).alloc _).alloc _=WB at *;go_loopw [34] (λiv wr=>∃(j:Nat) (i:Ins),j<=t.args0.length/\iv =.i j/\nA K WB wr (W.heap.size+1+1) i/\i.types.length<=j/\i.rows.length<=j/\q=takesF i ((bR t.p0).drop j) (t.args0.drop j)) (λiv _=>t.args0.length - (intOf iv).toNat)
 case atStart=>exact⟨0,_,kB _,rfl,L,qv _,qv _,HQ⟩
 case round =>
  obtain⟨j,i,hj,rfl,J,bt,bp,aj⟩:=hrel;have d:WB.grownBy wr (some (W.heap.size+1+1)):=by obtain⟨_,_,_,_,_,_,_,hm,_⟩:=J;exact hm.grow
  have hR:=(d.block _ (qq.1 m).1 ot).trans m;have c:=jh aj;have aq:=jh d;clear aj L HQ
  by_cases I:j<t.args0.length
  .obtain⟨b,o,rfl,aO,k',n',p',s',a',l',c',hv,y0,y1,y2,y3,y4⟩:=N.out.2.1 j I;have A:=N.out.2.2 j I;rw[hv]at A;have s:j<(bR t.p0).length:=by omega
   have ba:(j:Int)<(t.args0.length:Int):=od
   have a:∀{o:Nat} {v:Value},WB.cell? ⟨b,o,none⟩=some v->wr.cell? ⟨b,o,none⟩=some v:=λ{o v} h=>(qn (d.block b (kd WB _ h) (by have h1:b+1<W.heap.size+1+1:=aO.2;simp;omega))).trans h;have z0:=a y0;have z1:=a y1;have z2:=a y2;have z3:=a y3;have z4:=a y4;have ab:=aK (w:=wr) (.cells #[.i k',.i n',.i p',.string s',.slice a' l' c'] 26);have Z:=qT wr (.cells #[.i k',.i n',.i p',.string s',.slice a' l' c'] 26);have G:(wr.alloc (.cells #[.i k',.i n',.i p',.string s',.slice a' l' c'] 26)).grownBy (wr.alloc (.cells #[.i k',.i n',.i p',.string s',.slice a' l' c'] 26)).drew none:=fK (bM _ _);obtain⟨n0,n1,n2,n3,n4⟩:=bE (l5 Z G);have HT:=jh (R5 ((bR t.p0)[j]'s) (J.call (aJ ab G)) A od od);have l:=jh (Iz (i:=i) (j:=i) s I);have bl:True:=trivial;have bo:(ByteArray.mk (bR t.p0).toArray).data[j]?=some ((bR t.p0)[j]'s):=by simp[s]
   clear J A ab Z G d hR a y0 y1 y2 y3 y4;go_wp2_with fail;refine qh6 (S:=λ_=>True) oA ?_ (λaC=>?_)
   .trivial
   generalize (wr.alloc _).drew=w5 at *;refine fG 0 39 ?_;refine fG 1 40 ?_;refine fG 2 41 ?_;refine kA (rs:=[3]) oA ot ?_;refine jx rfl (λK R=>?_) kj;go_simp;refine R _ _ trivial (λ_=>?_);clear R K;refine kA (rs:=[4]) oA ot ?_;refine jx rfl (λK R=>?_) kj;go_simp;go_at_call 101;refine HT.mono ?_;rintro e w6 ⟨ok,rfl,x,D⟩;refine R _ _ trivial (λ_=>?_);clear R K HT;refine fG 5 44 ?_;refine qd6 oA ?_ _;rcases D with⟨rfl,ai⟩|⟨rfl,i2,f,Q⟩
   .have bb:q=none:=by rw[c.out,l.out,ai]
    subst bb;have r:=(x.block _ (qq.1 m).1 ot).trans m;obtain⟨r0,r1,r2,r3,r4,r5,r6,r7,r8⟩:=nL r;have rf:=pM r;have az:=jh r;have ar:=jh (uY z x od);clear r x ai l c n0 n1 n2 n3 n4 z0 z1 z2 z3 z4;go_wp2_with fail;change bodyPost _ _ _ _ _ (Kr w6 (W.heap.size+1) (.i 0) (.i 0) (.n0) (.n0) (.i 0) (.i 0) (.i 0) (.string ⟨#[]⟩) (.n0));have C:=Cm az (.i 0) (.i 0) (.n0) (.n0) (.i 0) (.i 0) (.i 0) (.string ⟨#[]⟩) (.n0);have E:=uY ar (Eh w6 (W.heap.size+1) (.i 0) (.i 0) (.n0) (.n0) (.i 0) (.i 0) (.i 0) (.string ⟨#[]⟩) (.n0)) (jh5 _);generalize Kr w6 (W.heap.size+1) _ _ _ _ _ _ _ _ _=wf at *;obtain⟨s0,s1,s2,s3,s4,s5,s6,s7,s8⟩:=nL C;exact zv (v:=.tuple #[Af 0 0 none 0 0 none 0 0 0 0 0 ⟨#[]⟩ none 0 0,.bool false]) (by simp[results,results67,go_sem,s0,s1,s2,s3,s4,s5,s6,s7,s8,Af]) rfl ⟨E,.inl ⟨rfl,rfl⟩⟩
   .have au:=jh Q;have M:=jh (OA f);have y:q=takesF i2 ((bR t.p0).drop (j+1)) (t.args0.drop (j+1)):=by rw[c.out,l.out,f]
    have ay:=jh y;clear y Q f x l c n0 n1 n2 n3 n4 z0 z1 z2 z3 z4;go_wp2_with fail;go_roundw
    case rel=>exact⟨j+1,i2,od,OF,au,by have:=M.out;omega,by have:=M.out;omega,ay⟩
    case measure=>simp[intOf];omega
  .have ba:¬(j:Int)<(t.args0.length:Int):=by omega
   have y:q=some i:=by rw[c.out,jc6 od,jc6 od];rfl
   subst y;obtain⟨ta,tc,ra,rc,O,P,H,_⟩:=J.done (bM wr (some (W.heap.size+1))) rfl;have HI:=jh J;obtain⟨v0,v1,v2,v3,v4,v5,v6,v7,v8⟩:=nL H;obtain⟨r0,r1,r2,r3,r4,r5,r6,r7,r8⟩:=nL hR;have rf:=pM hR;have HR:=jh hR;have ax:=jh H;clear H hR J c d;go_wp2_with fail;change bodyPost _ _ _ _ _ (Kr wr (W.heap.size+1) (.i i.p) (.i i.n) (.slice ta i.types.length tc) (.slice ra i.rows.length rc) (.i i.data.k0) (.i i.data.n0) (.i i.data.p0) (.string i.data.s0) (.slice O i.data.args0.length P));have C:=Cm HR (.i i.p) (.i i.n) (.slice ta i.types.length tc) (.slice ra i.rows.length rc) (.i i.data.k0) (.i i.data.n0) (.i i.data.p0) (.string i.data.s0) (.slice O i.data.args0.length P);have ad:=Eh wr (W.heap.size+1) (.i i.p) (.i i.n) (.slice ta i.types.length tc) (.slice ra i.rows.length rc) (.i i.data.k0) (.i i.data.n0) (.i i.data.p0) (.string i.data.s0) (.slice O i.data.args0.length P);have E:=uY (uY z aq od) ad (jh5 _);obtain⟨bc,ca,bw,bx,bh,bj,ah,⟨an,V1,ao⟩,k2,k3,k4⟩:=HI.out.done ad rfl;have Y:W.heap.size<=_:=z.out.size;have k1:=(⟨an,V1,ao.ae (λb _ g=>kh Y g)⟩:_/\∃V,dw (W.heap.size <= ·) _ i.types bc V);replace k2:=k2.mono (J':=λb=>K b\/W.heap.size<=b) (λb g=>g.imp id (kh Y));clear an ao;have aa:=ax.out.symm.trans ah;simp only[qk,Obj.cells.injEq,qc1,xj,ke,true_and,and_true]at aa;obtain⟨⟨rfl,rfl⟩,⟨rfl,rfl⟩,⟨rfl,rfl⟩⟩:=aa;generalize Kr wr (W.heap.size+1) _ _ _ _ _ _ _ _ _=wf at *;obtain⟨s0,s1,s2,s3,s4,s5,s6,s7,s8⟩:=nL C;exact zv (v:=.tuple #[Af i.p i.n ta i.types.length tc ra i.rows.length rc i.data.k0 i.data.n0 i.data.p0 i.data.s0 O i.data.args0.length P,.bool true]) (by simp[results,results67,go_sem,s0,s1,s2,s3,s4,s5,s6,s7,s8,Af]) rfl ⟨E,.inr ⟨i,ta,tc,ra,rc,O,P,rfl,rfl,k1,k2,k3,k4⟩⟩
def Rn{W:World}{t:Tr}{z:Value}(x:bI K W t z)(h:¬(t.k0=2/\40<=t.p0/\t.args0.length=(bR t.p0).length)) :
 Calls prog 67 #[z] W (EE K none W):=by
 obtain⟨G,H,I,u,⟨O,N,P,F⟩,f⟩:=x.yX;rw[u];unfold af;obtain⟨g,d,a⟩:=RO W (.cells #[.i t.k0,.i t.n0,.i t.p0,.string t.s0,.slice G t.args0.length H] 26) (.cells #[.i 0,.i 0,.n0,.n0,.i 0,.i 0,.i 0,.string ⟨#[]⟩,.n0] 104);obtain⟨Q,R,S,T,U⟩:=bE d;obtain⟨V,X,Y,Z,r4,r5,r6,r7,r8⟩:=nL a;have rf:=pM a;have b:=jh g;have c:=jh a;have E:(bR t.p0).length<=3:=by unfold bR;split<;>(try split)<;>(try split)<;>(try split)<;>(try split)<;>(try split)<;>(try split)<;>simp
 have D:t.args0.length<=9223372036854775807:=by have:=f.1;unfold maxLen at this;omega
 clear x f u g d a;generalize t.k0=y at *;generalize t.p0=s at *
 by_cases w:y=2
 .subst w
  by_cases C:s<40
  .go_enter func67,ntmps67;go_wp2_with fail;refine (pK _ _).mono ?_;rintro e A ⟨rfl,rfl⟩;go_wp2_with fail;generalize (W.alloc _).alloc _=B at *;obtain⟨j,k,l,m,n,o,p,q,r⟩:=nL c;exact zv (v:=.tuple #[Af 0 0 none 0 0 none 0 0 0 0 0 ⟨#[]⟩ none 0 0,.bool false]) (by simp[results,results67,go_sem,j,k,l,m,n,o,p,q,r,Af]) rfl ⟨b,.inl ⟨rfl,rfl⟩⟩
  .have J:((t.args0.length:Int) != ((bR s).length:Int))=true:=by simp;omega
   have L:¬(t.args0.length:Int)=((bR s).length:Int):=od
   have M:¬t.args0.length=(bR s).length:=od
   clear h;go_enter func67,ntmps67;go_wp2_with fail;refine (pK _ _).mono ?_;rintro e A ⟨rfl,rfl⟩;go_wp2_with fail;generalize (W.alloc _).alloc _=B at *;obtain⟨j,k,l,m,n,o,p,q,r⟩:=nL c;exact zv (v:=.tuple #[Af 0 0 none 0 0 none 0 0 0 0 0 ⟨#[]⟩ none 0 0,.bool false]) (by simp[results,results67,go_sem,j,k,l,m,n,o,p,q,r,Af]) rfl ⟨b,.inl ⟨rfl,rfl⟩⟩
 .have C:(y != 2)=true:=by simpa using w
  clear h;go_enter func67,ntmps67;go_wp2_with fail;refine (pK _ _).mono ?_;rintro e A ⟨rfl,rfl⟩;go_wp2_with fail;generalize (W.alloc _).alloc _=B at *;obtain⟨j,k,l,m,n,o,p,q,r⟩:=nL c;exact zv (v:=.tuple #[Af 0 0 none 0 0 none 0 0 0 0 0 ⟨#[]⟩ none 0 0,.bool false]) (by simp[results,results67,go_sem,j,k,l,m,n,o,p,q,r,Af]) rfl ⟨b,.inl ⟨rfl,rfl⟩⟩
def Oc{W:World}{t:Tr}{b:Value}(a:bI K W t b):Calls prog 67 #[b] W (EE K (iY t) W):=by
 unfold iY
 by_cases h:t.k0=2/\40<=t.p0/\t.args0.length=(bR t.p0).length
 .rw[if_pos h];exact Ke a h.1 h.2.1 h.2.2
 .rw[if_neg h];exact Rn a h
mutual
def xJ(d:Nat):∀(T:Ty),j5 (d+1) T=true->j5 d T=true
 | .nd t a,h=>by simp only[j5,qu,ki]at h|-;exact⟨⟨od,h.1.2⟩,vX (d+1) a h.2⟩
def vX(d:Nat):∀(l:List Ty),ig (d+1) l=true->ig d l=true
 | [],_=>rfl
 | T::l,h=>by simp only[ig,qu]at h|-;exact⟨xJ d T h.1,vX d l h.2⟩
end
def wF{t:Int}{args:List Ty}(h:bn (.nd t args)=true):args.all bn=true:=by
 rw[zr];intro T a;obtain⟨b,d,c⟩:=dE h;simp only[j5,qu,jT,zr]at b;have e:=xJ 1 T (b.2 T a);have f:keyedF T=true:=by simp only[keyedF,qu,uu,zr]at c;exact c.2 T a
 have g:T.size<=300:=by have:=jS a;simp only[Ty.size]at d;omega
 simp[bn,e,f,g]
def gX{T:Ty}(h:bn T=true):T.args.all bn=true:=by obtain⟨t,args⟩:=T;exact wF h
def yV{args:List Ty}(h:bn (.nd 13 args)=true):bn (.nd 11 args)=true:=by
 obtain⟨a,b,c⟩:=dE h;simp only[j5,qu,ki]at a;simp only[keyedF,qu]at c;simp only[Ty.size]at b;simp only[bn,j5,keyedF,Ty.size,qu,ki];refine⟨⟨⟨⟨a.1.1,ov,?_⟩,a.2⟩,by simpa using b⟩,?_,c.2⟩
 .have:=a.1.2.2;simpa[bT]using this
 .simp[uZ]
def um{a b:List Ty}(c:a.all bn=true)(d:b.all bn=true):(a++b).all bn=true:=by rw[qc6,c,d];rfl
def iI{s:List Ty}(h:s.all bn=true)(k:Nat):(s.drop k).all bn=true:=zr.2 λx a=>zr.1 h x (ja3 a)
def Dz{s:List Ty}(h:s.all bn=true)(k:Nat):(s.take k).all bn=true:=zr.2 λx a=>zr.1 h x (qf2 a)
def Bl{T:Ty}(h:bn T=true)(a:T.t=13):bn (.nd 11 T.args)=true:=by obtain⟨t,args⟩:=T;simp only[Ty.t]at a;subst a;exact yV h
def ZA (p:Int):Nat:=((bR p).filter (λf=>decide (f=116\/f=117))).length
def Cc{st:Tr->List Ty->iF} : ∀(l:List Tr) (f:Bool) (s:List Ty) {g:Bool}{ts:List Ty},s.length<=1001->s.all bn=true->iG st l f s =.ok g ts->ts.length<=1001/\ts.all bn=true
 | [],f,s,g,ts,b,c,h=>by simp only[iG,iF.ok.injEq]at h;obtain⟨rfl,rfl⟩:=h;exact⟨b,c⟩
 | t::l,f,s,g,ts,b,c,h=>by
  simp only[iG]at h
  by_cases d:f=true
  .simp[d]at h
  .simp only[d]at h
   cases a:keptF (st t s)with
   | no e=>simp[a]at h
   | ok i k =>
    simp only[a]at h;obtain⟨e,m,j⟩:=nP a;exact Cc l i k od j (by simpa using h)
def og{l:List Tr}{t:Tr}(h:t∈l):t.size<=sizes l:=by
 induction l with
 | nil=>cases h
 | cons x l a =>
  simp only[sizes];rcases xb.1 h with rfl|h
  .omega
  .have:=a h;omega
def Zy (p:Int):Nat:=((bR p).filter (λf=>decide (f=99\/f=100))).length
def J9{t:Tr}(h:fu t=true):bn (kreadT t)=true:=by unfold fu at h;rw[qu]at h;exact h.2
def Iy{i j:Ins}{f:UInt8}{t:Tr}(h:iy i f t=some j) :
 j.p=i.p/\j.types.length=i.types.length+(if f=116\/f=117 then 1 else 0)/\j.rows.length=i.rows.length+(if f=99\/f=100 then 1 else 0)/\(i.types.all bn=true->j.types.all bn=true) /\
 (∀P:List Tr->Prop,(∀l∈i.rows,P l)->P t.args0->∀l∈j.rows,P l)/\(j.data=i.data\/j.data=t)/\(0<=i.n->0<=j.n)/\(i.n<=40->j.n<=40):=by
 unfold iy at h
 by_cases e:f=110
 .subst e;rw[if_pos rfl]at h;split at h
  .rename_i c;cases h;exact⟨rfl,ot,ot,id,λP h _=>h,.inl rfl,λ_=>c.2.1,λ_=>c.2.2⟩
  .cases h
 .rw[if_neg e]at h
  by_cases a:f=116\/f=117
  .rw[if_pos a]at h;have b:¬(f=99\/f=100):=by rcases a with rfl|rfl<;>decide
   split at h
   .rename_i c;cases h;refine⟨rfl,by simp[a],by simp[b],λk=>um k (by simp[J9 c]),λP h _=>h,.inl rfl,id,id⟩
   .cases h
  .rw[if_neg a]at h
   by_cases b:f=99\/f=100
   .rw[if_pos b]at h;split at h
    .cases h;refine⟨rfl,by simp[a],by simp[b],id,λP h g l d=>?_,.inl rfl,id,id⟩;simp only[qa0,yq]at d;rcases d with d|rfl
     .exact h l d
     .exact g
    .cases h
   .rw[if_neg b]at h;cases h;exact⟨rfl,by simp[a],by simp[b],id,λP h _=>h,.inr rfl,id,id⟩
def takesF_facts:∀(a:List UInt8) (l:List Tr) (i j:Ins),a.length=l.length->takesF i a l=some j ->
 j.p=i.p/\j.types.length=i.types.length+(a.filter (λf=>decide (f=116\/f=117))).length/\j.rows.length=i.rows.length+(a.filter (λf=>decide (f=99\/f=100))).length/\(i.types.all bn=true->j.types.all bn=true) /\
 (∀P:List Tr->Prop,(∀r∈i.rows,P r)->(∀t∈l,P t.args0)->∀r∈j.rows,P r)/\(j.data=i.data\/j.data∈l)/\(0<=i.n->0<=j.n)/\(i.n<=40->j.n<=40)
 | [],l,i,j,_,h=>by simp only[takesF,qk]at h;subst h;exact⟨rfl,ot,ot,id,λP h _=>h,.inl rfl,id,id⟩
 | f::a,[],i,j,e,h=>by simp at e
 | f::a,t::l,i,j,e,h=>by
  simp only[takesF]at h
  cases d:iy i f t with
  | none=>simp[d]at h
  | some k =>
   simp only[d]at h;obtain⟨o,q,s,u,v,c,w,x⟩:=Iy d;obtain⟨y,z,A,B,C,b,D,E⟩:=takesF_facts a l k j (by simpa using e) h;refine⟨y.trans o,?_,?_,λh=>B (u h),λP F m=>C P (v P F (m t ot)) (λG g=>m G (by simp[g])),?_,λh=>D (w h),λh=>E (x h)⟩
   .rw[z,q,List.filter_cons];split<;>simp_all<;>omega
   .rw[A,s,List.filter_cons];split<;>simp_all<;>omega
   .rcases b with b|b
    .rcases c with c|c
     .exact .inl (b.trans c)
     .exact .inr (by rw[b,c];simp)
    .exact .inr (by simp[b])
structure VO (N:Nat) (i:Ins):Prop where
 p40:40<=i.p
 nt:i.types.length=ZA i.p
 nr:i.rows.length=Zy i.p
 gt:i.types.all bn=true
 rows:∀r∈i.rows,∀x∈r,x.size<=N
 data:i.data.size<=N+1
 n0:0<=i.n
 n1:i.n<=40
 Zx:∀r∈i.rows,okNs r
 Zg:okN i.data
def BJ{t:Tr}(h:okN t):okNs t.args0:=by cases t;exact h.2
def Rm{t:Tr}{i:Ins}{N:Nat}(hk:okN t)(hz:t.size<=N+1)(h:iY t=some i):VO N i:=by
 unfold iY at h;split at h
 .rename_i g;obtain⟨b,j,k,l,f,a,m,n⟩:=takesF_facts _ _ _ _ g.2.2.symm h;have o:t.size=sizes t.args0+1:=by cases t;rfl
  refine⟨by rw[b];exact g.2.1,by rw[j,b];simp[ZA],by rw[k,b];simp[Zy],l rfl,λr c x e=>?_,?_,m ot,n ot,λr c=>?_,?_⟩
  .refine f (λr=>∀x∈r,x.size<=N) ot (λu d x e=>?_) r c x e;have q:=og d;have s:=og e;have p:u.size=sizes u.args0+1:=by cases u;rfl
   omega
  .rcases a with a|a
   .rw[a];show tr0.size<=_;simp[tr0,Tr.size,sizes]
   .have:=og a;omega
  .exact f okNs ot (λu d=>BJ (okNs_at.1 (BJ hk) u d)) r c
  .rcases a with a|a
   .rw[a];show okN tr0;simp[tr0,okN,okNs,bD,maxLen,ByteArray.size]
   .exact okNs_at.1 (BJ hk) _ a
 .cases h
def U7{t:Tr}{i:Ins}(h:iY t=some i){l:List Tr}(c:l∈i.rows):l.length<=sizes t.args0:=by
 unfold iY at h;split at h
 .rename_i b;obtain⟨e,f,g,j,a,_⟩:=takesF_facts _ _ _ _ b.2.2.symm h;refine a (λr=>r.length<=sizes t.args0) ot (λu d=>?_) l c;have m:=og d;have n:=cB u.args0;have k:u.size=sizes u.args0+1:=by cases u;rfl
  omega
 .cases h
open Go.ChangeShapes Go.WideShapes Go.ChangeAt Go.RowKit Pe
def Wj{w w':World}{a:Addr}{v:Value}(b:w.grownBy w' none)(h:w.cell? a=some v):w'.cell? a=some v:=(qn (b.block _ (kd w _ h) ot)).trans h
def dw.Vf{ok:Nat->Prop}{w:World}{ts:List Ty}{a:Option Addr}{V:Nat->Value}(h:dw ok w ts a V)(c:Nat):∃vs:List Value,vs.length=ts.length/\gZ w (.slice a ts.length c) ts.length (bX vs)/\(bX vs).length=ts.length*2/\(∀u∈bX vs,u.oneCell'=true)/\∀(i:Nat) (t:Ty) (u:Value),ts[i]?=some t->vs[i]?=some u->aH ok w t u:=by
 let vs:=(List.range ts.length).map V
 have f:vs.length=ts.length:=by simp[vs]
 have n:∀i,i<ts.length->vs[i]?=some (V i):=λi g=>by simp[vs,g]
 have C:∀i,i<ts.length->∃t m l k,V i=Go.Proofs.YtgfdimkbfnpepaaGreat.bY t m l k:=λi g=>by obtain⟨_,_,_,_,t,m,l,k,D,_⟩:=h.2.1 i g;exact⟨t,m,l,k,D⟩
 have E:∀u∈vs,∃t m l k,u=Go.Proofs.YtgfdimkbfnpepaaGreat.bY t m l k:=λu d=>by simp only[vs,qa7,List.mem_range]at d;obtain⟨i,g,rfl⟩:=d;exact C i g
 have p:∀u∈vs,(tyCells u).length=2:=λu d=>by obtain⟨t,m,l,k,rfl⟩:=E u d;rfl
 have v:∀(s:List Value),(∀u∈s,(tyCells u).length=2)->(bX s).length=s.length*2:=λs=>by
  induction s with
  | nil=>intro _;rfl
  | cons x s J =>
   intro z;have K:=z x ot;have A:=J (λu d=>z u (by simp[d]));simp only[bX,qd5,qS,jn]at A|-;omega
 refine⟨vs,f,?_,by rw[v vs p,f],λu d=>?_,λi t u y d=>?_⟩
 .cases a with
  | none =>
   have B:ts.length=0:=by
    rcases Nat.eq_zero_or_pos ts.length with e|e
    .exact e
    .obtain⟨b,o,A⟩:=h.base e;cases A
   exact .inl ⟨c,by rw[B],B,by rw[ju (f.trans B)];rfl⟩
  | some F =>
   refine .inr ⟨F,c,rfl,λj u d=>?_⟩;have I:j<(bX vs).length:=(jj.1 d).1;rw[v vs p,f]at I;have g:j / 2<ts.length:=od
   obtain⟨b,o,e,_,t,m,l,k,D,G,H⟩:=h.2.1 (j / 2) g;have r:=flatT_get vs p (j / 2) (j % 2) (V (j / 2)) (n _ g) od;rw[show j / 2*2+j % 2=j from by omega,d,D]at r;simp only[qk]at e;subst e;rcases (show j % 2=0\/j % 2=1 by omega)with q|q
   .rw[q]at r;simp[tyCells,Go.Proofs.YtgfdimkbfnpepaaGreat.bY]at r;rw[r,<-G];rw[addr_add,show o+j=o+j / 2*2 from by omega]
   .rw[q]at r;simp[tyCells,Go.Proofs.YtgfdimkbfnpepaaGreat.bY]at r;rw[r,<-H];rw[addr_add,show o+j=o+j / 2*2+1 from by omega]
 .simp only[bX,jh2]at d;obtain⟨x,z,d⟩:=d;obtain⟨t,m,l,k,rfl⟩:=E x z;simp[tyCells,Go.Proofs.YtgfdimkbfnpepaaGreat.bY]at d;rcases d with rfl|rfl<;>rfl
 .have g:i<ts.length:=(jj.1 y).1;rw[n i g]at d;rw[qt g]at y;simp only[qk]at y d;subst y;subst d;exact h.2.2 i g
structure vN (ok:Nat->Prop) (W w:World) (v:Value) (ts:List Ty) (vs:List Value):Prop where
 own:wS W.heap.size w v vs
 len:vs.length=ts.length
 lies:∀(i:Nat) (t:Ty) (u:Value),ts[i]?=some t->vs[i]?=some u->aH ok W t u
def vN.more{ok:Nat->Prop}{W w w':World}{v v':Value}{ts us:List Ty}{vs ns:List Value}(h:vN ok W w v ts vs)(e:wS W.heap.size w' v' (vs++ns))(d:ns.length=us.length)(f:∀(i:Nat) (t:Ty) (u:Value),us[i]?=some t->ns[i]?=some u->aH ok W t u):vN ok W w' v' (ts++us) (vs++ns):=by
 refine⟨e,by simp[h.len,d],λi t u a b=>?_⟩
 by_cases c:i<ts.length
 .rw[jt c]at a;rw[jt (by rw[h.len];exact c)]at b;exact h.lies i t u a b
 .rw[js od]at a;rw[js (by rw[h.len];omega),h.len]at b;exact f _ t u a b
def TT{ok:Nat->Prop}{W:World}{x y:List Ty}{T V:Option Addr}{U X:Nat}{Z VY:Nat->Value}{b q qc:Nat}(c0:W.cell? ⟨b,q,none⟩=some (.slice T x.length U))(L:W.cell? ⟨b,q+1,none⟩=some (.slice V y.length X))(w:dw ok W x T Z)(z:dw ok W y V VY)(hn:x.length+y.length<=20000000) :
 Calls prog 105 #[.slice (some ⟨b,q,none⟩) 2 qc] W λe w'=>∃v vs,e =.returned v/\vN ok W w' v (x++y) vs/\W.grownBy w' none:=by
 obtain⟨I,J,E,F,o⟩:=wg w z c0 L (Nw (x.length+y.length) hn);have hi:(x.length:Int)+(y.length:Int)<=20000000:=od
 clear w z;go_enter func105,ntmps105;go_wp2_with fail;go_loopw [3,11] (λS d wr=>wr=W/\((d =.i 0/\S =.i 0)\/(d =.i 1/\S =.i x.length)\/(d =.i 2/\S =.i ((x.length+y.length:Nat):Int)))) (λ_ d _=>2 - (intOf d).toNat)
 case atStart=>exact⟨rfl,.inl ⟨rfl,rfl⟩⟩
 case round =>
  obtain⟨O,M⟩:=hrel;replace O:=O.symm;subst O;rcases M with⟨rfl,rfl⟩|⟨rfl,rfl⟩|⟨rfl,rfl⟩
  .go_wp2_with fail;go_roundw
   case rel=>exact⟨by trivial,.inr (.inl ⟨rfl,OF⟩)⟩
   case measure=>simp[intOf]
  .go_wp2_with fail;go_roundw
   case rel=>exact⟨by trivial,.inr (.inr ⟨rfl,OF⟩)⟩
   case measure=>simp[intOf]
  .go_wp2_with fail;refine (o _).mono ?_;rintro e w1 ⟨v0,rfl,c,r⟩;have H:Hid (vN ok W w1 v0 [] []):=⟨c,rfl,λi t u h=>by simp at h⟩;have G:=jh r;clear c r o c0 L;go_wp2_with fail;go_loopw [6,27] (λR d D=>W.grownBy D none/\((d =.i 0/\∃vs,vN ok W D R [] vs)\/(d =.i 1/\∃vs,vN ok W D R x vs)\/(d =.i 2/\∃vs,vN ok W D R (x++y) vs))) (λ_ d _=>2 - (intOf d).toNat)
   case atStart=>exact⟨G,.inl ⟨rfl,[],H⟩⟩
   case round =>
    obtain⟨g,M⟩:=hrel;have c0:=Wj g E;have L:=Wj g F;have a:=jh g;clear g;rcases M with⟨rfl,vs,f⟩|⟨rfl,vs,f⟩|⟨rfl,vs,f⟩
    .obtain⟨n,n1,A,P,Q,B⟩:=I.out.Vf U;have k:=jh f;have K:=jh (A.grow a);have m:=jh B;have N:vs.length=0:=f.len;clear f A B;go_wp2_with (at_builtin;refine ed rfl _ _ 27 rfl W.heap.size 54 underlying27 rO rfl ov _ vs.length (bX vs) rfl k.own _ x.length (bX n) rfl P K Q oT od a.size ?_;intro C w' s p _;have j:=jh (dX a k.own (qv _) p.1);have l:=jh (k.more (v':=C) (w':=w') (ns:=n) (us:=x) (by unfold wS;rw[dx,qS,n1];exact s) n1 m);clear s p);go_roundw
     case rel=>exact⟨j,.inr (.inl ⟨rfl,_,l⟩)⟩
     case measure=>simp[intOf]
    .obtain⟨n,n1,A,P,Q,B⟩:=J.out.Vf X;have k:=jh f;have K:=jh (A.grow a);have m:=jh B;have N:=f.len;clear f A B;go_wp2_with (at_builtin;refine ed rfl _ _ 27 rfl W.heap.size 54 underlying27 rO rfl ov _ vs.length (bX vs) rfl k.own _ y.length (bX n) rfl P K Q oT od a.size ?_;intro C w' s p _;have j:=jh (dX a k.own (qv _) p.1);have l:=jh (k.more (v':=C) (w':=w') (ns:=n) (us:=y) (by unfold wS;rw[dx,qS,n1];exact s) n1 m);clear s p);go_roundw
     case rel=>exact⟨j,.inr (.inr ⟨rfl,_,l⟩)⟩
     case measure=>simp[intOf]
    .have Y:=jh f;clear f;go_wp2_with fail;go_ret;exact⟨_,_,rfl,Y,a⟩
def vN.rep{ok:Nat->Prop}{W w:World}{v:Value}{ts:List Ty}{vs:List Value}(h:vN ok W w v ts vs)(F:W.grownBy w none)(U:ts.length<=maxLen):fI (λb=>ok b\/W.heap.size<=b) w (.s 2 (tysD ts)) v:=by
 have O:=h.len;have N:zH ok W (λb=>ok b\/W.heap.size<=b) w:=⟨F.size,λb I n=>⟨.inl n,λo=>qn (F.block b I ot)⟩⟩;have m:(tysD ts).length=ts.length:=by simp[tysD_map]
 have C:∀(i:Nat) (k:i<ts.length),∃(a:Option Addr) (c:Nat),vs[i]?=some (bY ts[i].t a ts[i].args.length c)/\fI (λb=>ok b\/W.heap.size<=b) w (.s 2 (tysD ts[i].args)) (.slice a ts[i].args.length c):=λi k=>by
  have G:i<vs.length:=od
  obtain⟨_,a,c,e,q⟩:=qI (h.lies i _ _ (qt k) (qt G));exact⟨a,c,by rw[qt G,e],q.keep N⟩
 have z:∀u∈vs,(tyCells u).length=2:=λu E=>by obtain⟨i,k,rfl⟩:=ye E;obtain⟨a,c,e,_⟩:=C i od;rw[qt k]at e;simp only[qk]at e;rw[e];rfl
 have n:=h.own;unfold wS at n;rcases n.2 with⟨rfl,S⟩|⟨g,y,H,rfl,A,L,P,J,K,B⟩
 .have hz:ts=[]:=ju od;subst hz;exact .s (λ_ _=>undef) (by simp[tysD]) (by simp[tysD]) (by simp[tysD]) (by simp[tysD]) (by simp[tysD])
 .have d:∀(i:Nat) (r:List D),(tysD ts)[i]?=some r->∃h:i<ts.length,r=tyD ts[i]:=λi r e=>by
   rw[tysD_map,qb6,km]at e;obtain⟨T,l,rfl⟩:=e;obtain⟨h,rfl⟩:=jj.1 l;exact⟨h,rfl⟩
  have p:fI (λb=>ok b\/W.heap.size<=b) w (.s 2 (tysD ts)) (.slice (some ⟨g,0,none⟩) (tysD ts).length y):=by
   refine .s (λi j=>((tyCells ((vs[i]?).getD undef))[j]?).getD undef) od od (λi r e=>by obtain⟨h,rfl⟩:=d i r e;exact AA _) (λi r j x l f=>?_) (λi r j x l f=>?_)
   .obtain⟨k,rfl⟩:=d i r l;obtain⟨a,c,e,_⟩:=C i k;have M:j<2:=by have:=(jj.1 f).1;rwa [AA]at this
    refine⟨g,0,rfl,.inr A,?_⟩;have Q:(tyCells (bY ts[i].t a ts[i].args.length c))[j]?=some (((tyCells ((vs[i]?).getD undef))[j]?).getD undef):=by rw[e];rcases (show j=0\/j=1 by omega)with rfl|rfl<;>rfl
    have:=yy n (g:=g) rfl (i*2+j) _ (by rw[flatT_get vs z i j _ e M];exact Q);rwa [addr_add]at this
   .obtain⟨k,rfl⟩:=d i r l;obtain⟨a,c,e,q⟩:=C i k;rw[e];generalize ts[i]=T at f q;obtain⟨V,R⟩:=T;rcases j with _|_|j
    .simp only[tyD,kl,qk]at f;subst f;exact .v _
    .simp only[tyD,yd,kl,qk]at f;subst f;exact q
    .simp[tyD]at f
  rw[m,<-O]at p;exact p
def K6 (w:World) (r:iF) (a:Option Addr) (l c:Nat) (f:Bool) (er:Int):Prop :=
 (r =.no er/\er≠0/\a=none/\l=0/\c=0/\f=false)\/(∃ts,r =.ok f ts/\er=0/\jo w ts (.slice a l c))
def WL.is{r:iF}{W:World}{e:Ending}{w':World}(h:WL r W e w'):∃a l c f b,e =.returned (.tuple #[.agg #[.slice a l c,.bool f],.i b])/\W.grownBy w' none/\K6 w' r a l c f b:=by
 rcases h.2 with⟨b,d,g,rfl⟩|⟨f,k,a,l,c,d,rfl,j⟩
 .exact⟨none,0,0,false,b,rfl,h.1,.inl ⟨d,g,rfl,rfl,rfl,rfl⟩⟩
 .exact⟨a,l,c,f,0,rfl,h.1,.inr ⟨k,d,rfl,j⟩⟩
def K6.grow{w w':World}{r:iF}{a:Option Addr}{l c:Nat}{f:Bool}{b:Int}(h:K6 w r a l c f b)(i:w.grownBy w' none):K6 w' r a l c f b:=by
 rcases h with h|⟨j,d,e,g⟩
 .exact .inl h
 .exact .inr ⟨j,d,e,g.grow i⟩
def ent_mi1:∀args w,(callFunc 139 args).run prog w =.ok (.enter 139 args) w:=λargs w=>OK
def zQ(l:List Tr):mintsTs l=l.any mintsT:=by
 induction l with
 | nil=>simp[mintsTs]
 | cons t l a=>simp[mintsTs,a]
def JB{W:World}{l:List Tr}{na:Option Addr}{nc:Nat}{VN:Nat->Value}(hN:cK (λ_=>True) W l na VN)
 (hK:∀(j:Nat) (h:j<l.length) (v:World),W.grownBy v none->Calls prog 139 #[VN j] v λe w'=>e =.returned (.bool (mintsT l[j]))/\v.grownBy w' none) :
 Calls prog 185 #[.slice na l.length nc,.func (.func 139) #[] #[]] W λe w'=>∃r:Int,e =.returned (.i r)/\((0<=r/\l.any mintsT=true)\/(r = -1/\l.any mintsT=false))/\W.grownBy w' none:=by
 have G:=hN.1;unfold maxLen at G;have D:=jh hN;have t:=jh hK;have K:=ent_mi1;clear hN hK;go_enter func185,ntmps185;go_wp2_with fail;go_loopw [8] (λz wr=>∃j:Nat,j<=l.length/\z =.i j/\(∀i (h:i<l.length),i<j->mintsT l[i]=false)/\W.grownBy wr none) (λz _=>l.length - (intOf z).toNat)
 case atStart=>exact⟨0,kB _,rfl,λi h w=>od,bM _ _⟩
 case round =>
  obtain⟨j,Q,rfl,f,c⟩:=hrel;have d:=jh f;have g:=jh c;clear f
  by_cases k:j<l.length
  .obtain⟨b,o,rfl,_,R,T,U,V,I,S,J,C,L,M,N,O,P⟩:=(D.out.2.1 j k).same (w':=wr) (ni c);have q:=t.out j k wr c;rw[C]at q;unfold af at q;have p:=jh q;have E:(j:Int)<(l.length:Int):=by omega
   clear c C q
   cases m:mintsT l[j]with
   | false =>
    rw[m]at p;have u:=jh m;clear m;go_wp2_with fail;refine p.mono ?_;rintro e H ⟨rfl,n⟩;have s:=jh (aJ g n);clear n;go_wp2_with fail;go_roundw
    case rel =>
     refine⟨j+1,od,OF,λi h w=>?_,s⟩
     by_cases e:i=j
     .subst e;exact u
     .exact d i h od
    case measure=>simp[intOf];omega
   | true =>
    rw[m]at p;have u:=jh m;clear m;go_wp2_with fail;refine p.mono ?_;rintro e H ⟨rfl,n⟩;have s:=jh (aJ g n);clear n;go_wp2_with fail;go_ret;exact⟨_,rfl,.inl ⟨od,qh3.2 ⟨_,zj k,u⟩⟩,s⟩
  .have a:l.any mintsT=false:=by
    cases h:l.any mintsT with
    | false=>rfl
    | true =>
     obtain⟨x,y,B⟩:=qh3.1 h;obtain⟨i,w,rfl⟩:=ye y;rw[d.out i w od]at B;cases B
   have A:=jh a;have F:¬(j:Int)<(l.length:Int):=od
   clear a c;go_wp2_with fail;go_ret;refine⟨_,rfl,.inr ⟨rfl,?_⟩,g⟩
   first|exact A|exact (λx y=>by have h:=A.out;rw[List.any_eq_false]at h;simpa using h x y)
def vU{W:World}{l:List Tr}{na:Option Addr}{nc:Nat}{VN:Nat->Value}(hN:cK (λ_=>True) W l na VN)
 (hK:∀(j:Nat) (h:j<l.length) (a:World),W.grownBy a none->Calls prog 139 #[VN j] a λe w'=>e =.returned (.bool (mintsT l[j]))/\a.grownBy w' none) :
 Calls prog 138 #[.slice na l.length nc,.func (.func 139) #[] #[]] W λe w'=>e =.returned (.bool (l.any mintsT))/\W.grownBy w' none:=by
 have H:=jh (JB (nc:=nc) hN hK);clear hN hK;generalize l.any mintsT=q at *;go_enter func138,ntmps138;go_wp2_with fail;refine H.mono ?_;rintro e i ⟨r,rfl,c,b⟩;have d:=jh b;have f:=jh c;clear b c;go_wp2_with fail;go_ret;refine Lf.kZ ?_ d;rcases f with⟨g,rfl⟩|⟨rfl,rfl⟩
 .simp[g]
 .rfl
def JR{W:World}{k n p:Int}{f:ByteArray}{a:Option Addr}{l c:Nat}{b:Bool}(hk:∀o,W.grownBy o none->Calls prog 90 #[.slice a l c] o λe w'=>e =.returned (.bool b)/\o.grownBy w' none) :
 Calls prog 139 #[af k n p f a l c] W λe w'=>e =.returned (.bool (decide (k=2/\p=84)||b))/\W.grownBy w' none:=by
 have d:=jh (aK (w:=W) (.cells #[.i k,.i n,.i p,.string f,.slice a l c] 26));obtain⟨t,u,v,x,y⟩:=bE (qT W (.cells #[.i k,.i n,.i p,.string f,.slice a l c] 26));have r:=jh (hk _ d);clear hk;unfold af
 by_cases j:k=2
 .by_cases q:p=84
  .subst j;subst q;go_enter func139,ntmps139;go_wp2_with fail;go_ret;exact⟨rfl,d⟩
  .have A:(p==84)=false:=by simpa using q
   have g:(decide (k=2/\p=84)||b)=b:=by simp[q]
   rw[g];subst j;clear g;go_enter func139,ntmps139;go_wp2_with fail;refine r.mono ?_;rintro e s ⟨rfl,h⟩;have m:=jh (aJ d h);clear h;go_wp2_with fail;go_ret;exact⟨rfl,m⟩
 .have z:(k==2)=false:=by simpa using j
  have g:(decide (k=2/\p=84)||b)=b:=by simp[j]
  rw[g];clear g;go_enter func139,ntmps139;go_wp2_with fail;refine r.mono ?_;rintro e s ⟨rfl,h⟩;have m:=jh (aJ d h);clear h;go_wp2_with fail;go_ret;exact⟨rfl,m⟩
def G8{W:World}{a:Option Addr}{l c:Nat}{b:Bool}(d:Calls prog 138 #[.slice a l c,.func (.func 139) #[] #[]] W λe w'=>e =.returned (.bool b)/\W.grownBy w' none) :
 Calls prog 90 #[.slice a l c] W λe w'=>e =.returned (.bool b)/\W.grownBy w' none:=by
 have H:=jh d;clear d;go_enter func90,ntmps90;go_wp2_with fail;refine H.mono ?_;rintro e h ⟨rfl,f⟩;have g:=jh f;clear f;go_wp2_with fail;go_ret;exact⟨rfl,g⟩
def mints_any:∀(N:Nat) {W:World}{l:List Tr}{na:Option Addr}{nc:Nat}{VN:Nat->Value},cK (λ_=>True) W l na VN->sizes l<=N->Calls prog 90 #[.slice na l.length nc] W λe w'=>e =.returned (.bool (mintsTs l))/\W.grownBy w' none:=by
 intro N
 induction N with
 | zero =>
  intro W l na nc VN hN hz;rw[zQ];refine G8 (vU hN (λj h i g=>?_));have:=cB l;omega
 | succ N u =>
  intro W l na nc VN hN hz;rw[zQ];refine G8 (vU hN (λj h i g=>?_));have b:=(hN.2.2 j h).same (ni g);have f:(l[j]).size<=sizes l:=by have x:=gH l j h;have y:=jF l (j+1);omega
  generalize l[j]=t at *;generalize VN j=v at *
  cases b with
  | @mk k n p s args a c _ V o z B A C m r =>
   have q:mintsT (.nd k n p s args)=(decide (k=2/\p=84)||mintsTs args):=by rw[mintsT]
   rw[q];refine JR (λw d=>u (VN:=V) ?_ ?_)
   .exact cK.same ⟨o,m,r⟩ (ni d)
   .rw[Tr.size]at f;omega
