/- For every environment, tree, two lists of types, two lists of values and number whose reading holds at most 1048576 values and letters, RunFrame returns true and leaves its arguments as they were. Condition: that bound on the reading. -/
import Derived.Test.YtgfdimkbfnpepaaGreatKfZax
import Derived.Deep.Slices
import Derived.Lib.SmallJoins
import Derived.JoinedCond
namespace Go.Proofs.YtgfdimkbfnpepaaGreat
set_option linter.all false
open Go.Proofs.Tryz
set_option maxRecDepth 100000
set_option maxHeartbeats 4000000
open Pe
def aax:(s:ao)->s.length<=20000000 -> { x:Sp // Hd x }
 | [],_=>⟨_,H_types0⟩
 | T::s,h=>⟨_,Z6 (s:=T::s) ot h⟩
def abu:(l:an)->l.length<=20000000 -> { x:Sp // Hd x }
 | [],_=>⟨_,H_values0⟩
 | x::l,h=>⟨_,ZR (l:=x::l) ot h⟩
def apT (a b n:Nat):List bd->List bd->Hints
 | [],[]=>[(b,nilA)]
 | e::es,[]=>[(b,.one (.g (2000000+a) n (e::es).length))]
 | es,r::rs=>[(2000000+b,.one (.d (.s n (es++r::rs))))]
def apO (a n y:Nat):List bd->List bd->List Prop
 | [],[]=>[some (AV.of nilA)=some (.of nilA)/\([]:List bd)=[]/\nilA.isS]
 | e::es,[]=>[some (AV.of (.one (.g (2000000+a) n (e::es).length)))=some (.of (.one (.g (2000000+a) n (e::es).length)))/\([]:List bd)=[]/\true]
 | es,r::rs=>[rowsLe (es.take es.length++(r::rs)) (es++r::rs),UU y es.length es (r::rs)]
def seO:List bd->List bd->List Prop
 | [],[]=>[]
 | e::es,[]=>[(e::es).length=(e::es).length]
 | es,r::rs=>[es.length+(r::rs).length=(es++r::rs).length]
def asO:List bd->List bd->List Prop
 | [],[]=>[some (AV.of nilA)=some (.of nilA)]
 | es,rs=>seO es rs
def seA (n:Nat):List bd->List bd->A1
 | [],[]=>nilA
 | e::es,[]=>.one (.d (.s n (e::es)))
 | es,r::rs=>.one (.d (.s n (es++r::rs)))
def Obs (T:Hints) (ob:List Prop):Prop:=∀p∈ob,p
def Obs.of{T:Hints}{ob:List Prop}(h:∀p∈ob,p):Obs T ob:=h
def TT{f:FuncId}{a:Func}(d:prog.funcs[f]?=some a){T:Hints}(c:HL){args:List A1}{b:AV}{ob:List Prop}
 (hob:Obs T ob) (h:asked (evF prog a (a.body.getD .skip) T [] (c.map (·.1)) args)=some (b,[],(c.map (·.1)).map (λs=>s.args=s.args),ob):=by kernel_rfl)
 (hb:a.body.isSome:=by kernel_rfl) (hn:(a.name == "runtime.NumGoroutine")=false:=by kernel_rfl):Hd ⟨f,args,b⟩:=runT d T c hob h hb hn
section
variable {a n y:Nat}{es rs:List bd}
def UR(c:ou rs)(b:es.length+rs.length<=100000000)(d:y<=1000):∀p∈apO a n y es rs,p:=by
 rcases rs with _|⟨r,rs⟩
 .rcases es with _|⟨e,es⟩<;>exact al ⟨rfl,rfl,rfl⟩ al0
 .have : ∀p∈[rowsLe (es.take es.length++(r::rs)) (es++r::rs),UU y es.length es (r::rs)],p:=al (by rw[qg4];exact rows_refl _) (al (za (qS _) ot c b d) al0);rcases es with _|⟨e,es⟩<;>exact this
def seO_ok:∀p∈seO es rs,p:=by
 rcases rs with _|⟨r,rs⟩<;>rcases es with _|⟨e,es⟩
 .exact al0
 .exact al rfl al0
 .exact al ot al0
 .exact al oB al0
def asO_ok:∀p∈asO es rs,p:=by
 rcases rs with _|⟨r,rs⟩<;>rcases es with _|⟨e,es⟩
 .exact al rfl al0
 .exact seO_ok (es:=e::es) (rs:=[])
 .exact seO_ok (es:=[]) (rs:=r::rs)
 .exact seO_ok (es:=e::es) (rs:=r::rs)
def Y6(hn:n≠0){ok:br}{w:bx}{v:cg}(h:gm (λ_=>none) ok w (seA n es rs) v):gm (λ_=>none) ok w (.one (.d (.s n (es++rs)))) v:=by
 rcases rs with _|⟨r,rs⟩<;>rcases es with _|⟨e,es⟩
 .exact gG (show fI ok w (.s 0 []) v from h) hn
 .rw[qc2];exact h
 .exact h
 .exact h
end
section
variable {en:En}{n:Tr}{s under:ao}{l low:an}{aC:Int}
def aaz(s u:ao):tysD (s++u)=tysD s++tysD u:=by simp[tysD_map]
def aaC(hn:okN n)(zn:n.size<=4611686018427387904)(hs:okTs s)(aj:s.length<=1100000)(hu:okTs under)(aq:under.length<=1100000)(hl:okVs l)(ai:l.length<=1100000)(hz:Sm l)(hw:okVs low)(ar:low.length<=1100000)(Z:Sm low)(hg:bD aC) :
 Hd ⟨6,[Xc en,ndA n,dZ s,dZ under,qi l,qi low,iA aC],aQ true⟩:=by
 have H:=H_runs;have t1:∀{q:Prop} [Decidable q],q->jJ (decide q) true:=λh=>eT (qh1 h);have t0:∀{q:Prop} [Decidable q],¬q->jJ (decide q) false:=λh=>eT (qc7 h);have n1:∀{q:Prop} [Decidable q],¬q->jJ (!decide q) true:=λh=>eT (by simp[h]);have n0:∀{q:Prop} [Decidable q],q->jJ (!decide q) false:=λh=>eT (by simp[h])
 by_cases O:(4:Int)<((tysD under).length:Int)
 .have⟨nk,nn,np,nz,na⟩:=n;exact runT func6 [(22,bA true)] [⟨_,H⟩] (al (t1 O) al0)
 by_cases hq:((tysD under).length:Int)=((vasD low).length:Int)
 rotate_left
 .have⟨nk,nn,np,nz,na⟩:=n;exact runT func6 [(22,fA),(28,bA true)] [⟨_,H⟩] (al (t0 O) (al (n1 hq) al0))
 have ah:under.length<=4:=by rw[eY]at O;omega
 have Y:under.length=low.length:=by rw[eY,qY]at hq;omega
 have S:=Tm hs od;have U:=Pt hl od;have G:=WE hg;have hp:=Rh aC;have hR:=Z8 (en:=en) (aC:=qR aC) hn zn hs hl od hz ⟨od,od⟩ od;have j:okTs (s++under):=okTs_at.2 λx i=>by rcases zp.1 i with i|i;exact okTs_at.1 hs x i;exact okTs_at.1 hu x i
 have K:∀{k:an},okVs k->okVs (k++low):=λ{k} hk=>okVs_at.2 λx i=>by rcases zp.1 i with i|i;exact okVs_at.1 hk x i;exact okVs_at.1 hw x i
 have L:∀{k:an},Sm k->Sm (k++low):=λ{k} hk x i=>by rcases zp.1 i with i|i;exact hk x i;exact Z x i
 have m:∀{ok:br} {w:bx} {v:cg},gm (λ_=>none) ok w (seA 2 (tysD s) (tysD under)) v->gm (λ_=>none) ok w (dZ (s++under)) v:=λ{ok w v} h=>by have:=Y6 ov h;rw[<-aaz]at this;exact this
 have M:∀{k:an} {ok:br} {w:bx} {v:cg},gm (λ_=>none) ok w (seA 7 (vasD k) (vasD low)) v->gm (λ_=>none) ok w (qi (k++low)) v:=λ{k ok w v} h=>by have:=Y6 ov h;rw[<-Sj]at this;exact this
 have F:Hd ⟨8,[ndA n,seA 2 (tysD s) (tysD under)],iH (codeF n (s++under))⟩:=(IY hn zn j).conv (λok w vs h=>by
  match vs,h with
  | [u,v],⟨Q,h2,_⟩=>exact⟨Q,m h2,trivial⟩) (λ_ _ _ h=>h) (by cases codeF n (s++under)<;>rfl)
 have hF:=Pg (en:=en) hu hw od Z;have o:=UR (a:=32) (n:=2) (y:=32) (es:=tysD s) (rs:=tysD under) (Ey _) (by rw[eY,eY];omega) ov;have b:=oJ (al (t0 O) (al (n0 hq) al0)) (oJ o (asO_ok (es:=tysD s) (rs:=tysD under)));have d:s.length<=20000000:=od
 by_cases C:(Fy en n s l (qR aC)).code=14
 .generalize Fy en n s l (qR aC)=A at *;have⟨c,st,sd,p,mi⟩:=A;obtain rfl:c=14:=C;generalize codeF n (s++under)=r at *;have⟨nk,nn,np,nz,na⟩:=n;clear j m o;have b:=Obs.of (T:=[(22,fA),(28,fA)]++(apT 32 34 2 (tysD s) (tysD under)++[(15,nilA)])) b;rcases s with _|⟨T,s⟩<;>rcases under with _|⟨V,under⟩<;>cases r<;>exact TT func6 [aax _ d,⟨_,S⟩,⟨_,U⟩,⟨_,G⟩,⟨_,hR⟩,⟨_,F⟩,⟨_,H⟩] b
 cases I:codeF n (s++under)with
 | no e =>
  rw[I]at F;have he:=EO I;have b:=oJ b (al (t0 C) (al (n1 he) al0));generalize Fy en n s l (qR aC)=A at *;have⟨c,st,sd,p,mi⟩:=A;have⟨nk,nn,np,nz,na⟩:=n;clear j m o I;have b:=Obs.of (T:=[(22,fA),(28,fA)]++(apT 32 34 2 (tysD s) (tysD under)++[(15,nilA),(52,fA),(55,bA true)])) b;rcases s with _|⟨T,s⟩<;>rcases under with _|⟨V,under⟩<;>exact TT func6 [aax _ d,⟨_,S⟩,⟨_,U⟩,⟨_,G⟩,⟨_,hR⟩,⟨_,F⟩,⟨_,H⟩] b
 | ok f2 y =>
  rw[I]at F
  cases t:vW en under low with
  | false =>
   rw[t]at hF;have b:=oJ b (al (t0 C) al0);generalize Fy en n s l (qR aC)=A at *;have⟨c,st,sd,p,mi⟩:=A;have⟨nk,nn,np,nz,na⟩:=n;clear j m o I;have b:=Obs.of (T:=[(22,fA),(28,fA)]++(apT 32 34 2 (tysD s) (tysD under)++[(15,nilA),(52,fA)])) b;rcases s with _|⟨T,s⟩<;>rcases under with _|⟨V,under⟩<;>exact TT func6 [aax _ d,⟨_,S⟩,⟨_,U⟩,⟨_,G⟩,⟨_,hR⟩,⟨_,F⟩,⟨_,hF⟩,⟨_,H⟩] b
  | true =>
   rw[t]at hF;have⟨f,x,hc⟩:∃f x,codeF n s =.ok f x:=by
    cases hc:codeF n s with
    | no e=>rw[run_stuck (.inl ⟨e,hc⟩)]at C;exact absurd rfl C
    | ok f x=>exact⟨f,x,rfl⟩
   have J:vW en s l:=by
    cases J:vW en s l with
    | false=>rw[run_stuck (.inr J)]at C;exact absurd rfl C
    | true=>rfl
   have X:vW en (s++under) (l++low):=fitsK_iff.2 ⟨(fitsK_iff.1 J).1,fitS_app (fitsK_iff.1 J).2 (fitsK_iff.1 t).2⟩;have⟨k1,k2,k3,k4,_⟩:=Z4 (g:=qR aC) hz hc J I X;have R:Hd ⟨10,[Xc en,ndA n,seA 2 (tysD s) (tysD under),seA 7 (vasD l) (vasD low),iA (qR aC)],.of (YW (Fy en n (s++under) (l++low) (qR aC)))⟩:=(Z8 (en:=en) (aC:=qR aC) hn zn j (K hl) (by rw[qT];omega) (L hz) ⟨od,od⟩ od).conv (λok w vs h=>by
    match vs,h with
    | [v0,v1,v2,v3,v4],⟨N,Q,h2,h3,O,_⟩=>exact⟨N,Q,m h2,M h3,O,trivial⟩) (λ_ _ _ h=>h)
   have⟨_,_,a3,a4,a5⟩:=aas (en:=en) (n:=n) (s:=s) (g:=qR aC) hz;have hW:Hd ⟨15,[qi ((Fy en n s l (qR aC)).stack++low),seA 7 (vasD (Fy en n s l (qR aC)).stack) (vasD low)],aQ true⟩:=(Z9 (K a3) (by rw[qT];omega) (L a5)).conv (λok w vs h=>by
    match vs,h with
    | [v0,v1],⟨N,Q,_⟩=>exact⟨N,M Q,trivial⟩) (λ_ _ _ h=>h)
   have W:=UR (a:=73) (n:=7) (y:=112) (es:=vasD l) (rs:=vasD low) (zt _) (by rw[qY,qY];omega) ov;have ab:=UR (a:=106) (n:=7) (y:=112) (es:=vasD (Fy en n s l (qR aC)).stack) (rs:=vasD low) (zt _) (by rw[qY,qY];omega) ov;have D:l.length<=20000000:=od
   have aa:(Fy en n s l (qR aC)).stack.length<=20000000:=od
   have b:=oJ b (al (t0 C) (oJ W (seO_ok (es:=vasD l) (rs:=vasD low))));generalize Fy en n (s++under) (l++low) (qR aC)=B at *;generalize Fy en n s l (qR aC)=A at *;have⟨c,st,sd,p,mi⟩:=A;have⟨bc,ae,ad,bp,P⟩:=B;simp only at *;subst k1 k2 k3;have ne:∀z:Int,jJ (!decide (z=z)) false:=λz=>eT ot;have E:s=[] ↔ l=[]:=by have:=fitS_len (fitsK_iff.1 J).2;rw[<-qg5,<-qg5];omega
   have⟨nk,nn,np,nz,na⟩:=n;clear j m o I hc J X t W K L M
   by_cases N:bc=0
   .subst N;obtain rfl:=k4 rfl;have b:=oJ b (al (ne bp) (al (ne P) (oJ ab (seO_ok (es:=vasD st) (rs:=vasD low)))));have b:=Obs.of (T:=[(22,fA),(28,fA)]++(apT 32 34 2 (tysD s) (tysD under)++([(15,nilA),(52,fA)]++(apT 73 75 7 (vasD l) (vasD low)++([(89,fA),(96,fA)]++apT 106 108 7 (vasD st) (vasD low)))))) b;rcases s with _|⟨T,s⟩<;>rcases l with _|⟨z,l⟩<;>rcases under with _|⟨V,under⟩<;>rcases low with _|⟨u,low⟩<;>rcases st with _|⟨q,st⟩<;>first
     | (exfalso;simp at E Y;done)
     | exact TT func6 [aax _ d,⟨_,S⟩,⟨_,U⟩,⟨_,G⟩,⟨_,hR⟩,⟨_,F⟩,⟨_,hF⟩,⟨_,H⟩,abu _ D,⟨_,G⟩,⟨_,R⟩,abu _ aa,⟨_,hW⟩] b
   .have b:=oJ b (al (ne bc) (al (ne bp) (al (ne P) (al (n1 N) al0))));have b:=Obs.of (T:=[(22,fA),(28,fA)]++(apT 32 34 2 (tysD s) (tysD under)++([(15,nilA),(52,fA)]++(apT 73 75 7 (vasD l) (vasD low)++[(83,fA),(89,fA),(96,fA),(100,bA true)])))) b;rcases s with _|⟨T,s⟩<;>rcases l with _|⟨z,l⟩<;>rcases under with _|⟨V,under⟩<;>rcases low with _|⟨u,low⟩<;>first
     | (exfalso;simp at E Y;done)
     | exact TT func6 [aax _ d,⟨_,S⟩,⟨_,U⟩,⟨_,G⟩,⟨_,hR⟩,⟨_,F⟩,⟨_,hF⟩,⟨_,H⟩,abu _ D,⟨_,G⟩,⟨_,R⟩] b
end
open Go.ChangeShapes Go.WideShapes Go.ChangeAt Go.RowKit
def cells_ty:prog.cellsOf 54=2:=oA
def cells_int:prog.cellsOf 3=1:=oA
def cells_tys:prog.cellsOf 27=1:=oA
def Lx{n:Int}(h:(Lit.int .i64 n).wf):bD n:=by simpa[Lit.wf,IntKind.min,IntKind.max,IntKind.signed,IntKind.bits,bD]using h
def yO{H:Type} : ∀(l:List (DataW H)) (x:DataW H),Rows.uptoBulkAll (l++[x])=Rows.uptoBulkAll l+Rows.uptoBulk x:=by
 intro l x
 induction l with
 | nil=>simp[Rows.uptoBulkAll]
 | cons y l a=>simp[Rows.uptoBulkAll,a];omega
def qh{H:Type}(T:Nat->Ty)(D:Nat->DataW H):∀(n:Nat),(∀i,i<n->(T i).size<=Rows.uptoBulk (D i))->tysizes ((List.range n).map T)<=Rows.uptoBulkAll ((List.range n).map D)
 | 0,_=>by simp[tysizes,Rows.uptoBulkAll]
 | n+1,h=>by have c:=qh T D n (λi a=>h i od);have b:=h n od;rw[jg6,qb0,qb0,pg,qh7,qh7,yO];simp only[tysizes];omega
def Jh{H:Type}(D:Nat->DataW H)(n i:Nat)(h:i<n):Rows.uptoBulk (D i)<=Rows.uptoBulkAll ((List.range n).map D):=by
 induction n with
 | zero=>omega
 | succ n b =>
  rw[jg6,qb0,qh7,yO]
  by_cases a:i=n
  .subst a;omega
  .have:=b od;omega
def JM{ok:br}{w:bx}{t:Int}{c:Nat}(a:bD t):aH ok w (.nd t []) (bY t none 0 c):=aH.of (V:=λ_=>.i 0) a (dw.nil _ _ _ _) (zv _)
def NW{H:Type}{enc:TypeId×cg->H}{W:bx}(N:Nat):∀(j:Nat) (cs:bk) (d:DataW H) (ps:List MemPlace),Rows.uptoBulk d<=N->DataW.trod enc prog W 0 (λ_=>true) true j 54 cs=some (d,ps) ->
 ∃k a l c t,cs=[.i k,.slice a l c]/\aH (λ_=>True) W t (bY k a l c)/\t.size<=Rows.uptoBulk d:=by
 haveI:Inhabited Ty:=⟨.nd 0 []⟩
 induction N with
 | zero =>
  intro j cs d ps hN h;have⟨T,n,_,E,_⟩:=jc3 underlying54 h;simp only[ke]at E;rw[E.1]at hN;simp[Rows.uptoBulk]at hN
 | succ N ih =>
  intro j cs d ps hN h;have⟨T,f,_,E,u,L,Q⟩:=jc3 underlying54 h;rw[cells_ty]at u
  match T,L,cs,u with
  | [y0,y1],_,[v0,v1],_ =>
   have O:=Q 0 _ rfl;have P:=Q 1 _ rfl;simp[cells_int,cells_tys]at O P;have⟨k,M,x0,R⟩:=ja1 underlying3 O;simp only[xo,and_true]at M;subst M;subst x0;simp only[ke]at E;obtain⟨rfl,_⟩:=E;rcases Go.Deep.open_slice underlying27 P with⟨y,S⟩|⟨a,len,X,m,nf,D,U,y,_,hl,hm,C,S,B⟩
   .simp only[xo,and_true]at y;subst y;refine⟨k,none,0,0,.nd k [],rfl,JM (Lx R),?_⟩;simp[Ty.size,tysizes,Rows.uptoBulk]
   .simp only[xo,and_true]at y;subst y;subst S;simp only[if_true]at C;subst C;rw[cells_ty]at B;simp only[qb6,jb1,Rows.uptoBulk,Rows.uptoBulkAll]at hN|-;have J:∀i,i<len->Rows.uptoBulk (D i)<=N:=λi r=>by have:=Jh D len i r;omega
    have⟨q,G⟩:=Go.Deep.choose_lt (α:=Ty×cg) (n:=len) (p:=λi x=>aH (λ_=>True) W x.1 x.2/\x.1.size<=Rows.uptoBulk (D i) /\
     ∃k v l c,x.2=bY k v l c/\W.cells? 0 (a.add (i*2)) 2=some [.i k,.slice v l c]) (λi r=>by
     have⟨I,Z,h2⟩:=B i od;obtain⟨k,v,l,c,t,rfl,F,hs⟩:=ih nf I (D i) (U i) (J i r) h2;exact⟨(t,bY k v l c),F,hs,k,v,l,c,rfl,Z⟩)
    have e:((List.range len).map λi=>(q i).1).length=len:=ot
    have F:=aH.mk (ok:=λ_=>True) (w:=W) (t:=k) (args:=(List.range len).map λi=>(q i).1) (a:=some a) (c:=m) (λi=>(q i).2) (by rw[e];omega) (by rw[e];omega) (Lx R)
     (λi r=>by
      rw[e]at r;have⟨_,_,k',v,l',V,hv,K⟩:=G i r;have⟨_,_,g⟩:=qf5 K;have⟨b,o,sp⟩:=a;have Y:sp=none:=by have⟨_,_,k0,a0,l0,c0,_,A⟩:=G 0 od;have⟨_,_,s⟩:=qf5 A;have:=s 0 od;simp[Addr.add]at this;exact jg1 this
      subst Y;have z:∀x,(⟨b,o,none⟩:Addr).add x=⟨b,o+x,none⟩:=λx=>oX
      rw[z]at g;refine⟨b,o,rfl,trivial,k',v,l',V,hv,?_,?_⟩
      .have:=g 0 od;simpa[Addr.add]using this
      .have:=g 1 od;simpa[Addr.add]using this)
     (λi r=>by rw[e]at r;simpa using (G i r).1)
    rw[e]at F;refine⟨k,some a,len,m,_,rfl,F,?_⟩;have aa:=qh (λi=>(q i).1) D len (λi r=>(G i r).2.1);rw[Ty.size];omega
def cells24:prog.cellsOf 26=5:=oA
def cells3:prog.cellsOf 3=1:=oA
def cells9:prog.cellsOf 9=1:=oA
def cells22:prog.cellsOf 24=1:=oA
def l9{n:Int}(h:(Lit.int .i64 n).wf):bD n:=by simpa[Lit.wf,IntKind.min,IntKind.max,IntKind.signed,IntKind.bits,bD]using h
def uM{H:Type}(T:Nat->Tr)(D:Nat->DataW H):∀(n:Nat),(∀i,i<n->(T i).size<=Rows.uptoBulk (D i))->sizes ((List.range n).map T)<=Rows.uptoBulkAll ((List.range n).map D)
 | 0,_=>by simp[sizes,Rows.uptoBulkAll]
 | n+1,h=>by
  have d:=uM T D n (λi b=>h i od);have c:=h n od;have e:∀(l:List (DataW H)) (x:DataW H),Rows.uptoBulkAll (l++[x])=Rows.uptoBulkAll l+Rows.uptoBulk x:=by
   intro l x
   induction l with
   | nil=>simp[Rows.uptoBulkAll]
   | cons y l a=>simp[Rows.uptoBulkAll,a];omega
  rw[jg6,qb0,qb0,sK,qh7,qh7,e];simp only[sizes];omega
def Dg{H:Type}(D:Nat->DataW H)(n i:Nat)(h:i<n):Rows.uptoBulk (D i)<=Rows.uptoBulkAll ((List.range n).map D):=by
 induction n with
 | zero=>omega
 | succ n c =>
  have e:∀(l:List (DataW H)) (x:DataW H),Rows.uptoBulkAll (l++[x])=Rows.uptoBulkAll l+Rows.uptoBulk x:=by
   intro l x
   induction l with
   | nil=>simp[Rows.uptoBulkAll]
   | cons y l a=>simp[Rows.uptoBulkAll,a];omega
  rw[jg6,qb0,qh7,e]
  by_cases b:i=n
  .subst b;omega
  .have:=c od;omega
def JN{ok:br}{w:bx}{k n p:Int}{s:bo}(c:s.size<=maxLen)(hk:bD k)(hn:bD n)(b:bD p):bI ok w (.nd k n p s []) (af k n p s none 0 0) :=
 bI.mk (hk:=zv _) (args:=[]) (λ_=>.i 0) ot c hk hn b (λi a=>by simp at a) (λi a=>by simp at a)
def D6{H:Type}{enc:TypeId×cg->H}{W:bx}(N:Nat):∀(j:Nat) (cs:bk) (d:DataW H) (ps:List MemPlace),Rows.uptoBulk d<=N->DataW.trod enc prog W 0 (λ_=>true) true j 26 cs=some (d,ps) ->
 ∃k n p s a l c t,cs=[.i k,.i n,.i p,.string s,.slice a l c]/\bI (λ_=>True) W t (af k n p s a l c)/\t.size<=Rows.uptoBulk d:=by
 haveI:Inhabited Tr:=⟨.nd 0 0 0 ⟨#[]⟩ []⟩
 induction N with
 | zero =>
  intro j cs d ps hN h;have⟨xs,n,_,G,_⟩:=jc3 underlying26 h;simp only[ke]at G;rw[G.1]at hN;simp[Rows.uptoBulk]at hN
 | succ N ih =>
  intro j cs d ps hN h;have⟨xs,f,_,G,v,O,E⟩:=jc3 underlying26 h;rw[cells24]at v
  match xs,O,cs,v with
  | [y0,y1,y2,y3,y4],_,[v0,v1,v2,v3,v4],_ =>
   have T:=E 0 _ rfl;have U:=E 1 _ rfl;have V:=E 2 _ rfl;have X:=E 3 _ rfl;have Y:=E 4 _ rfl;simp[cells3,cells9,cells22]at T U V X Y;have⟨k,P,x0,Z⟩:=ja1 underlying3 T;have⟨n,Q,x1,i1⟩:=ja1 underlying3 U;have⟨p,R,x2,i2⟩:=ja1 underlying3 V;have⟨s,S,x3,i3⟩:=DataW.trod_string underlying9 X;simp only[xo,and_true]at P Q R S;subst P;subst Q;subst R;subst S;subst x0;subst x1;subst x2;subst x3;simp only[ke]at G;obtain⟨rfl,_⟩:=G;rcases Go.Deep.open_slice underlying24 Y with⟨z,x4⟩|⟨a,len,aa,m,nf,D,Pl,z,_,hl,hm,F,x4,C⟩
   .simp only[xo,and_true]at z;subst z;refine⟨k,n,p,s,none,0,0,.nd k n p s [],rfl,JN i3 (l9 Z) (l9 i1) (l9 i2),?_⟩;simp[Tr.size,sizes,Rows.uptoBulk]
   .simp only[xo,and_true]at z;subst z;subst x4;simp only[if_true]at F;subst F;rw[cells24]at C;simp only[qb6,jb1,Rows.uptoBulk,Rows.uptoBulkAll]at hN|-;have L:∀i,i<len->Rows.uptoBulk (D i)<=N:=λi r=>by have:=Dg D len i r;omega
    have⟨q,J⟩:=Go.Deep.choose_lt (α:=Tr×cg) (n:=len) (p:=λi x=>bI (λ_=>True) W x.1 x.2/\x.1.size<=Rows.uptoBulk (D i) /\
     ∃k n p s y l c,x.2=af k n p s y l c/\W.cells? 0 (a.add (i*5)) 5=some [.i k,.i n,.i p,.string s,.slice y l c]) (λi r=>by
     have⟨K,h1,h2⟩:=C i od;obtain⟨k,n,p,s,y,l,c,t,rfl,I,hs⟩:=ih nf K (D i) (Pl i) (L i r) h2;exact⟨(t,af k n p s y l c),I,hs,k,n,p,s,y,l,c,rfl,h1⟩)
    have g:((List.range len).map λi=>(q i).1).length=len:=ot
    have I:=bI.mk (hk:=by rw[g];omega) (ok:=λ_=>True) (w:=W) (k:=k) (n:=n) (p:=p) (s:=s) (args:=(List.range len).map λi=>(q i).1) (a:=some a) (c:=m) (λi=>(q i).2) (by rw[g];omega) i3 (l9 Z) (l9 i1) (l9 i2)
     (λi r=>by
      rw[g]at r;have⟨_,_,k',n',p',s',y,l',c',hv,M⟩:=J i r;have⟨_,_,e⟩:=qf5 M;have⟨b,o,sp⟩:=a;have h0:sp=none:=by have⟨_,_,k0,n0,p0,s0,a0,l0,c0,_,B⟩:=J 0 od;have⟨_,_,u⟩:=qf5 B;have:=u 0 od;simp[Addr.add]at this;exact jg1 this
      subst h0;have A:∀x,(⟨b,o,none⟩:Addr).add x=⟨b,o+x,none⟩:=λx=>oX
      rw[A]at e;refine⟨b,o,rfl,trivial,k',n',p',s',y,l',c',hv,?_,?_,?_,?_,?_⟩
      .have:=e 0 od;simpa[Addr.add]using this
      .have:=e 1 od;simpa[Addr.add]using this
      .have:=e 2 od;simpa[Addr.add]using this
      .have:=e 3 od;simpa[Addr.add]using this
      .have:=e 4 od;simpa[Addr.add]using this)
     (λi r=>by rw[g]at r;simpa using (J i r).1)
    rw[g]at I;refine⟨k,n,p,s,some a,len,m,_,rfl,I,?_⟩;have ab:=uM (λi=>(q i).1) D len (λi r=>(J i r).2.1);rw[Tr.size];omega
def Q3{H:Type}{enc:TypeId×cg->H}{W:bx}{r:Reach}{g:Nat}{v:cg}{d:DataW H}{p:List MemPlace}(y:Value.okWide prog W r g 26 v)(h:DataW.Trod enc prog W 0 (λ_=>true) true 26 v d p) :
 ∃t,bI (· < W.heap.size) W t v/\t.size<=Rows.uptoBulk d:=by
 obtain⟨cs,rfl,x⟩:=okWide_struct underlying26 y;have⟨f,u⟩:=h;have⟨k,n,q,s,a,l,c,t,e,m,w⟩:=D6 _ f _ d p (qS _) u;have j:cs=#[.i k,.i n,.i q,.string s,.slice a l c]:=by
  have : cs.toList=[.i k,.i n,.i q,.string s,.slice a l c]:=by simpa[Value.cells]using e
  apply Array.ext';rw[this]
 subst j;exact⟨t,m.ae (λb o _=>o),w⟩
def cells_va:prog.cellsOf 36=7:=oA
def cells_vas:prog.cellsOf 28=1:=oA
def D7{H:Type}{enc:TypeId×cg->H}{W:bx}{r:Nat}{v:cg}{d:DataW H}{ps:List MemPlace}(h:DataW.trod enc prog W 0 (λ_=>true) true r 27 [v]=some (d,ps)) :
 ∃a l c ts V,v =.slice a l c/\(ts.length=l/\l<=c)/\dw (λ_=>True) W ts a V/\tysizes ts<=Rows.uptoBulk d:=by
 haveI:Inhabited Ty:=⟨.nd 0 []⟩
 rcases Go.Deep.open_slice underlying27 h with⟨o,G⟩|⟨a,len,J,m,R,D,I,o,_,T,U,y,G,w⟩
 .simp only[xo,and_true]at o;subst o;exact⟨none,0,0,[],λ_=>.i 0,rfl,⟨rfl,qS _⟩,dw.nil _ _ _ _,by simp[tysizes]⟩
 .simp only[xo,and_true]at o;simp only[ke]at G;subst o;obtain⟨rfl,_⟩:=G;simp only[if_true]at y;subst y;rw[cells_ty]at w;have⟨q,z⟩:=Go.Deep.choose_lt (α:=Ty×cg) (n:=len) (p:=λi x=>aH (λ_=>True) W x.1 x.2/\x.1.size<=Rows.uptoBulk (D i) /\
   ∃k j l c,x.2=bY k j l c/\W.cells? 0 (a.add (i*2)) 2=some [.i k,.slice j l c]) (λi g=>by
   have⟨B,L,M⟩:=w i od;obtain⟨k,j,l,c,t,rfl,N,O⟩:=NW _ R B (D i) (I i) (qS _) M;exact⟨(t,bY k j l c),N,O,k,j,l,c,rfl,L⟩)
  have b:((List.range len).map λi=>(q i).1).length=len:=ot
  refine⟨some a,len,m,(List.range len).map λi=>(q i).1,λi=>(q i).2,rfl,⟨b,od⟩,⟨by rw[b];omega,λi g=>?_,λi g=>?_⟩,?_⟩
  .rw[b]at g;have⟨_,_,k,j,l,c,Q,E⟩:=z i g;have⟨_,_,e⟩:=qf5 E;have⟨A,F,S⟩:=a;have K:S=none:=by
    have⟨_,_,C⟩:=z 0 od;have⟨_,_,_,_,_,u⟩:=C;have⟨_,_,f⟩:=qf5 u;have:=f 0 od;simp[Addr.add]at this;exact jg1 this
   subst K;have s:∀x,(⟨A,F,none⟩:Addr).add x=⟨A,F+x,none⟩:=λx=>oX
   rw[s]at e;refine⟨A,F,rfl,trivial,k,j,l,c,Q,?_,?_⟩
   .have:=e 0 od;simpa[Addr.add]using this
   .have:=e 1 od;simpa[Addr.add]using this
  .rw[b]at g;simpa using (z i g).1
  .have P:=qh (λi=>(q i).1) D len (λi g=>(z i g).2.1);simp only[Rows.uptoBulk];omega
def NV{H:Type}{enc:TypeId×cg->H}{W:bx}{r:Nat}{v:cg}{d:DataW H}{ps:List MemPlace}(h:DataW.trod enc prog W 0 (λ_=>true) true r 24 [v]=some (d,ps)) :
 ∃a l c ts V,v =.slice a l c/\(ts.length=l/\l<=c)/\cK (λ_=>True) W ts a V/\sizes ts<=Rows.uptoBulk d:=by
 haveI:Inhabited Tr:=⟨.nd 0 0 0 ⟨#[]⟩ []⟩
 rcases Go.Deep.open_slice underlying24 h with⟨o,I⟩|⟨a,len,K,m,S,D,J,o,_,U,X,z,I,y⟩
 .simp only[xo,and_true]at o;subst o;exact⟨none,0,0,[],λ_=>.i 0,rfl,⟨rfl,qS _⟩,cK.nil _ _ _ _,by simp[sizes]⟩
 .simp only[xo,and_true]at o;simp only[ke]at I;subst o;obtain⟨rfl,_⟩:=I;simp only[if_true]at z;subst z;rw[cells24]at y;have⟨q,A⟩:=Go.Deep.choose_lt (α:=Tr×cg) (n:=len) (p:=λi x=>bI (λ_=>True) W x.1 x.2/\x.1.size<=Rows.uptoBulk (D i) /\
   ∃k n p s j l c,x.2=af k n p s j l c/\W.cells? 0 (a.add (i*5)) 5=some [.i k,.i n,.i p,.string s,.slice j l c]) (λi g=>by
   have⟨C,M,N⟩:=y i od;obtain⟨k,n,p,s,j,l,c,t,rfl,O,P⟩:=D6 _ S C (D i) (J i) (qS _) N;exact⟨(t,af k n p s j l c),O,P,k,n,p,s,j,l,c,rfl,M⟩)
  have e:((List.range len).map λi=>(q i).1).length=len:=ot
  refine⟨some a,len,m,(List.range len).map λi=>(q i).1,λi=>(q i).2,rfl,⟨e,od⟩,⟨by rw[e];omega,λi g=>?_,λi g=>?_⟩,?_⟩
  .rw[e]at g;have⟨_,_,k,n,p,s,j,l,c,R,F⟩:=A i g;have⟨_,_,b⟩:=qf5 F;have⟨B,G,T⟩:=a;have L:T=none:=by
    have⟨_,_,E⟩:=A 0 od;have⟨_,_,_,_,_,_,_,_,w⟩:=E;have⟨_,_,f⟩:=qf5 w;have:=f 0 od;simp[Addr.add]at this;exact jg1 this
   subst L;have u:∀x,(⟨B,G,none⟩:Addr).add x=⟨B,G+x,none⟩:=λx=>oX
   rw[u]at b;refine⟨B,G,rfl,trivial,k,n,p,s,j,l,c,R,?_,?_,?_,?_,?_⟩
   .have:=b 0 od;simpa[Addr.add]using this
   .have:=b 1 od;simpa[Addr.add]using this
   .have:=b 2 od;simpa[Addr.add]using this
   .have:=b 3 od;simpa[Addr.add]using this
   .have:=b 4 od;simpa[Addr.add]using this
  .rw[e]at g;simpa using (A i g).1
  .have Q:=uM (λi=>(q i).1) D len (λi g=>(A i g).2.1);simp only[Rows.uptoBulk];omega
def sO{H:Type}(T:Nat->Va)(D:Nat->DataW H):∀(n:Nat),(∀i,i<n->(T i).size<=Rows.uptoBulk (D i))->vsizes ((List.range n).map T)<=Rows.uptoBulkAll ((List.range n).map D)
 | 0,_=>by simp[vsizes,Rows.uptoBulkAll]
 | n+1,h=>by have c:=sO T D n (λi a=>h i od);have b:=h n od;rw[jg6,qb0,qb0,kK,qh7,qh7,yO];simp only[vsizes];omega
def J6{H:Type}{enc:TypeId×cg->H}{W:bx}(N:Nat):∀(e:Nat) (cs:bk) (d:DataW H) (ps:List MemPlace),Rows.uptoBulk d<=N->DataW.trod enc prog W 0 (λ_=>true) true e 36 cs=some (d,ps) ->
 ∃k n a s r al ac ta tl tc na l nc t,cs=[.i k,.i n,.i a,.string s,.slice r al ac,.slice ta tl tc,.slice na l nc]/\aA (λ_=>True) W t (bg k n a s r al ac ta tl tc na l nc)/\t.size<=Rows.uptoBulk d:=by
 haveI:Inhabited Va:=⟨.mk 0 0 0 ⟨#[]⟩ [] [] []⟩
 induction N with
 | zero =>
  intro e cs d ps hN h;have⟨xs,n,_,E,_⟩:=jc3 underlying36 h;simp only[ke]at E;rw[E.1]at hN;simp[Rows.uptoBulk]at hN
 | succ N ih =>
  intro e cs d ps hN h;have⟨xs,f,_,E,o,X,u⟩:=jc3 underlying36 h;rw[cells_va]at o
  match xs,X,cs,o with
  | [y0,y1,y2,y3,y4,y5,y6],_,[v0,v1,v2,v3,v4,v5,v6],_ =>
   have g0:=u 0 _ rfl;have g1:=u 1 _ rfl;have g2:=u 2 _ rfl;have g3:=u 3 _ rfl;have g4:=u 4 _ rfl;have g5:=u 5 _ rfl;have g6:=u 6 _ rfl;simp[cells3,cells9,cells_vas,cells_tys,cells22]at g0 g1 g2 g3 g4 g5 g6;have⟨k,e0,x0,i0⟩:=ja1 underlying3 g0;have⟨n,e1,x1,i1⟩:=ja1 underlying3 g1;have⟨a,e2,x2,i2⟩:=ja1 underlying3 g2;have⟨s,e3,x3,i3⟩:=DataW.trod_string underlying9 g3;simp only[xo,and_true]at e0 e1 e2 e3;subst e0;subst e1;subst e2;subst e3;subst x0;subst x1;subst x2;subst x3;obtain⟨ta,tl,tc,types,VT,rfl,⟨U,aq⟩,y,hsT⟩:=D7 g5;obtain⟨na,l,nc,code,VN,rfl,⟨S,ai⟩,w,T⟩:=NV g6;subst U;subst S;simp only[ke]at E;obtain⟨rfl,_⟩:=E;rcases Go.Deep.open_slice underlying28 g4 with⟨v,x4⟩|⟨r,len,ah,m,nf,D,Pl,v,_,hl,hm,C,x4,B⟩
   .simp only[xo,and_true]at v;subst v;refine⟨k,n,a,s,none,0,0,ta,types.length,tc,na,code.length,nc,.mk k n a s [] types code,rfl,aA.of (args:=[]) (V:=λ_=>.i 0) (zv _) i3 (l9 i0) (l9 i1) (l9 i2) (aT.nil _ _ _ _) y w ⟨oS,oS⟩,?_⟩;simp[Va.size,vsizes,Rows.uptoBulk,Rows.uptoBulkAll]at hsT T|-;omega
   .simp only[xo,and_true]at v;subst v;subst x4;simp only[if_true]at C;subst C;rw[cells_va]at B;simp only[qb6,jb1,Rows.uptoBulk,Rows.uptoBulkAll]at hN|-;have Q:∀i,i<len->Rows.uptoBulk (D i)<=N:=λi g=>by have:=Dg D len i g;omega
    have⟨q,I⟩:=Go.Deep.choose_lt (α:=Va×cg) (n:=len) (p:=λi x=>aA (λ_=>True) W x.1 x.2/\x.1.size<=Rows.uptoBulk (D i) /\
     ∃k n a s F al ac ta tl tc na l nc,x.2=bg k n a s F al ac ta tl tc na l nc/\W.cells? 0 (r.add (i*7)) 7=some [.i k,.i n,.i a,.string s,.slice F al ac,.slice ta tl tc,.slice na l nc]) (λi g=>by
     have⟨O,h1,h2⟩:=B i od;obtain⟨k,n,a,s,F,al,ac,ta,tl,tc,na,l,nc,t,rfl,G,hs⟩:=ih nf O (D i) (Pl i) (Q i g) h2;exact⟨(t,bg k n a s F al ac ta tl tc na l nc),G,hs,k,n,a,s,F,al,ac,ta,tl,tc,na,l,nc,rfl,h1⟩)
    have c:((List.range len).map λi=>(q i).1).length=len:=ot
    have hV:aT (λ_=>True) W ((List.range len).map λi=>(q i).1) (some r) (λi=>(q i).2):=by
     refine⟨by rw[c];omega,λi g=>?_,λi g=>?_⟩
     .rw[c]at g;have⟨_,_,k',n',a',s',J,L,K,ad,jJ,ae,Y,ab,Z,hv,R⟩:=I i g;have⟨_,_,b⟩:=qf5 R;have⟨M,oo,sp⟩:=r;have h0:sp=none:=by
       have⟨_,_,P⟩:=I 0 od;have⟨_,_,_,_,_,_,_,_,_,_,_,_,_,_,A⟩:=P;have⟨_,_,j⟩:=qf5 A;have:=j 0 od;simp[Addr.add]at this;exact jg1 this
      subst h0;have z:∀x,(⟨M,oo,none⟩:Addr).add x=⟨M,oo+x,none⟩:=λx=>oX
      rw[z]at b;refine⟨M,oo,rfl,trivial,k',n',a',s',J,L,K,ad,jJ,ae,Y,ab,Z,hv,?_,?_,?_,?_,?_,?_,?_⟩
      .have:=b 0 od;simpa[Addr.add]using this
      .have:=b 1 od;simpa[Addr.add]using this
      .have:=b 2 od;simpa[Addr.add]using this
      .have:=b 3 od;simpa[Addr.add]using this
      .have:=b 4 od;simpa[Addr.add]using this
      .have:=b 5 od;simpa[Addr.add]using this
      .have:=b 6 od;simpa[Addr.add]using this
     .rw[c]at g;simpa using (I i g).1
    have G:=aA.of (k:=k) (n:=n) (a:=a) (s:=s) (ac:=m) (tc:=tc) (nc:=nc) (by rw[c];omega) i3 (l9 i0) (l9 i1) (l9 i2) hV y w ⟨oS,oS⟩;rw[c]at G;refine⟨k,n,a,s,some r,len,m,ta,types.length,tc,na,code.length,nc,_,rfl,G,?_⟩;have aj:=sO (λi=>(q i).1) D len (λi g=>(I i g).2.1);rw[Va.size];omega
def cells_env:prog.cellsOf 23=4:=oA
def Q4{H:Type}{enc:TypeId×cg->H}{W:bx}{r:Reach}{x:Nat}{v:cg}{d:DataW H}{p:List MemPlace}(z:Value.okWide prog W r x 23 v)(h:DataW.Trod enc prog W 0 (λ_=>true) true 23 v d p) :
 ∃en:En,v =.agg #[.i en.self,.i en.sender,.i en.amount,.i en.balance]:=by
 obtain⟨cs,rfl,y⟩:=okWide_struct underlying23 z;have⟨q,e⟩:=h;have⟨A,f,_,B,c,g,e⟩:=jc3 underlying23 e;rw[cells_env]at c;have⟨cs⟩:=cs;simp only[Value.cells]at c e
 match A,g,cs,c with
 | [G,I,J,K],_,[C,D,E,F],_ =>
  have s:=e 0 _ rfl;have t:=e 1 _ rfl;have u:=e 2 _ rfl;have w:=e 3 _ rfl;simp[cells_int]at s t u w;have⟨k,j,_⟩:=ja1 underlying3 s;have⟨n,l,_⟩:=ja1 underlying3 t;have⟨a,m,_⟩:=ja1 underlying3 u;have⟨b,o,_⟩:=ja1 underlying3 w;simp only[xo,and_true]at j l m o;subst j;subst l;subst m;subst o;exact⟨⟨k,n,a,b⟩,rfl⟩
def J4{H:Type}{enc:TypeId×cg->H}{W:bx}{r:Reach}{f:Nat}{v:cg}{d:DataW H}{p:List MemPlace}(m:Value.okWide prog W r f 27 v)(h:DataW.Trod enc prog W 0 (λ_=>true) true 27 v d p) :
 ∃(ts:ao) (a:bj) (c:Nat) (V:bt),v =.slice a ts.length c/\ts.length<=c/\dw (λ_=>True) W ts a V/\tysizes ts<=Rows.uptoBulk d:=by
 obtain⟨a,l,c,rfl⟩:=okWide_slice underlying27 m;have⟨b,i⟩:=h;have⟨o,s,q,ts,V,e,⟨j,g⟩,k,n⟩:=D7 (v:=.slice a l c) i;simp only[kj]at e;obtain⟨rfl,rfl,rfl⟩:=e;subst j;exact⟨ts,a,c,V,rfl,g,k,n⟩
def J5{H:Type}{enc:TypeId×cg->H}{W:bx}{r:Reach}{b0:Nat}{v:cg}{d:DataW H}{p:List MemPlace}(S:Value.okWide prog W r b0 28 v)(h:DataW.Trod enc prog W 0 (λ_=>true) true 28 v d p) :
 ∃(l:an) (a:bj) (c:Nat) (V:bt),v =.slice a l.length c/\l.length<=c/\aT (λ_=>True) W l a V/\vsizes l<=Rows.uptoBulk d:=by
 haveI:Inhabited Va:=⟨.mk 0 0 0 ⟨#[]⟩ [] [] []⟩
 obtain⟨a,l,c,rfl⟩:=okWide_slice underlying28 S;have⟨u,hf⟩:=h;have g4:DataW.trod enc prog W 0 (λ_=>true) true u 28 [.slice a l c]=some (d,p):=hf;rcases Go.Deep.open_slice underlying28 g4 with⟨o,x4⟩|⟨K,len,ad,m,nf,D,Pl,o,_,hl,hm,A,x4,z⟩
 .simp only[xo,and_true]at o;rw[o];exact⟨[],none,0,λ_=>.i 0,rfl,qS _,aT.nil _ _ _ _,by simp[vsizes]⟩
 .simp only[xo,and_true]at o;rw[o];simp only[ke]at x4;obtain⟨rfl,_⟩:=x4;simp only[if_true]at A;subst A;rw[cells_va]at z;have⟨q,J⟩:=Go.Deep.choose_lt (α:=Va×cg) (n:=len) (p:=λi x=>aA (λ_=>True) W x.1 x.2/\x.1.size<=Rows.uptoBulk (D i) /\
   ∃k n a s I al j F tl G B E C,x.2=bg k n a s I al j F tl G B E C/\W.cells? 0 (K.add (i*7)) 7=some [.i k,.i n,.i a,.string s,.slice I al j,.slice F tl G,.slice B E C]) (λi g=>by
   have⟨P,h1,h2⟩:=z i od;obtain⟨k,n,a,s,I,al,j,F,tl,G,B,E,C,t,rfl,hL,hs⟩:=J6 _ nf P (D i) (Pl i) (qS _) h2;exact⟨(t,bg k n a s I al j F tl G B E C),hL,hs,k,n,a,s,I,al,j,F,tl,G,B,E,C,rfl,h1⟩)
  have e:((List.range len).map λi=>(q i).1).length=len:=ot
  refine⟨(List.range len).map λi=>(q i).1,some K,m,λi=>(q i).2,by rw[e],by rw[e];omega,⟨by rw[e];omega,λi g=>?_,λi g=>?_⟩,?_⟩
  .rw[e]at g;have⟨_,_,k',n',a',s',L,N,M,Z,jJ,ab,T,X,U,S,R⟩:=J i g;have⟨_,_,b⟩:=qf5 R;have⟨O,Y,sp⟩:=K;have h0:sp=none:=by
    have⟨_,_,Q⟩:=J 0 od;have⟨_,_,_,_,_,_,_,_,_,_,_,_,_,_,y⟩:=Q;have⟨_,_,f⟩:=qf5 y;have:=f 0 od;simp[Addr.add]at this;exact jg1 this
   subst h0;have w:∀x,(⟨O,Y,none⟩:Addr).add x=⟨O,Y+x,none⟩:=λx=>oX
   rw[w]at b;refine⟨O,Y,rfl,trivial,k',n',a',s',L,N,M,Z,jJ,ab,T,X,U,S,?_,?_,?_,?_,?_,?_,?_⟩
   .have:=b 0 od;simpa[Addr.add]using this
   .have:=b 1 od;simpa[Addr.add]using this
   .have:=b 2 od;simpa[Addr.add]using this
   .have:=b 3 od;simpa[Addr.add]using this
   .have:=b 4 od;simpa[Addr.add]using this
   .have:=b 5 od;simpa[Addr.add]using this
   .have:=b 6 od;simpa[Addr.add]using this
  .rw[e]at g;simpa using (J i g).1
  .have ae:=sO (λi=>(q i).1) D len (λi g=>(J i g).2.1);simp only[Rows.uptoBulk];omega
end Go.Proofs.YtgfdimkbfnpepaaGreat
namespace Go.Proofs.YtgfdimkbfnpepaaGreat.runFrame
set_option linter.all false
open Go.Proofs.Tryz
set_option maxRecDepth 100000
set_option maxHeartbeats 4000000
open Go.ChangeShapes Go.WideShapes Go.ChangeAt Go.RowKit
open Pe (fI gm dU iZ)
def own:ownKnob prog.godebug=none:=oA
def laidOut:laidOutB prog:=oA
def PY{w w':bx}(h:cm w w' none):Below w.heap.size w w':=⟨h.os,h.tape,h.output,h.size,λk a=>h.block k a ot⟩
def contract(H:Type)(enc:TypeId×cg->H)(W:bx)(f:Nat)(args:Array cg)(ds gs:List (DataW H))(c:List MemPlace)
 (hval:∀(j:Nat) t v,f6.params[j]?=some t->args[j]?=some v->Value.okWide prog W .any f t v)
 (hW:DataW.Whole enc prog f6.params.toList Rows.runFrameSpec.vars false W args.toList ds gs c) (hk:Rows.uptoSmall H (ds++gs)) :
 Calls prog 6 args W λe W'=>∃v,e =.returned v/\Rows.runFrameSpec.post enc prog f6 false true false false W args v W':=by
 have a:=hW;obtain⟨p,q,hA0,hV,rfl,ay,ba⟩:=hW;have hA:DataW.TrodAll enc prog W 0 (λ_=>true) true f6.params.toList args.toList ds p:=hA0;rw[params6]at hA hval;obtain⟨v0,bh,d0,ah,p0,q0,P,rfl,rfl,h0,r0⟩:=ka0 hA;obtain⟨v1,bl,d1,ai,p1,q1,G,rfl,rfl,h1,r1⟩:=ka0 r0;obtain⟨v2,bm,d2,aj,p2,q2,I,rfl,rfl,h2,r2⟩:=ka0 r1;obtain⟨v3,bp,d3,aq,p3,q3,J,rfl,rfl,h3,r3⟩:=ka0 r2;obtain⟨v4,bq,d4,ar,p4,q4,K,rfl,rfl,h4,r4⟩:=ka0 r3;obtain⟨v5,ca,d5,au,p5,q5,L,rfl,rfl,h5,r5⟩:=ka0 r4;obtain⟨v6,cb,d6,ax,p6,q6,M,rfl,rfl,h6,r6⟩:=ka0 r5;obtain⟨rfl,rfl,rfl⟩:=trodAll_nil r6;obtain rfl:args=#[v0,v1,v2,v3,v4,v5,v6]:=by cases args;simp_all
 obtain⟨rfl,rfl⟩:=trodVars_none hV;have hb:=qh3 hk;simp only[qc2,Rows.uptoBulkAll]at hb;obtain⟨en,rfl⟩:=Q4 (hval 0 23 v0 rfl rfl) h0;have⟨n,hL,hs⟩:=Q3 (hval 1 26 v1 rfl rfl) h1;obtain⟨s,sa,sc,VS,rfl,Y,N,bb⟩:=J4 (hval 2 27 v2 rfl rfl) h2;obtain⟨u,ua,uc,VU,rfl,aa,O,bc⟩:=J4 (hval 3 27 v3 rfl rfl) h3;obtain⟨l,la,lc,VL,rfl,T,i,aO⟩:=J5 (hval 4 28 v4 rfl rfl) h4;obtain⟨k,ka,kc,VK,rfl,R,g,az⟩:=J5 (hval 5 28 v5 rfl rfl) h5;obtain⟨aC,rfl⟩:=okWide_int underlying3 (hval 6 3 v6 rfl rfl);have Q:bD aC:=by have⟨ad,hf⟩:=h6;have⟨m,e,_,hw⟩:=ja1 underlying3 hf;simp[Value.cells]at e;subst e;exact l9 hw
 clear hA0;simp only[qc2]at a;have w:∀x∈p0,x.block<W.heap.size:=λx b=>a.lt x (by simp[b]);have y:∀x∈p1,x.block<W.heap.size:=λx b=>a.lt x (by simp[b]);have z:∀x∈p2,x.block<W.heap.size:=λx b=>a.lt x (by simp[b]);have A:∀x∈p3,x.block<W.heap.size:=λx b=>a.lt x (by simp[b]);have B:∀x∈p4,x.block<W.heap.size:=λx b=>a.lt x (by simp[b]);have C:∀x∈p5,x.block<W.heap.size:=λx b=>a.lt x (by simp[b]);have D:∀x∈p6,x.block<W.heap.size:=λx b=>a.lt x (by simp[b]);have⟨X,V⟩:=LH (hL.ae (ok':=λ_=>True) λ_ _ _=>trivial);have⟨E,Z⟩:=qV N Y;have⟨F,ab⟩:=qV O aa;have U:=yu i T;have r:=U6 i;have S:=yu g R;have o:=U6 g;have bf:(s.length<=tysizes s/\l.length<=vsizes l)/\u.length<=tysizes u/\k.length<=vsizes k:=⟨⟨tlength_le s,kS l⟩,tlength_le u,kS k⟩;have hH:=(aaC (en:=en) (n:=n) (s:=s) (under:=u) (l:=l) (low:=k) (aC:=aC) X od E od F od r od (λx b=>by have:=fO b;omega) o od (λx b=>by have:=fO b;omega) Q).runN rfl (λ_=>True) W [_,v1,_,_,_,_,_] ⟨Xd _ _ _,V,Z,ab,U,S,.v _,trivial⟩;refine hH.mono λe W' ⟨Q,v,he,hv⟩=>?_;obtain rfl:=Pe.bW hv;subst he;have d:=PY Q;exact⟨_,rfl,_,_,_,[],p0++(p1++(p2++(p3++(p4++(p5++(p6++[])))))),[],a,jc4 (shut_bool underlying4 _) trodAll_mk0,jc4 (Below.trod laidOut oA (qh3 oA) h0 d w) (jc4 (Below.trod laidOut oA (qh3 oA) h1 d y) (jc4 (Below.trod laidOut oA (qh3 oA) h2 d z) (jc4 (Below.trod laidOut oA (qh3 oA) h3 d A) (jc4 (Below.trod laidOut oA (qh3 oA) h4 d B) (jc4 (Below.trod laidOut oA (qh3 oA) h5 d C) (jc4 (Below.trod laidOut oA (qh3 oA) h6 d D) trodAll_mk0)))))),rfl,d.frame _,λh=>by cases h⟩
def lifted(f:Os)(a:f.Started)(H:Type)(enc:TypeId×cg->H)(F:Stop.Interp) :
 ReturnsInHanded {} checked f 6 .any ((Rows.OpenSpec.upto Rows.runFrameSpec).pre6 enc prog f6 Rows.runFrameUptoRow.domain false) (((Rows.OpenSpec.upto Rows.runFrameSpec).at F).post enc prog f6 false true false false):=by
 refine returnsInHanded_of_cond (C:=checked) (s:=Rows.OpenSpec.upto Rows.runFrameSpec) (k:=Rows.uptoSmall) rfl own a oA func6
  (OpenSpec.witness (enc:=enc) (C:=checked) (s:=Rows.OpenSpec.upto Rows.runFrameSpec) (k:=Rows.uptoSmall) rfl false ⟨#[],#[.agg #[.i 0,.i 0,.i 0,.i 0],.agg #[.i 0,.i 0,.i 0,.string .empty,.n0],.n0,.n0,.n0,.n0,.i 0],[]⟩ 8 oA oA oA
   (x:=([.agg [.lit (.int .i64 0),.lit (.int .i64 0),.lit (.int .i64 0),.lit (.int .i64 0)],.agg [.lit (.int .i64 0),.lit (.int .i64 0),.lit (.int .i64 0),.lit (.string []),.nil],.nil,.nil,.nil,.nil,.lit (.int .i64 0)],[],[])) oA rfl oA) ?_
 intro W d c g h b e j _ l _;exact contract H enc W d c g h b e j l
def over:Rows.runFrameUptoRow.holds Tryz.pinned (Rows.OpenSpec.upto Rows.runFrameSpec) :=
 OpenClaim.holds_of_cond 6 f6 rfl rfl rfl rfl rfl rfl rfl ⟨rfl,rfl,rfl,rfl,rfl⟩ rfl rfl rfl rfl rfl oA func6 oA
  (qh3 oA) (by unfold Func.isWrapper;first|(rw[if_pos vu];kernel_rfl)|(rw[if_neg vu];exact⟨rfl,rfl⟩))
  (λc a H b _ F=>lifted c a H b F)
end Go.Proofs.YtgfdimkbfnpepaaGreat.runFrame
namespace Go.Proofs.YtgfdimkbfnpepaaGreat
set_option linter.all false
open Go.Proofs.Tryz
set_option maxRecDepth 100000
set_option maxHeartbeats 4000000
theorem runFrame_holds:Rows.RunFrameUptoSaid:=runFrame.over
#print axioms runFrame_holds
