/- For every environment, two trees, list of types, list of values and number whose reading holds at most 1048576 values and letters, RunParts returns true and leaves its arguments as they were. Condition: that bound on the reading. -/
import Derived.Test.YtgfdimkbfnpepaaGreatKpZax
import Derived.Deep.Slices
import Derived.Lib.SmallJoins
import Derived.JoinedCond
namespace Go.Proofs.YtgfdimkbfnpepaaGreat
set_option linter.all false
open Go.Proofs.Tryz
set_option maxRecDepth 100000
set_option maxHeartbeats 4000000
open Pe
def mnS (l:List Tr) (s j:Nat):St:=[((0,3),.of (jA s)),((0,7),.of (CW l)),((0,8),lW (ndsD l).length),((0,9),.of (jA j))]
def ZV{l:List Tr}(hz:sizes l<=2000000)(H:∀x∈l,Hd ⟨41,[ndA x],.of (jA x.size)⟩):∀(k j:Nat),j+k=l.length->vO prog f41.ntmps ⟨gF f41,mnS l (sizes (l.take j)+1) j,2,[((0,3),.of (jA (sizes l+1)))]⟩:=λk=>by
 have o:=cB l;have d:(ndsD l).length=l.length:=by simp[ndsD_map]
 induction k with
 | zero =>
  intro j n;rw[show l.take j=l from qh1 od];exact xQ (e:=1) [(10,bA false)] [] (ob:=[mD (aQ (decide (Int.ofNat j<((ndsD l).length:Int)))) (bA false)]) (al (wH (by rw[d];simp;omega)) al0)
 | succ k v =>
  intro j n;have c:j<l.length:=od
  have r:=is_lt (a:=Int.ofNat j) (b:=((ndsD l).length:Int)) (by rw[d];simp;omega);have s:=WV (qt c);have t:mD (lW (IntKind.i64.wrap (Int.ofNat j+1))) (jA (j+1)):=yY (by rw[qe4];simp only[Int.ofNat_eq_natCast];omega);have hF:=H _ (zj c);have p:=v (j+1) od;have w:=gH l j c;have q:=jF l (j+1);have u:mD (lW (IntKind.i64.wrap (Int.ofNat (sizes (l.take j)+1)+Int.ofNat (l[j]).size))) (jA (sizes (l.take (j+1))+1)):=yY (by rw[qe4];simp only[Int.ofNat_eq_natCast];omega);generalize l[j]=x at *;generalize sizes (l.take j)=a at *;generalize sizes (l.take (j+1))=b at *;obtain⟨f,g,h,m,i⟩:=x;exact LG [(10,bA true),(11,.one (.e (ndD (.nd f g h m i)) 0)),(16,jA (b+1)),(17,jA (j+1))] [⟨_,hF⟩] p (ob:=[mD (aQ (decide (Int.ofNat j<((ndsD l).length:Int)))) (bA true),Yp l j (.nd f g h m i),mD (lW (IntKind.i64.wrap (Int.ofNat (a+1)+Int.ofNat (Tr.size (.nd f g h m i))))) (jA (b+1)),mD (lW (IntKind.i64.wrap (Int.ofNat j+1))) (jA (j+1))]) (al r (al s (al u (al t al0))))
def H_many:∀(N:Nat) {t:Tr},t.size<=N->N<=2000000->Hd ⟨41,[ndA t],.of (jA t.size)⟩
 | 0,t,h,_=>by have:=size_pos t;omega
 | N+1,.nd k n p s l,h,c=>by rw[Tr.size]at h;have b:=ZV (l:=l) od (λx a=>H_many N (by have:=Ei a;omega) od) l.length 0 od;rw[show Tr.size (.nd k n p s l)=sizes l+1 by rw[Tr.size]];exact Ce func41 [] [⟨gF f41,mnS l 1 0,2,[((0,3),.of (jA (sizes l+1)))]⟩] (by intro x a;rw[yq]at a;subst a;simpa[sizes]using b) [] (wI (S:=mnS l 1 0) (q:=gF f41=gF f41) rfl (ps:=[]) al0)
def QH (a b:Tr):Bool:=decide (a.k0=3/\b.k0=3/\a.size+b.size<=300)
def Z8{a b:Tr}{x y:Nat}(e:a.size=x)(f:b.size=y)(c:a.k0=3)(d:b.k0=3):QH a b=decide (Int.ofNat (x+y)<=300):=by unfold QH;apply decide_eq_decide.2;simp only[Int.ofNat_eq_natCast];omega
def UU{a b:Tr}(h:¬(a.k0=3/\b.k0=3)):QH a b=false:=jc2 λe=>h ⟨e.1,e.2.1⟩
def aad{a b:Tr}(t:a.size<=2000000)(u:b.size<=2000000):Hd ⟨17,[ndA a,ndA b],aQ (QH a b)⟩:=by
 have q:=H_many _ (qv _) t;have r:=H_many _ (qv _) u;have s:mD (lW (IntKind.i64.wrap (Int.ofNat a.size+Int.ofNat b.size))) (jA (a.size+b.size)):=yY (by rw[qe4];simp only[Int.ofNat_eq_natCast];omega)
 by_cases d:a.k0=3
 .by_cases f:b.k0=3
  .generalize o:a.size=x at *;generalize p:b.size=y at *;rw[Z8 o p d f];clear o p;obtain⟨c,g,i,j,al⟩:=a;obtain⟨e,l,m,n,k⟩:=b;obtain rfl:c=3:=d;obtain rfl:e=3:=f;exact runT func17 [(18,jA (x+y))] [⟨_,q⟩,⟨_,r⟩] (Go.Proofs.YtgfdimkbfnpepaaGreat.al s al0)
  .rw[UU (λh=>f h.2)];obtain⟨c,g,i,j,al⟩:=a;obtain⟨e,l,m,n,k⟩:=b;obtain rfl:c=3:=d;exact runT func17 [(11,fA)] [] (Go.Proofs.YtgfdimkbfnpepaaGreat.al (eT (jc2 f)) al0)
 .rw[UU (λh=>d h.1)];obtain⟨c,g,i,j,al⟩:=a;obtain⟨e,l,m,n,k⟩:=b;exact runT func17 [(7,fA)] [] (Go.Proofs.YtgfdimkbfnpepaaGreat.al (eT (jc2 d)) al0)
section
variable {en:En}{n m:Tr}{s:List Ty}{l:List Va}{g aC:Int}
def aah(d:Sm l):0<=(Fy en n s l g).aC/\((Fy en n s l g).aC=0\/(Fy en n s l g).aC<=g):=by
 rcases Z7 en n s d with h|⟨x,h⟩
 .rw[h];exact⟨ov,.inl rfl⟩
 .obtain⟨N,e,a⟩:=h g;rw[e]
  cases b:fq en g N (jO l n.args0)with
  | stuck=>rw[b]at a;exact a.elim
  | go m=>rw[b]at a;exact⟨a.2.2.1,a.2.2.2.1⟩
  | no c m=>rw[b]at a;exact a.1
def aaf(e:okN n)(d:okN m):okN (Fp n m):=by obtain⟨_,_,_,_,a⟩:=n;obtain⟨_,_,_,_,b⟩:=m;exact⟨⟨i64,i64,i64,ov⟩,okNs_at.2 λx c=>by rcases qa0.1 c with c|c;exact okNs_at.1 e.2 x c;exact okNs_at.1 d.2 x c⟩
def ZX(d:n.size<=2000000)(c:m.size<=2000000):n.args0.length<=2000000/\m.args0.length<=2000000/\(Fp n m).size<=4000000:=by obtain⟨_,_,_,_,a⟩:=n;obtain⟨_,_,_,_,b⟩:=m;simp only[Tr.size,Fp,Tr.args0,sK]at *;have:=cB a;have:=cB b;omega
def aab(hn:okN n)(zn:n.size<=2000000)(hm:okN m)(zm:m.size<=2000000)(O:okTs s)(ao:s.length<=10000000)(hl:okVs l)(h6:l.length<=10000000)(hz:Sm l)(hg:bD aC):Hd ⟨5,[Xc en,ndA n,ndA m,dZ s,qi l,iA aC],aQ true⟩:=by
 have a:=Tm O od;have b:=Pt hl od;have r:=WE hg;have hp:=Rh aC;have k:=IY hn od O;have hR:=VK (en:=en) (aC:=qR aC) hn od O hl h6 hz ⟨od,od⟩ od;have u:=H_runs;have t:=aad zn zm;obtain⟨ad,ae,aq⟩:=ZX zn zm;have F:=aak ad ae;have i:=VK (en:=en) (aC:=qR aC) (aaf hn hm) od O hl h6 hz ⟨od,od⟩ od;have E:=UT (en:=en) (n:=n) (s:=s) (g:=qR aC) hz
 cases L:codeF n s with
 | no e =>
  rw[L]at k;have he:=EO L;generalize Fy en n s l (qR aC)=A at *;obtain⟨c,st,Z,p,o⟩:=A;obtain⟨nk,W,X,Y,V⟩:=n;obtain⟨mk,S,T,U,R⟩:=m;exact runT func5 [(38,bA true)] [⟨_,r⟩,⟨_,a⟩,⟨_,k⟩,⟨_,a⟩,⟨_,b⟩,⟨_,hR⟩,⟨_,u⟩] (ob:=[jJ (!decide (e=0)) true]) (al (eT (by simp[he])) al0)
 | ok f x =>
  rw[L]at k;have N:=Di O L
  by_cases hA0:(Fy en n s l (qR aC)).code=0
  .cases w:QH n m with
   | false =>
    rw[w]at t;generalize Fy en n s l (qR aC)=A at *;obtain⟨c,st,Z,p,o⟩:=A;obtain rfl:c=0:=hA0;obtain⟨nk,W,X,Y,V⟩:=n;obtain⟨mk,S,T,U,R⟩:=m;exact aF func5 [⟨_,r⟩,⟨_,a⟩,⟨_,k⟩,⟨_,a⟩,⟨_,b⟩,⟨_,hR⟩,⟨_,t⟩,⟨_,u⟩]
   | true =>
    rw[w]at t;have v:=IY hm od N
    cases Q:codeF m x with
    | no e =>
     rw[Q]at v;have he:=EO Q;generalize Fy en n s l (qR aC)=A at *;obtain⟨c,st,Z,p,o⟩:=A;obtain rfl:c=0:=hA0;obtain⟨nk,W,X,Y,V⟩:=n;obtain⟨mk,S,T,U,R⟩:=m;exact runT func5 [(63,bA true)] [⟨_,r⟩,⟨_,a⟩,⟨_,k⟩,⟨_,a⟩,⟨_,b⟩,⟨_,hR⟩,⟨_,t⟩,⟨_,u⟩,⟨_,v⟩] (ob:=[jJ (!decide (e=0)) true]) (al (eT (by simp[he])) al0)
    | ok f2 y =>
     rw[Q]at v;have aa:n.size+m.size<=300:=by simp only[QH,ki]at w;exact w.2.2
     obtain⟨⟨p1,p2,p3,p4⟩,ab⟩:=run_parts (en:=en) (g:=qR aC) hz L Q aa hA0;obtain⟨_,_,a3,a4,a5⟩:=E;have j:=Pt a3 od;have d:=VK (en:=en) (n:=m) (s:=x) (aC:=qR aC - (Fy en n s l (qR aC)).aC) hm od N a3 od a5 ⟨od,od⟩ od;have gB:=aah (en:=en) (n:=m) (s:=x) (g:=qR aC - (Fy en n s l (qR aC)).aC) a5;obtain⟨_,_,b3,b4,b5⟩:=UT (en:=en) (n:=m) (s:=x) (g:=qR aC - (Fy en n s l (qR aC)).aC) a5;have hW:=Z0 b3 od b5;generalize qR aC=G at *;generalize Fy en n s l G=A at *;obtain⟨c,st,Z,p,o⟩:=A;simp only at *;generalize Fy en m x st (G - p)=B at *;generalize Fy en (Fp n m) s l G=D at *;obtain⟨bc,ai,ah,C,J⟩:=B;obtain⟨dc,an,ak,dp,aj⟩:=D;simp only at *;obtain rfl:c=0:=hA0;have H:mD (lW (IntKind.i64.wrap (G - p))) (iA (G - p)):=yY (by rw[qe4];omega);have i2:mD (lW (IntKind.i64.wrap (1152921504606846976 - o))) (iA (1152921504606846976 - o)):=yY (by rw[qe4];omega);have i3:mD (lW (IntKind.i64.wrap (p+C))) (iA (C+p)):=yY (by rw[qe4];omega);have t1:∀{q:Prop} [Decidable q],q->jJ (decide q) true:=λh=>eT (jf0 h);have I:∀{q:Prop} [Decidable q],¬q->jJ (decide q) false:=λh=>eT (jc2 h);have t2:∀z:Int,jJ (decide (z=z)) true:=λz=>eT ot;obtain⟨nk,W,X,Y,V⟩:=n;obtain⟨mk,S,T,U,R⟩:=m;rcases ab with⟨P,rfl,rfl,rfl⟩|⟨P,rfl⟩
     .by_cases K:dc=0
      .subst K;have P:=P rfl;exact runT func5 [(74,iA (G - p)),(94,iA (1152921504606846976 - o)),(95,fA),(120,iA (C+p)),(121,bA true)] [⟨_,r⟩,⟨_,a⟩,⟨_,k⟩,⟨_,a⟩,⟨_,b⟩,⟨_,hR⟩,⟨_,t⟩,⟨_,u⟩,⟨_,v⟩,⟨_,j⟩,⟨_,d⟩,⟨_,F⟩,⟨_,a⟩,⟨_,b⟩,⟨_,i⟩,⟨_,hW⟩] (al H (al i2 (al (I (q:=1152921504606846976 - o<J) od) (al i3 (al (t2 (C+p)) al0)))))
      .by_cases ho:dc=11
       .subst ho
        by_cases M:0<o
        .exact runT func5 [(74,iA (G - p)),(106,bA true)] [⟨_,r⟩,⟨_,a⟩,⟨_,k⟩,⟨_,a⟩,⟨_,b⟩,⟨_,hR⟩,⟨_,t⟩,⟨_,u⟩,⟨_,v⟩,⟨_,j⟩,⟨_,d⟩,⟨_,F⟩,⟨_,a⟩,⟨_,b⟩,⟨_,i⟩] (al H (al (t1 M) al0))
        .exact runT func5 [(74,iA (G - p)),(106,fA),(120,iA (C+p)),(121,bA true)] [⟨_,r⟩,⟨_,a⟩,⟨_,k⟩,⟨_,a⟩,⟨_,b⟩,⟨_,hR⟩,⟨_,t⟩,⟨_,u⟩,⟨_,v⟩,⟨_,j⟩,⟨_,d⟩,⟨_,F⟩,⟨_,a⟩,⟨_,b⟩,⟨_,i⟩,⟨_,hW⟩] (al H (al (I M) (al i3 (al (t2 (C+p)) al0))))
       .exact runT func5 [(74,iA (G - p)),(88,fA),(102,fA),(112,bA true),(120,iA (C+p)),(121,bA true)] [⟨_,r⟩,⟨_,a⟩,⟨_,k⟩,⟨_,a⟩,⟨_,b⟩,⟨_,hR⟩,⟨_,t⟩,⟨_,u⟩,⟨_,v⟩,⟨_,j⟩,⟨_,d⟩,⟨_,F⟩,⟨_,a⟩,⟨_,b⟩,⟨_,i⟩,⟨_,hW⟩] (al H (al (I K) (al (I ho) (al (t2 dc) (al i3 (al (t2 (C+p)) al0))))))
     .by_cases K:bc=0
      .subst K
       by_cases hq:1152921504606846976 - o<J
       .exact runT func5 [(74,iA (G - p)),(94,iA (1152921504606846976 - o)),(95,bA true)] [⟨_,r⟩,⟨_,a⟩,⟨_,k⟩,⟨_,a⟩,⟨_,b⟩,⟨_,hR⟩,⟨_,t⟩,⟨_,u⟩,⟨_,v⟩,⟨_,j⟩,⟨_,d⟩,⟨_,F⟩,⟨_,a⟩,⟨_,b⟩,⟨_,i⟩] (al H (al i2 (al (t1 hq) al0)))
       .exact runT func5 [(74,iA (G - p)),(94,iA (1152921504606846976 - o)),(95,fA),(106,bA true)] [⟨_,r⟩,⟨_,a⟩,⟨_,k⟩,⟨_,a⟩,⟨_,b⟩,⟨_,hR⟩,⟨_,t⟩,⟨_,u⟩,⟨_,v⟩,⟨_,j⟩,⟨_,d⟩,⟨_,F⟩,⟨_,a⟩,⟨_,b⟩,⟨_,i⟩] (al H (al i2 (al (I hq) (al (t1 P) al0))))
      .exact runT func5 [(74,iA (G - p)),(88,fA),(106,bA true)] [⟨_,r⟩,⟨_,a⟩,⟨_,k⟩,⟨_,a⟩,⟨_,b⟩,⟨_,hR⟩,⟨_,t⟩,⟨_,u⟩,⟨_,v⟩,⟨_,j⟩,⟨_,d⟩,⟨_,F⟩,⟨_,a⟩,⟨_,b⟩,⟨_,i⟩] (al H (al (I K) (al (t1 P) al0)))
  .generalize Fy en n s l (qR aC)=A at *;obtain⟨c,st,Z,p,o⟩:=A;obtain⟨nk,W,X,Y,V⟩:=n;obtain⟨mk,S,T,U,R⟩:=m;simp only at hA0;exact runT func5 [(42,bA true)] [⟨_,r⟩,⟨_,a⟩,⟨_,k⟩,⟨_,a⟩,⟨_,b⟩,⟨_,hR⟩,⟨_,u⟩] (ob:=[jJ (!decide (c=0)) true]) (al (eT (by simp[hA0])) al0)
end
open Go.ChangeShapes Go.WideShapes Go.ChangeAt Go.RowKit
def cells_ty:prog.cellsOf 54=2:=oA
def cells_int:prog.cellsOf 3=1:=oA
def cells_tys:prog.cellsOf 27=1:=oA
def Lx{n:Int}(h:(Lit.int .i64 n).wf=true):bD n:=by simpa[Lit.wf,IntKind.min,IntKind.max,IntKind.signed,IntKind.bits,bD]using h
def yO{H:Type} : ∀(l:List (DataW H)) (x:DataW H),Rows.uptoBulkAll (l++[x])=Rows.uptoBulkAll l+Rows.uptoBulk x:=by
 intro l x
 induction l with
 | nil=>simp[Rows.uptoBulkAll]
 | cons y l a=>simp[Rows.uptoBulkAll,a];omega
def qh{H:Type}(T:Nat->Ty)(D:Nat->DataW H):∀(n:Nat),(∀i,i<n->(T i).size<=Rows.uptoBulk (D i))->tysizes ((List.range n).map T)<=Rows.uptoBulkAll ((List.range n).map D)
 | 0,_=>by simp[tysizes,Rows.uptoBulkAll]
 | n+1,h=>by have c:=qh T D n (λi a=>h i od);have b:=h n od;rw[jg1,qc2,qc2,pg,qg3,qg3,yO];simp only[tysizes];omega
def Jh{H:Type}(D:Nat->DataW H)(n i:Nat)(h:i<n):Rows.uptoBulk (D i)<=Rows.uptoBulkAll ((List.range n).map D):=by
 induction n with
 | zero=>omega
 | succ n b =>
  rw[jg1,qc2,qg3,yO]
  by_cases a:i=n
  .subst a;omega
  .have:=b od;omega
def JM{ok:Nat->Prop}{w:World}{t:Int}{c:Nat}(a:bD t):aH ok w (.nd t []) (bY t none 0 c):=aH.of (V:=λ_=>.i 0) a (dw.nil _ _ _ _) (kB _)
def NW{H:Type}{enc:TypeId×Value->H}{W:World}(N:Nat):∀(j:Nat) (cs:List Value) (d:DataW H) (ps:List MemPlace),Rows.uptoBulk d<=N->DataW.trod enc prog W 0 (λ_=>true) true j 54 cs=some (d,ps) ->
 ∃k a l c t,cs=[.i k,.slice a l c]/\aH (λ_=>True) W t (bY k a l c)/\t.size<=Rows.uptoBulk d:=by
 haveI:Inhabited Ty:=⟨.nd 0 []⟩
 induction N with
 | zero =>
  intro j cs d ps hN h;obtain⟨T,n,_,E,_⟩:=jc1 underlying54 h;simp only[zd]at E;rw[E.1]at hN;simp[Rows.uptoBulk]at hN
 | succ N ih =>
  intro j cs d ps hN h;obtain⟨T,f,_,E,u,L,Q⟩:=jc1 underlying54 h;rw[cells_ty]at u
  match T,L,cs,u with
  | [y0,y1],_,[v0,v1],_ =>
   have O:=Q 0 _ rfl;have P:=Q 1 _ rfl;simp[cells_int,cells_tys]at O P;obtain⟨k,M,x0,R⟩:=qf5 underlying3 O;simp only[xj,and_true]at M;subst M;subst x0;simp only[zd]at E;obtain⟨rfl,_⟩:=E;rcases Go.Deep.open_slice underlying27 P with⟨y,S⟩|⟨a,len,X,m,nf,D,U,y,_,hl,hm,C,S,B⟩
   .simp only[xj,and_true]at y;subst y;refine⟨k,none,0,0,.nd k [],rfl,JM (Lx R),?_⟩;simp[Ty.size,tysizes,Rows.uptoBulk]
   .simp only[xj,and_true]at y;subst y;subst S;simp only[if_true]at C;subst C;rw[cells_ty]at B;simp only[qb7,jb5,Rows.uptoBulk,Rows.uptoBulkAll]at hN|-;have J:∀i,i<len->Rows.uptoBulk (D i)<=N:=λi r=>by have:=Jh D len i r;omega
    obtain⟨q,G⟩:=Go.Deep.choose_lt (α:=Ty×Value) (n:=len) (p:=λi x=>aH (λ_=>True) W x.1 x.2/\x.1.size<=Rows.uptoBulk (D i) /\
     ∃k v l c,x.2=bY k v l c/\W.cells? 0 (a.add (i*2)) 2=some [.i k,.slice v l c]) (λi r=>by
     obtain⟨I,Z,h2⟩:=B i od;obtain⟨k,v,l,c,t,rfl,F,hs⟩:=ih nf I (D i) (U i) (J i r) h2;exact⟨(t,bY k v l c),F,hs,k,v,l,c,rfl,Z⟩)
    have e:((List.range len).map λi=>(q i).1).length=len:=ot
    have F:=aH.mk (ok:=λ_=>True) (w:=W) (t:=k) (args:=(List.range len).map λi=>(q i).1) (a:=some a) (c:=m) (λi=>(q i).2) (by rw[e];omega) (by rw[e];omega) (Lx R)
     (λi r=>by
      rw[e]at r;obtain⟨_,_,k',v,l',V,hv,K⟩:=G i r;obtain⟨_,_,g⟩:=qe5 K;obtain⟨b,o,sp⟩:=a;have Y:sp=none:=by obtain⟨_,_,k0,a0,l0,c0,_,A⟩:=G 0 od;obtain⟨_,_,s⟩:=qe5 A;have:=s 0 od;simp[Addr.add]at this;exact jf1 this
      subst Y;have z:∀x,(⟨b,o,none⟩:Addr).add x=⟨b,o+x,none⟩:=λx=>oY
      rw[z]at g;refine⟨b,o,rfl,trivial,k',v,l',V,hv,?_,?_⟩
      .have:=g 0 od;simpa[Addr.add]using this
      .have:=g 1 od;simpa[Addr.add]using this)
     (λi r=>by rw[e]at r;simpa using (G i r).1)
    rw[e]at F;refine⟨k,some a,len,m,_,rfl,F,?_⟩;have aa:=qh (λi=>(q i).1) D len (λi r=>(G i r).2.1);rw[Ty.size];omega
def cells24:prog.cellsOf 26=5:=oA
def cells3:prog.cellsOf 3=1:=oA
def cells9:prog.cellsOf 9=1:=oA
def cells22:prog.cellsOf 24=1:=oA
def l9{n:Int}(h:(Lit.int .i64 n).wf=true):bD n:=by simpa[Lit.wf,IntKind.min,IntKind.max,IntKind.signed,IntKind.bits,bD]using h
def uM{H:Type}(T:Nat->Tr)(D:Nat->DataW H):∀(n:Nat),(∀i,i<n->(T i).size<=Rows.uptoBulk (D i))->sizes ((List.range n).map T)<=Rows.uptoBulkAll ((List.range n).map D)
 | 0,_=>by simp[sizes,Rows.uptoBulkAll]
 | n+1,h=>by
  have d:=uM T D n (λi b=>h i od);have c:=h n od;have e:∀(l:List (DataW H)) (x:DataW H),Rows.uptoBulkAll (l++[x])=Rows.uptoBulkAll l+Rows.uptoBulk x:=by
   intro l x
   induction l with
   | nil=>simp[Rows.uptoBulkAll]
   | cons y l a=>simp[Rows.uptoBulkAll,a];omega
  rw[jg1,qc2,qc2,sK,qg3,qg3,e];simp only[sizes];omega
def Dg{H:Type}(D:Nat->DataW H)(n i:Nat)(h:i<n):Rows.uptoBulk (D i)<=Rows.uptoBulkAll ((List.range n).map D):=by
 induction n with
 | zero=>omega
 | succ n c =>
  have e:∀(l:List (DataW H)) (x:DataW H),Rows.uptoBulkAll (l++[x])=Rows.uptoBulkAll l+Rows.uptoBulk x:=by
   intro l x
   induction l with
   | nil=>simp[Rows.uptoBulkAll]
   | cons y l a=>simp[Rows.uptoBulkAll,a];omega
  rw[jg1,qc2,qg3,e]
  by_cases b:i=n
  .subst b;omega
  .have:=c od;omega
def JN{ok:Nat->Prop}{w:World}{k n p:Int}{s:ByteArray}(d:s.size<=maxLen)(hk:bD k)(b:bD n)(c:bD p):bI ok w (.nd k n p s []) (af k n p s none 0 0) :=
 bI.mk (hk:=kB _) (args:=[]) (λ_=>.i 0) ot d hk b c (λi a=>by simp at a) (λi a=>by simp at a)
def D6{H:Type}{enc:TypeId×Value->H}{W:World}(N:Nat):∀(j:Nat) (cs:List Value) (d:DataW H) (ps:List MemPlace),Rows.uptoBulk d<=N->DataW.trod enc prog W 0 (λ_=>true) true j 26 cs=some (d,ps) ->
 ∃k n p s a l c t,cs=[.i k,.i n,.i p,.string s,.slice a l c]/\bI (λ_=>True) W t (af k n p s a l c)/\t.size<=Rows.uptoBulk d:=by
 haveI:Inhabited Tr:=⟨.nd 0 0 0 ⟨#[]⟩ []⟩
 induction N with
 | zero =>
  intro j cs d ps hN h;obtain⟨xs,n,_,G,_⟩:=jc1 underlying26 h;simp only[zd]at G;rw[G.1]at hN;simp[Rows.uptoBulk]at hN
 | succ N ih =>
  intro j cs d ps hN h;obtain⟨xs,f,_,G,v,O,E⟩:=jc1 underlying26 h;rw[cells24]at v
  match xs,O,cs,v with
  | [y0,y1,y2,y3,y4],_,[v0,v1,v2,v3,v4],_ =>
   have T:=E 0 _ rfl;have U:=E 1 _ rfl;have V:=E 2 _ rfl;have X:=E 3 _ rfl;have Y:=E 4 _ rfl;simp[cells3,cells9,cells22]at T U V X Y;obtain⟨k,P,x0,Z⟩:=qf5 underlying3 T;obtain⟨n,Q,x1,i1⟩:=qf5 underlying3 U;obtain⟨p,R,x2,i2⟩:=qf5 underlying3 V;obtain⟨s,S,x3,i3⟩:=DataW.trod_string underlying9 X;simp only[xj,and_true]at P Q R S;subst P;subst Q;subst R;subst S;subst x0;subst x1;subst x2;subst x3;simp only[zd]at G;obtain⟨rfl,_⟩:=G;rcases Go.Deep.open_slice underlying24 Y with⟨z,x4⟩|⟨a,len,aa,m,nf,D,Pl,z,_,hl,hm,F,x4,C⟩
   .simp only[xj,and_true]at z;subst z;refine⟨k,n,p,s,none,0,0,.nd k n p s [],rfl,JN i3 (l9 Z) (l9 i1) (l9 i2),?_⟩;simp[Tr.size,sizes,Rows.uptoBulk]
   .simp only[xj,and_true]at z;subst z;subst x4;simp only[if_true]at F;subst F;rw[cells24]at C;simp only[qb7,jb5,Rows.uptoBulk,Rows.uptoBulkAll]at hN|-;have L:∀i,i<len->Rows.uptoBulk (D i)<=N:=λi r=>by have:=Dg D len i r;omega
    obtain⟨q,J⟩:=Go.Deep.choose_lt (α:=Tr×Value) (n:=len) (p:=λi x=>bI (λ_=>True) W x.1 x.2/\x.1.size<=Rows.uptoBulk (D i) /\
     ∃k n p s y l c,x.2=af k n p s y l c/\W.cells? 0 (a.add (i*5)) 5=some [.i k,.i n,.i p,.string s,.slice y l c]) (λi r=>by
     obtain⟨K,h1,h2⟩:=C i od;obtain⟨k,n,p,s,y,l,c,t,rfl,I,hs⟩:=ih nf K (D i) (Pl i) (L i r) h2;exact⟨(t,af k n p s y l c),I,hs,k,n,p,s,y,l,c,rfl,h1⟩)
    have g:((List.range len).map λi=>(q i).1).length=len:=ot
    have I:=bI.mk (hk:=by rw[g];omega) (ok:=λ_=>True) (w:=W) (k:=k) (n:=n) (p:=p) (s:=s) (args:=(List.range len).map λi=>(q i).1) (a:=some a) (c:=m) (λi=>(q i).2) (by rw[g];omega) i3 (l9 Z) (l9 i1) (l9 i2)
     (λi r=>by
      rw[g]at r;obtain⟨_,_,k',n',p',s',y,l',c',hv,M⟩:=J i r;obtain⟨_,_,e⟩:=qe5 M;obtain⟨b,o,sp⟩:=a;have h0:sp=none:=by obtain⟨_,_,k0,n0,p0,s0,a0,l0,c0,_,B⟩:=J 0 od;obtain⟨_,_,u⟩:=qe5 B;have:=u 0 od;simp[Addr.add]at this;exact jf1 this
      subst h0;have A:∀x,(⟨b,o,none⟩:Addr).add x=⟨b,o+x,none⟩:=λx=>oY
      rw[A]at e;refine⟨b,o,rfl,trivial,k',n',p',s',y,l',c',hv,?_,?_,?_,?_,?_⟩
      .have:=e 0 od;simpa[Addr.add]using this
      .have:=e 1 od;simpa[Addr.add]using this
      .have:=e 2 od;simpa[Addr.add]using this
      .have:=e 3 od;simpa[Addr.add]using this
      .have:=e 4 od;simpa[Addr.add]using this)
     (λi r=>by rw[g]at r;simpa using (J i r).1)
    rw[g]at I;refine⟨k,n,p,s,some a,len,m,_,rfl,I,?_⟩;have ab:=uM (λi=>(q i).1) D len (λi r=>(J i r).2.1);rw[Tr.size];omega
def Q3{H:Type}{enc:TypeId×Value->H}{W:World}{r:Reach}{g:Nat}{v:Value}{d:DataW H}{p:List MemPlace}(y:Value.okWide prog W r g 26 v)(h:DataW.Trod enc prog W 0 (λ_=>true) true 26 v d p) :
 ∃t,bI (· < W.heap.size) W t v/\t.size<=Rows.uptoBulk d:=by
 obtain⟨cs,rfl,x⟩:=okWide_struct underlying26 y;obtain⟨f,u⟩:=h;obtain⟨k,n,q,s,a,l,c,t,e,m,w⟩:=D6 _ f _ d p (qv _) u;have j:cs=#[.i k,.i n,.i q,.string s,.slice a l c]:=by
  have : cs.toList=[.i k,.i n,.i q,.string s,.slice a l c]:=by simpa[Value.cells]using e
  apply Array.ext';rw[this]
 subst j;exact⟨t,m.ae (λb o _=>o),w⟩
def cells_va:prog.cellsOf 36=7:=oA
def cells_vas:prog.cellsOf 28=1:=oA
def D7{H:Type}{enc:TypeId×Value->H}{W:World}{r:Nat}{v:Value}{d:DataW H}{ps:List MemPlace}(h:DataW.trod enc prog W 0 (λ_=>true) true r 27 [v]=some (d,ps)) :
 ∃a l c ts V,v =.slice a l c/\(ts.length=l/\l<=c)/\dw (λ_=>True) W ts a V/\tysizes ts<=Rows.uptoBulk d:=by
 haveI:Inhabited Ty:=⟨.nd 0 []⟩
 rcases Go.Deep.open_slice underlying27 h with⟨o,G⟩|⟨a,len,J,m,R,D,I,o,_,T,U,y,G,w⟩
 .simp only[xj,and_true]at o;subst o;exact⟨none,0,0,[],λ_=>.i 0,rfl,⟨rfl,qv _⟩,dw.nil _ _ _ _,by simp[tysizes]⟩
 .simp only[xj,and_true]at o;simp only[zd]at G;subst o;obtain⟨rfl,_⟩:=G;simp only[if_true]at y;subst y;rw[cells_ty]at w;obtain⟨q,z⟩:=Go.Deep.choose_lt (α:=Ty×Value) (n:=len) (p:=λi x=>aH (λ_=>True) W x.1 x.2/\x.1.size<=Rows.uptoBulk (D i) /\
   ∃k j l c,x.2=bY k j l c/\W.cells? 0 (a.add (i*2)) 2=some [.i k,.slice j l c]) (λi g=>by
   obtain⟨B,L,M⟩:=w i od;obtain⟨k,j,l,c,t,rfl,N,O⟩:=NW _ R B (D i) (I i) (qv _) M;exact⟨(t,bY k j l c),N,O,k,j,l,c,rfl,L⟩)
  have b:((List.range len).map λi=>(q i).1).length=len:=ot
  refine⟨some a,len,m,(List.range len).map λi=>(q i).1,λi=>(q i).2,rfl,⟨b,od⟩,⟨by rw[b];omega,λi g=>?_,λi g=>?_⟩,?_⟩
  .rw[b]at g;obtain⟨_,_,k,j,l,c,Q,E⟩:=z i g;obtain⟨_,_,e⟩:=qe5 E;obtain⟨A,F,S⟩:=a;have K:S=none:=by
    obtain⟨_,_,C⟩:=z 0 od;obtain⟨_,_,_,_,_,u⟩:=C;obtain⟨_,_,f⟩:=qe5 u;have:=f 0 od;simp[Addr.add]at this;exact jf1 this
   subst K;have s:∀x,(⟨A,F,none⟩:Addr).add x=⟨A,F+x,none⟩:=λx=>oY
   rw[s]at e;refine⟨A,F,rfl,trivial,k,j,l,c,Q,?_,?_⟩
   .have:=e 0 od;simpa[Addr.add]using this
   .have:=e 1 od;simpa[Addr.add]using this
  .rw[b]at g;simpa using (z i g).1
  .have P:=qh (λi=>(q i).1) D len (λi g=>(z i g).2.1);simp only[Rows.uptoBulk];omega
def NV{H:Type}{enc:TypeId×Value->H}{W:World}{r:Nat}{v:Value}{d:DataW H}{ps:List MemPlace}(h:DataW.trod enc prog W 0 (λ_=>true) true r 24 [v]=some (d,ps)) :
 ∃a l c ts V,v =.slice a l c/\(ts.length=l/\l<=c)/\cK (λ_=>True) W ts a V/\sizes ts<=Rows.uptoBulk d:=by
 haveI:Inhabited Tr:=⟨.nd 0 0 0 ⟨#[]⟩ []⟩
 rcases Go.Deep.open_slice underlying24 h with⟨o,I⟩|⟨a,len,K,m,S,D,J,o,_,U,X,z,I,y⟩
 .simp only[xj,and_true]at o;subst o;exact⟨none,0,0,[],λ_=>.i 0,rfl,⟨rfl,qv _⟩,cK.nil _ _ _ _,by simp[sizes]⟩
 .simp only[xj,and_true]at o;simp only[zd]at I;subst o;obtain⟨rfl,_⟩:=I;simp only[if_true]at z;subst z;rw[cells24]at y;obtain⟨q,A⟩:=Go.Deep.choose_lt (α:=Tr×Value) (n:=len) (p:=λi x=>bI (λ_=>True) W x.1 x.2/\x.1.size<=Rows.uptoBulk (D i) /\
   ∃k n p s j l c,x.2=af k n p s j l c/\W.cells? 0 (a.add (i*5)) 5=some [.i k,.i n,.i p,.string s,.slice j l c]) (λi g=>by
   obtain⟨C,M,N⟩:=y i od;obtain⟨k,n,p,s,j,l,c,t,rfl,O,P⟩:=D6 _ S C (D i) (J i) (qv _) N;exact⟨(t,af k n p s j l c),O,P,k,n,p,s,j,l,c,rfl,M⟩)
  have e:((List.range len).map λi=>(q i).1).length=len:=ot
  refine⟨some a,len,m,(List.range len).map λi=>(q i).1,λi=>(q i).2,rfl,⟨e,od⟩,⟨by rw[e];omega,λi g=>?_,λi g=>?_⟩,?_⟩
  .rw[e]at g;obtain⟨_,_,k,n,p,s,j,l,c,R,F⟩:=A i g;obtain⟨_,_,b⟩:=qe5 F;obtain⟨B,G,T⟩:=a;have L:T=none:=by
    obtain⟨_,_,E⟩:=A 0 od;obtain⟨_,_,_,_,_,_,_,_,w⟩:=E;obtain⟨_,_,f⟩:=qe5 w;have:=f 0 od;simp[Addr.add]at this;exact jf1 this
   subst L;have u:∀x,(⟨B,G,none⟩:Addr).add x=⟨B,G+x,none⟩:=λx=>oY
   rw[u]at b;refine⟨B,G,rfl,trivial,k,n,p,s,j,l,c,R,?_,?_,?_,?_,?_⟩
   .have:=b 0 od;simpa[Addr.add]using this
   .have:=b 1 od;simpa[Addr.add]using this
   .have:=b 2 od;simpa[Addr.add]using this
   .have:=b 3 od;simpa[Addr.add]using this
   .have:=b 4 od;simpa[Addr.add]using this
  .rw[e]at g;simpa using (A i g).1
  .have Q:=uM (λi=>(q i).1) D len (λi g=>(A i g).2.1);simp only[Rows.uptoBulk];omega
def sO{H:Type}(T:Nat->Va)(D:Nat->DataW H):∀(n:Nat),(∀i,i<n->(T i).size<=Rows.uptoBulk (D i))->vsizes ((List.range n).map T)<=Rows.uptoBulkAll ((List.range n).map D)
 | 0,_=>by simp[vsizes,Rows.uptoBulkAll]
 | n+1,h=>by have c:=sO T D n (λi a=>h i od);have b:=h n od;rw[jg1,qc2,qc2,kK,qg3,qg3,yO];simp only[vsizes];omega
def J6{H:Type}{enc:TypeId×Value->H}{W:World}(N:Nat):∀(e:Nat) (cs:List Value) (d:DataW H) (ps:List MemPlace),Rows.uptoBulk d<=N->DataW.trod enc prog W 0 (λ_=>true) true e 36 cs=some (d,ps) ->
 ∃k n a s r al ac ta tl tc na l nc t,cs=[.i k,.i n,.i a,.string s,.slice r al ac,.slice ta tl tc,.slice na l nc]/\aA (λ_=>True) W t (bg k n a s r al ac ta tl tc na l nc)/\t.size<=Rows.uptoBulk d:=by
 haveI:Inhabited Va:=⟨.mk 0 0 0 ⟨#[]⟩ [] [] []⟩
 induction N with
 | zero =>
  intro e cs d ps hN h;obtain⟨xs,n,_,E,_⟩:=jc1 underlying36 h;simp only[zd]at E;rw[E.1]at hN;simp[Rows.uptoBulk]at hN
 | succ N ih =>
  intro e cs d ps hN h;obtain⟨xs,f,_,E,o,Y,u⟩:=jc1 underlying36 h;rw[cells_va]at o
  match xs,Y,cs,o with
  | [y0,y1,y2,y3,y4,y5,y6],_,[v0,v1,v2,v3,v4,v5,v6],_ =>
   have g0:=u 0 _ rfl;have g1:=u 1 _ rfl;have g2:=u 2 _ rfl;have g3:=u 3 _ rfl;have g4:=u 4 _ rfl;have g5:=u 5 _ rfl;have g6:=u 6 _ rfl;simp[cells3,cells9,cells_vas,cells_tys,cells22]at g0 g1 g2 g3 g4 g5 g6;obtain⟨k,e0,x0,i0⟩:=qf5 underlying3 g0;obtain⟨n,e1,x1,i1⟩:=qf5 underlying3 g1;obtain⟨a,e2,x2,i2⟩:=qf5 underlying3 g2;obtain⟨s,e3,x3,i3⟩:=DataW.trod_string underlying9 g3;simp only[xj,and_true]at e0 e1 e2 e3;subst e0;subst e1;subst e2;subst e3;subst x0;subst x1;subst x2;subst x3;obtain⟨ta,tl,tc,types,VT,rfl,⟨X,an⟩,y,U⟩:=D7 g5;obtain⟨na,l,nc,code,VN,rfl,⟨S,aj⟩,w,T⟩:=NV g6;subst X;subst S;simp only[zd]at E;obtain⟨rfl,_⟩:=E;rcases Go.Deep.open_slice underlying28 g4 with⟨v,x4⟩|⟨r,len,ai,m,nf,D,Pl,v,_,hl,hm,C,x4,B⟩
   .simp only[xj,and_true]at v;subst v;refine⟨k,n,a,s,none,0,0,ta,types.length,tc,na,code.length,nc,.mk k n a s [] types code,rfl,aA.of (args:=[]) (V:=λ_=>.i 0) (kB _) i3 (l9 i0) (l9 i1) (l9 i2) (aT.nil _ _ _ _) y w ⟨oS,oS⟩,?_⟩;simp[Va.size,vsizes,Rows.uptoBulk,Rows.uptoBulkAll]at U T|-;omega
   .simp only[xj,and_true]at v;subst v;subst x4;simp only[if_true]at C;subst C;rw[cells_va]at B;simp only[qb7,jb5,Rows.uptoBulk,Rows.uptoBulkAll]at hN|-;have Q:∀i,i<len->Rows.uptoBulk (D i)<=N:=λi g=>by have:=Dg D len i g;omega
    obtain⟨q,I⟩:=Go.Deep.choose_lt (α:=Va×Value) (n:=len) (p:=λi x=>aA (λ_=>True) W x.1 x.2/\x.1.size<=Rows.uptoBulk (D i) /\
     ∃k n a s F al ac ta tl tc na l nc,x.2=bg k n a s F al ac ta tl tc na l nc/\W.cells? 0 (r.add (i*7)) 7=some [.i k,.i n,.i a,.string s,.slice F al ac,.slice ta tl tc,.slice na l nc]) (λi g=>by
     obtain⟨O,h1,h2⟩:=B i od;obtain⟨k,n,a,s,F,al,ac,ta,tl,tc,na,l,nc,t,rfl,G,hs⟩:=ih nf O (D i) (Pl i) (Q i g) h2;exact⟨(t,bg k n a s F al ac ta tl tc na l nc),G,hs,k,n,a,s,F,al,ac,ta,tl,tc,na,l,nc,rfl,h1⟩)
    have c:((List.range len).map λi=>(q i).1).length=len:=ot
    have hV:aT (λ_=>True) W ((List.range len).map λi=>(q i).1) (some r) (λi=>(q i).2):=by
     refine⟨by rw[c];omega,λi g=>?_,λi g=>?_⟩
     .rw[c]at g;obtain⟨_,_,k',n',a',s',J,L,K,ae,jJ,ah,Z,ad,ab,hv,R⟩:=I i g;obtain⟨_,_,b⟩:=qe5 R;obtain⟨M,oo,sp⟩:=r;have h0:sp=none:=by
       obtain⟨_,_,P⟩:=I 0 od;obtain⟨_,_,_,_,_,_,_,_,_,_,_,_,_,_,A⟩:=P;obtain⟨_,_,j⟩:=qe5 A;have:=j 0 od;simp[Addr.add]at this;exact jf1 this
      subst h0;have z:∀x,(⟨M,oo,none⟩:Addr).add x=⟨M,oo+x,none⟩:=λx=>oY
      rw[z]at b;refine⟨M,oo,rfl,trivial,k',n',a',s',J,L,K,ae,jJ,ah,Z,ad,ab,hv,?_,?_,?_,?_,?_,?_,?_⟩
      .have:=b 0 od;simpa[Addr.add]using this
      .have:=b 1 od;simpa[Addr.add]using this
      .have:=b 2 od;simpa[Addr.add]using this
      .have:=b 3 od;simpa[Addr.add]using this
      .have:=b 4 od;simpa[Addr.add]using this
      .have:=b 5 od;simpa[Addr.add]using this
      .have:=b 6 od;simpa[Addr.add]using this
     .rw[c]at g;simpa using (I i g).1
    have G:=aA.of (k:=k) (n:=n) (a:=a) (s:=s) (ac:=m) (tc:=tc) (nc:=nc) (by rw[c];omega) i3 (l9 i0) (l9 i1) (l9 i2) hV y w ⟨oS,oS⟩;rw[c]at G;refine⟨k,n,a,s,some r,len,m,ta,types.length,tc,na,code.length,nc,_,rfl,G,?_⟩;have ak:=sO (λi=>(q i).1) D len (λi g=>(I i g).2.1);rw[Va.size];omega
def cells_env:prog.cellsOf 23=4:=oA
def Q4{H:Type}{enc:TypeId×Value->H}{W:World}{r:Reach}{x:Nat}{v:Value}{d:DataW H}{p:List MemPlace}(z:Value.okWide prog W r x 23 v)(h:DataW.Trod enc prog W 0 (λ_=>true) true 23 v d p) :
 ∃en:En,v =.agg #[.i en.self,.i en.sender,.i en.amount,.i en.balance]:=by
 obtain⟨cs,rfl,y⟩:=okWide_struct underlying23 z;obtain⟨q,e⟩:=h;obtain⟨A,f,_,B,c,g,e⟩:=jc1 underlying23 e;rw[cells_env]at c;obtain⟨cs⟩:=cs;simp only[Value.cells]at c e
 match A,g,cs,c with
 | [G,I,J,K],_,[C,D,E,F],_ =>
  have s:=e 0 _ rfl;have t:=e 1 _ rfl;have u:=e 2 _ rfl;have w:=e 3 _ rfl;simp[cells_int]at s t u w;obtain⟨k,j,_⟩:=qf5 underlying3 s;obtain⟨n,l,_⟩:=qf5 underlying3 t;obtain⟨a,m,_⟩:=qf5 underlying3 u;obtain⟨b,o,_⟩:=qf5 underlying3 w;simp only[xj,and_true]at j l m o;subst j;subst l;subst m;subst o;exact⟨⟨k,n,a,b⟩,rfl⟩
def J4{H:Type}{enc:TypeId×Value->H}{W:World}{r:Reach}{f:Nat}{v:Value}{d:DataW H}{p:List MemPlace}(m:Value.okWide prog W r f 27 v)(h:DataW.Trod enc prog W 0 (λ_=>true) true 27 v d p) :
 ∃(ts:List Ty) (a:Option Addr) (c:Nat) (V:Nat->Value),v =.slice a ts.length c/\ts.length<=c/\dw (λ_=>True) W ts a V/\tysizes ts<=Rows.uptoBulk d:=by
 obtain⟨a,l,c,rfl⟩:=okWide_slice underlying27 m;obtain⟨b,i⟩:=h;obtain⟨o,s,q,ts,V,e,⟨j,g⟩,k,n⟩:=D7 (v:=.slice a l c) i;simp only[ke]at e;obtain⟨rfl,rfl,rfl⟩:=e;subst j;exact⟨ts,a,c,V,rfl,g,k,n⟩
def J5{H:Type}{enc:TypeId×Value->H}{W:World}{r:Reach}{b0:Nat}{v:Value}{d:DataW H}{p:List MemPlace}(S:Value.okWide prog W r b0 28 v)(h:DataW.Trod enc prog W 0 (λ_=>true) true 28 v d p) :
 ∃(l:List Va) (a:Option Addr) (c:Nat) (V:Nat->Value),v =.slice a l.length c/\l.length<=c/\aT (λ_=>True) W l a V/\vsizes l<=Rows.uptoBulk d:=by
 haveI:Inhabited Va:=⟨.mk 0 0 0 ⟨#[]⟩ [] [] []⟩
 obtain⟨a,l,c,rfl⟩:=okWide_slice underlying28 S;obtain⟨u,hf⟩:=h;have g4:DataW.trod enc prog W 0 (λ_=>true) true u 28 [.slice a l c]=some (d,p):=hf;rcases Go.Deep.open_slice underlying28 g4 with⟨o,x4⟩|⟨K,len,ad,m,nf,D,Pl,o,_,hl,hm,A,x4,z⟩
 .simp only[xj,and_true]at o;rw[o];exact⟨[],none,0,λ_=>.i 0,rfl,qv _,aT.nil _ _ _ _,by simp[vsizes]⟩
 .simp only[xj,and_true]at o;rw[o];simp only[zd]at x4;obtain⟨rfl,_⟩:=x4;simp only[if_true]at A;subst A;rw[cells_va]at z;obtain⟨q,J⟩:=Go.Deep.choose_lt (α:=Va×Value) (n:=len) (p:=λi x=>aA (λ_=>True) W x.1 x.2/\x.1.size<=Rows.uptoBulk (D i) /\
   ∃k n a s I al j F tl G B E C,x.2=bg k n a s I al j F tl G B E C/\W.cells? 0 (K.add (i*7)) 7=some [.i k,.i n,.i a,.string s,.slice I al j,.slice F tl G,.slice B E C]) (λi g=>by
   obtain⟨P,h1,h2⟩:=z i od;obtain⟨k,n,a,s,I,al,j,F,tl,G,B,E,C,t,rfl,hL,hs⟩:=J6 _ nf P (D i) (Pl i) (qv _) h2;exact⟨(t,bg k n a s I al j F tl G B E C),hL,hs,k,n,a,s,I,al,j,F,tl,G,B,E,C,rfl,h1⟩)
  have e:((List.range len).map λi=>(q i).1).length=len:=ot
  refine⟨(List.range len).map λi=>(q i).1,some K,m,λi=>(q i).2,by rw[e],by rw[e];omega,⟨by rw[e];omega,λi g=>?_,λi g=>?_⟩,?_⟩
  .rw[e]at g;obtain⟨_,_,k',n',a',s',L,N,M,Z,jJ,ab,T,X,U,S,R⟩:=J i g;obtain⟨_,_,b⟩:=qe5 R;obtain⟨O,Y,sp⟩:=K;have h0:sp=none:=by
    obtain⟨_,_,Q⟩:=J 0 od;obtain⟨_,_,_,_,_,_,_,_,_,_,_,_,_,_,y⟩:=Q;obtain⟨_,_,f⟩:=qe5 y;have:=f 0 od;simp[Addr.add]at this;exact jf1 this
   subst h0;have w:∀x,(⟨O,Y,none⟩:Addr).add x=⟨O,Y+x,none⟩:=λx=>oY
   rw[w]at b;refine⟨O,Y,rfl,trivial,k',n',a',s',L,N,M,Z,jJ,ab,T,X,U,S,?_,?_,?_,?_,?_,?_,?_⟩
   .have:=b 0 od;simpa[Addr.add]using this
   .have:=b 1 od;simpa[Addr.add]using this
   .have:=b 2 od;simpa[Addr.add]using this
   .have:=b 3 od;simpa[Addr.add]using this
   .have:=b 4 od;simpa[Addr.add]using this
   .have:=b 5 od;simpa[Addr.add]using this
   .have:=b 6 od;simpa[Addr.add]using this
  .rw[e]at g;simpa using (J i g).1
  .have ae:=sO (λi=>(q i).1) D len (λi g=>(J i g).2.1);simp only[Rows.uptoBulk];omega
end Go.Proofs.YtgfdimkbfnpepaaGreat
namespace Go.Proofs.YtgfdimkbfnpepaaGreat.runParts
set_option linter.all false
open Go.Proofs.Tryz
set_option maxRecDepth 100000
set_option maxHeartbeats 4000000
open Go.ChangeShapes Go.WideShapes Go.ChangeAt Go.RowKit
open Pe (fI gm dU iZ)
def own:ownKnob prog.godebug=none:=oA
def laidOut:laidOutB prog=true:=oA
def PY{w w':World}(h:w.grownBy w' none):Below w.heap.size w w':=⟨h.os,h.tape,h.output,h.size,λk a=>h.block k a ot⟩
def contract(H:Type)(enc:TypeId×Value->H)(W:World)(base:Nat)(args:Array Value)(ds U:List (DataW H))(c:List MemPlace)
 (hval:∀(j:Nat) t v,f5.params[j]?=some t->args[j]?=some v->Value.okWide prog W .any base t v)
 (hW:DataW.Whole enc prog f5.params.toList Rows.runPartsSpec.vars false W args.toList ds U c) (hk:Rows.uptoSmall H (ds++U)=true) :
 Calls prog 5 args W λe S=>∃v,e =.returned v/\Rows.runPartsSpec.post enc prog f5 false true false false W args v S:=by
 have a:=hW;obtain⟨p,q,hA0,hV,rfl,ak,aq⟩:=hW;have hA:DataW.TrodAll enc prog W 0 (λ_=>true) true f5.params.toList args.toList ds p:=hA0;rw[params5]at hA hval;obtain⟨v0,ax,d0,aa,p0,q0,F,rfl,rfl,V,r0⟩:=trodAll_cons hA;obtain⟨Q,ay,d1,ab,p1,q1,z,rfl,rfl,X,r1⟩:=trodAll_cons r0;obtain⟨R,az,d2,ad,p2,q2,A,rfl,rfl,Y,r2⟩:=trodAll_cons r1;obtain⟨v3,aE,d3,ah,p3,q3,B,rfl,rfl,Z,r3⟩:=trodAll_cons r2;obtain⟨v4,aO,d4,ai,p4,q4,C,rfl,rfl,h4,r4⟩:=trodAll_cons r3;obtain⟨v5,ba,d5,aj,p5,q5,D,rfl,rfl,h5,r5⟩:=trodAll_cons r4;obtain⟨rfl,rfl,rfl⟩:=trodAll_nil r5;obtain rfl:args=#[v0,Q,R,v3,v4,v5]:=by cases args;simp_all
 obtain⟨rfl,rfl⟩:=trodVars_none hV;have hb:=ja0 hk;simp only[qe3,Rows.uptoBulkAll]at hb;obtain⟨en,rfl⟩:=Q4 (hval 0 23 v0 rfl rfl) V;obtain⟨n,hL,hs⟩:=Q3 (hval 1 26 Q rfl rfl) X;obtain⟨m,hM,ao⟩:=Q3 (hval 2 26 R rfl rfl) Y;obtain⟨s,sa,sc,VS,rfl,O,E,ar⟩:=J4 (hval 3 27 v3 rfl rfl) Z;obtain⟨l,la,lc,VL,rfl,I,f,an⟩:=J5 (hval 4 28 v4 rfl rfl) h4;obtain⟨aC,rfl⟩:=okWide_int underlying3 (hval 5 3 v5 rfl rfl);have G:bD aC:=by obtain⟨T,hf⟩:=h5;obtain⟨m,e,_,hw⟩:=qf5 underlying3 hf;simp[Value.cells]at e;subst e;exact l9 hw
 clear hA0;simp only[qe3]at a;have i:∀x∈p0,x.block<W.heap.size:=λx b=>a.lt x (by simp[b]);have k:∀x∈p1,x.block<W.heap.size:=λx b=>a.lt x (by simp[b]);have o:∀x∈p2,x.block<W.heap.size:=λx b=>a.lt x (by simp[b]);have r:∀x∈p3,x.block<W.heap.size:=λx b=>a.lt x (by simp[b]);have u:∀x∈p4,x.block<W.heap.size:=λx b=>a.lt x (by simp[b]);have w:∀x∈p5,x.block<W.heap.size:=λx b=>a.lt x (by simp[b]);obtain⟨N,M⟩:=LH (hL.ae (ok':=λ_=>True) λ_ _ _=>trivial);obtain⟨K,L⟩:=LH (hM.ae (ok':=λ_=>True) λ_ _ _=>trivial);obtain⟨y,P⟩:=qV E O;have J:=yu f I;have g:=U6 f;have au:s.length<=tysizes s/\l.length<=vsizes l:=⟨tlength_le s,kS l⟩;have hH:=(aab (en:=en) (n:=n) (m:=m) (s:=s) (l:=l) (aC:=aC) N od K od y od g od (λx b=>by have:=fO b;omega) G).runN rfl (λ_=>True) W [_,Q,R,_,_,_] ⟨Xd _ _ _,M,L,P,J,.v _,trivial⟩;refine hH.mono λe S ⟨G,v,he,hv⟩=>?_;obtain rfl:=Pe.bW hv;subst he;have d:=PY G;exact⟨_,rfl,_,_,_,[],p0++(p1++(p2++(p3++(p4++(p5++[]))))),[],a,jd4 (shut_bool underlying4 _) trodAll_mk0,jd4 (Below.trod laidOut oA (ja0 oA) V d i) (jd4 (Below.trod laidOut oA (ja0 oA) X d k) (jd4 (Below.trod laidOut oA (ja0 oA) Y d o) (jd4 (Below.trod laidOut oA (ja0 oA) Z d r) (jd4 (Below.trod laidOut oA (ja0 oA) h4 d u) (jd4 (Below.trod laidOut oA (ja0 oA) h5 d w) trodAll_mk0))))),rfl,d.frame _,λh=>by cases h⟩
def lifted(f:Os)(a:f.Started)(H:Type)(enc:TypeId×Value->H)(F:Stop.Interp) :
 ReturnsInHanded {} checked f 5 .any ((Rows.OpenSpec.upto Rows.runPartsSpec).pre6 enc prog f5 Rows.runPartsUptoRow.domain false) (((Rows.OpenSpec.upto Rows.runPartsSpec).at F).post enc prog f5 false true false false):=by
 refine returnsInHanded_of_cond (C:=checked) (s:=Rows.OpenSpec.upto Rows.runPartsSpec) (k:=Rows.uptoSmall) rfl own a oA func5
  (OpenSpec.witness (enc:=enc) (C:=checked) (s:=Rows.OpenSpec.upto Rows.runPartsSpec) (k:=Rows.uptoSmall) rfl false ⟨#[],#[.agg #[.i 0,.i 0,.i 0,.i 0],.agg #[.i 0,.i 0,.i 0,.string .empty,.n0],.agg #[.i 0,.i 0,.i 0,.string .empty,.n0],.n0,.n0,.i 0],[]⟩ 8 oA oA oA
   (x:=([.agg [.lit (.int .i64 0),.lit (.int .i64 0),.lit (.int .i64 0),.lit (.int .i64 0)],.agg [.lit (.int .i64 0),.lit (.int .i64 0),.lit (.int .i64 0),.lit (.string []),.nil],.agg [.lit (.int .i64 0),.lit (.int .i64 0),.lit (.int .i64 0),.lit (.string []),.nil],.nil,.nil,.lit (.int .i64 0)],[],[])) oA rfl oA) ?_
 intro W d c g h b e j _ l _;exact contract H enc W d c g h b e j l
def over:Rows.runPartsUptoRow.holds Tryz.pinned (Rows.OpenSpec.upto Rows.runPartsSpec) :=
 OpenClaim.holds_of_cond 5 f5 rfl rfl rfl rfl rfl rfl rfl ⟨rfl,rfl,rfl,rfl,rfl⟩ rfl rfl rfl rfl rfl oA func5 oA
  (ja0 oA) (by unfold Func.isWrapper;first|(rw[if_pos vm];kernel_rfl)|(rw[if_neg vm];exact⟨rfl,rfl⟩))
  (λc a H b _ F=>lifted c a H b F)
end Go.Proofs.YtgfdimkbfnpepaaGreat.runParts
namespace Go.Proofs.YtgfdimkbfnpepaaGreat
set_option linter.all false
open Go.Proofs.Tryz
set_option maxRecDepth 100000
set_option maxHeartbeats 4000000
theorem runParts_holds:Rows.RunPartsUptoSaid:=runParts.over
#print axioms runParts_holds
