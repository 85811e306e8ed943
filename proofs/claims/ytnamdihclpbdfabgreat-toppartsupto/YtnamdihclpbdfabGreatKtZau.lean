import Derived.Test.YtnamdihclpbdfabGreatKtZat
namespace Go.Proofs.YtnamdihclpbdfabGreat
set_option linter.all false
open Go.Proofs.Tryz
open Pe
set_option maxRecDepth 100000
set_option maxHeartbeats 40000000
section
variable {L L2 L3:Lg}{f s g d p m p3 m3:Int}{md:Md}{r:Rq}{T:Ty}{x:Va}{i:Nat}{e:Int}{l:List Rq}{fr:Int}{o:lI}{v:Va}
def Uv{lG:Int}(hi:i<12)(a:TgH (.op fr o) (Int.ofNat i) lG)(hm:MvH L f (Rq.fr (.op fr o)) (Int.ofNat i) lG L2 0)(c:WaH L2 f s g d p m md i T)(b:ArH (.op fr o) T (argA (some x)))(h:jJ (decide ((L2 i).is=1)) false)
 (hc:ClH i ⟨i,Rq.fr (.op fr o),lG,(L2 i).ji⟩ x l e (dW 2900070 L2 f s g d p m md) (dW 2900170 L3 f s g d p3 m3 md)):UH (.op fr o) l e (dW 2900070 L f s g d p m md) (dW 2900170 L3 f s g d p3 m3 md):=by
 have⟨t,j⟩:=T;have⟨q,r,k,u,w,v,n⟩:=x;have hc:=abj hc;rcases bM hi with rfl|rfl|rfl|rfl|rfl|rfl|rfl|rfl|rfl|rfl|rfl|rfl
 all_goals (cases md<;>exact Ri (bH func82 [(57,bA false)] [] [⟨_,a⟩,⟨_,hm⟩,⟨_,c⟩,⟨_,b⟩,⟨_,hc⟩] oe (al h al0)))
end
section
variable {L L2 L3:Lg}{f s g d p m p3 m3:Int}{md:Md}{r:Rq}{T:Ty}{x:Va}{i:Nat}{e:Int}{l:List Rq}{fr:Int}{o:lI}{v:Va}
def Uw{lG:Int}(hi:i<12)(a:TgH (.told fr v) (Int.ofNat i) lG)(hm:MvH L f (Rq.fr (.told fr v)) (Int.ofNat i) lG L2 0)(c:WaH L2 f s g d p m md i T)(b:ArH (.told fr v) T (argA (some x)))(h:jJ (decide ((L2 i).is=1)) false)
 (hc:ClH i ⟨i,Rq.fr (.told fr v),lG,(L2 i).ji⟩ x l e (dW 2900070 L2 f s g d p m md) (dW 2900170 L3 f s g d p3 m3 md)):UH (.told fr v) l e (dW 2900070 L f s g d p m md) (dW 2900170 L3 f s g d p3 m3 md):=by
 have⟨t,j⟩:=T;have⟨o,q,k,r,w,u,n⟩:=x;have hc:=abj hc;rcases bM hi with rfl|rfl|rfl|rfl|rfl|rfl|rfl|rfl|rfl|rfl|rfl|rfl
 all_goals (cases md<;>exact Ri (bH func82 [(57,bA false)] [] [⟨_,a⟩,⟨_,hm⟩,⟨_,c⟩,⟨_,b⟩,⟨_,hc⟩] oe (al h al0)))
end
def aaK(l:List Int)(i:Int):mdOf (l++[i]) =.ls (l.length+1) (mkD (l++[i])):=by
 cases l with
 | nil=>rfl
 | cons x l=>simp[mdOf]
def Xw{o:lI}{e:Int}(h:ku o =.error e):e≠0:=by
 unfold ku at h;split at h
 .split at h
  .split at h
   .split at h
    .split at h<;>cases h;decide
    .cases h;decide
   .rename_i a;cases h;exact a
  .cases h;decide
 .cases h;decide
def R7{o:lI}{A:Ac}(h:ku o =.ok A):A.ji=0:=by
 unfold ku at h;split at h
 .split at h
  .split at h
   .split at h
    .split at h<;>cases h;rfl
    .cases h
   .cases h
  .cases h
 .cases h
def NW{L:Lg}{i:Nat}{A:Ac}(h:qX L)(hb:A.ji=0):qX (vU L i A):=λj a=>by
 unfold vU;split
 .rw[hb];omega
 .exact h j a
section
variable {L L2:Lg}{f s g d p m:Int}{md:Md}{o:lI}{A:Ac}{e:Int}{i:Nat}
abbrev OrH (o:lI) (e:Int) (H H':Hp):Prop:=HX 83 [wP 0,.one (.d (.e (wO o)))] (.of (iA e)) H H'
def acv(h:Hd ⟨102,[.one (.d (.e (wO o)))],.rz [acZ,iA e]⟩)(b:e≠0):OrH o e (dW 2900070 L f s g d p m md) (dW 2900170 L f s g d p m md):=by
 have i1:jJ (!decide (e=0)) true:=eT (by simp[b]);clear b;have⟨k,d,a,⟨_,_,_,_,_⟩,⟨_,_,_,_,_⟩,⟨_,_,_,_,_⟩,⟨_,_,_,_,_⟩⟩:=o
 cases md with
 | no=>exact HX.post (res:=.of (iA e)) (H':=dW 2900070 L f s g _ p m .no) (bH func83 [(15,bA true)] [] [⟨_,h⟩] oe (al i1 al0)) 2900070 2900170
 | ls j es=>exact HX.post (res:=.of (iA e)) (H':=dW 2900070 L f s g _ p m (.ls j es)) (bH func83 [(15,bA true)] [] [⟨_,h⟩] oe (al i1 al0)) 2900070 2900170
def aaM(h:Hd ⟨102,[.one (.d (.e (wO o)))],.rz [UI A,iA 0]⟩)(b:HX 103 [wP 0] (.of (jA 12)) (dW 2900070 L f s g d p m md) (dW 2900170 L f s g d p m md)):OrH o 7 (dW 2900070 L f s g d p m md) (dW 2900170 L f s g d p m md):=by have⟨k,d,a,⟨_,_,_,_,_⟩,⟨_,_,_,_,_⟩,⟨_,_,_,_,_⟩,⟨_,_,_,_,_⟩⟩:=o;cases md<;>exact bH func83 [] [] [⟨_,h⟩,⟨_,b⟩] oe al0
def aaN(h:Hd ⟨102,[.one (.d (.e (wO o)))],.rz [UI A,iA 0]⟩)(hi:i<12)(b:HX 103 [wP 0] (.of (jA i)) (dW 2900070 L f s g d p m md) (dW 2900170 L f s g d p m md))
 (hm:Hd ⟨98,[lC (vU L i A) f,iA s,jA i,iA o.lG],.rz [lC L2 f,iA e]⟩) (e0:e≠0):OrH o e (dW 2900070 L f s g d p m md) (dW 2900170 (vU L i A) f s g d p m md):=by
 have i1:jJ (!decide (e=0)) true:=eT (by simp[e0]);clear e0;have⟨k,d,a,⟨_,_,_,_,_⟩,⟨_,_,_,_,_⟩,⟨_,_,_,_,_⟩,⟨_,_,_,_,_⟩⟩:=o;rcases bM hi with rfl|rfl|rfl|rfl|rfl|rfl|rfl|rfl|rfl|rfl|rfl|rfl
 all_goals (cases md<;>exact bH func83 [(48,bA true)] [] [⟨_,h⟩,⟨_,b⟩,⟨_,hm⟩] oe (al i1 al0))
def or_nil(h:Hd ⟨102,[.one (.d (.e (wO o)))],.rz [UI A,iA 0]⟩)(hi:i<12)(b:HX 103 [wP 0] (.of (jA i)) (dW 2900070 L f s g d p m .no) (dW 2900170 L f s g d p m .no))
 (hm:Hd ⟨98,[lC (vU L i A) f,iA s,jA i,iA o.lG],.rz [lC L2 f,iA 0]⟩):OrH o 0 (dW 2900070 L f s g d p m .no) (dW 2900170 L2 f s g d p m (.ls 1 (mkD [(i:Int)]))):=by
 have⟨k,d,a,⟨_,_,_,_,_⟩,⟨_,_,_,_,_⟩,⟨_,_,_,_,_⟩,⟨_,_,_,_,_⟩⟩:=o;have j:zV 8 0 [] [[.v (.i (Int.ofNat i))]]:=iL (jn _) oe rfl oe ov;have c:=rows_refl [[D.v (.i (Int.ofNat i))]];rcases bM hi with rfl|rfl|rfl|rfl|rfl|rfl|rfl|rfl|rfl|rfl|rfl|rfl
 all_goals exact HX.post (res:=.of (iA 0)) (H':=dW 2000062 L2 f s g _ p m (.ls 1 (mkD [_]))) (bH func83 [] [] [⟨_,h⟩,⟨_,b⟩,⟨_,hm⟩] oe (al c (al j al0))) 2000062 2900170
def or_cons{j:Nat}{es b:List bd}(h:Hd ⟨102,[.one (.d (.e (wO o)))],.rz [UI A,iA 0]⟩)(hi:i<12)(c:HX 103 [wP 0] (.of (jA i)) (dW 2900070 L f s g d p m (.ls j es)) (dW 2900170 L f s g d p m (.ls j es)))
 (hm:Hd ⟨98,[lC (vU L i A) f,iA s,jA i,iA o.lG],.rz [lC L2 f,iA 0]⟩) (he:es.length=j) (hj:j<=100) (hfs:b=es++[[.v (.i (Int.ofNat i))]]):OrH o 0 (dW 2900070 L f s g d p m (.ls j es)) (dW 2900170 L2 f s g d p m (.ls (j+1) b)):=by
 have⟨k,d,a,⟨_,_,_,_,_⟩,⟨_,_,_,_,_⟩,⟨_,_,_,_,_⟩,⟨_,_,_,_,_⟩⟩:=o;have n:zV 8 j es [[.v (.i (Int.ofNat i))]]:=iL od oe rfl ot ov;have l:rowsLe (es.take j++[[.v (.i (Int.ofNat i))]]) b:=by rw[ub od,hfs];exact rows_refl _
 clear he hj hfs;rcases bM hi with rfl|rfl|rfl|rfl|rfl|rfl|rfl|rfl|rfl|rfl|rfl|rfl
 all_goals exact HX.post (res:=.of (iA 0)) (H':=dW 2000062 L2 f s g _ p m (.ls (j+1) b)) (bH func83 [(2000062,.one (.d (.s 1 b)))] [] [⟨_,h⟩,⟨_,c⟩,⟨_,hm⟩] oe (al l (al n al0))) 2000062 2900170
end
def free_le:∀(L:Lg) (n j:Nat),j+n=12->ib L n j<=12
 | L,0,j,h=>by simp only[ib];omega
 | L,n+1,j,h=>by
  simp only[ib];split
  .omega
  .exact free_le L n (j+1) od
def ab2{W:Wk}{o:lI}(k:Ch o)(z:qX W.L)(y:W.made.length<=100):OrH o (wy W o).2 (I4 2900070 W) (I4 2900170 (wy W o).1):=by
 have h:=Z4 k.p k.s k.c k.a k.zc k.za;have j:=H_free (L:=W.L) (f:=W.fe) (s:=W.src) (g:=W.aC) (d:=W.done) (p:=W.paid) (m:=W.Ze) (md:=mdOf W.made);have w:=free_le W.L 12 0 rfl;unfold wy
 cases u:ku o with
 | error e=>rw[u]at h;exact acv h (Xw u)
 | ok A =>
  rw[u]at h;dsimp only
  by_cases b:ib W.L 12 0=12
  .rw[if_pos b];rw[b]at j;exact aaM h j
  .rw[if_neg b];generalize ib W.L 12 0=i at j w b;have v:i<12:=by omega
   have q:=Vq (f:=W.fe) (fr:=W.src) (dn:=Int.ofNat i) (n:=o.lG) (NW (i:=i) z (R7 u));unfold aaJ;rw[show ((i:Nat):Int)=Int.ofNat i from rfl];generalize moveF (vU W.L i A) W.src (Int.ofNat i) o.lG=r at q|-;have⟨L2,e⟩:=r;dsimp only at q|-
   by_cases t:e=0
   .rw[if_pos t];subst t;have⟨L,f,s,g,d,p,m,made⟩:=W;unfold I4;dsimp only at j y|-;rw[aaK]
    cases made with
    | nil=>exact or_nil h v j q
    | cons x l=>exact or_cons h v j q (by simp[mkD]) (by simpa using y) (by simp[mkD])
   .rw[if_neg t];exact aaN h v j q t
section
variable {L L2 L3:Lg}{f s g d p m p3 m3:Int}{md:Md}{r:Rq}{T:Ty}{x:Va}{i:Nat}{e:Int}{l:List Rq}{fr:Int}{o:lI}{v:Va}
abbrev UU (r:Rq) (l:List Rq) (e:Int) (H H':Hp):Prop:=HX 56 [wP 0,Y1 r] (.rz [KN l,iA e]) H H'
variable {md3:Md}{f3 s3 g3 d3:Int}
def aay(h:UH (.told fr v) l e (dW 2900070 L f s g d p m md) (dW 2900170 L3 f3 s3 g3 d3 p3 m3 md3)):UU (.told fr v) l e (dW 2900070 L f s g d p m md) (dW 2900170 L3 f3 s3 g3 d3 p3 m3 md3):=by
 cases md<;>cases md3<;>exact bH func56 [] [] [⟨_,h⟩] oe al0
def aaz(h:UH (.op fr o) l e (dW 2900070 L f s g d p m md) (dW 2900170 L3 f3 s3 g3 d3 p3 m3 md3))(b:o.kind=1):UU (.op fr o) l e (dW 2900070 L f s g d p m md) (dW 2900170 L3 f3 s3 g3 d3 p3 m3 md3):=by have⟨k,c,a,⟨_,_,_,_,_⟩,⟨_,_,_,_,_⟩,⟨_,_,_,_,_⟩,⟨_,_,_,_,_⟩⟩:=o;obtain rfl:k=1:=b;cases md<;>cases md3<;>exact bH func56 [] [] [⟨_,h⟩] oe al0
def aax(h:OrH o e (dW 2900070 L f s g d p m md) (dW 2900170 L3 f3 s3 g3 d3 p3 m3 md3))(b:o.kind=2):UU (.op fr o) [] e (dW 2900070 L f s g d p m md) (dW 2900170 L3 f3 s3 g3 d3 p3 m3 md3):=by have⟨k,c,a,⟨_,_,_,_,_⟩,⟨_,_,_,_,_⟩,⟨_,_,_,_,_⟩,⟨_,_,_,_,_⟩⟩:=o;obtain rfl:k=2:=b;cases md<;>cases md3<;>exact bH func56 [] [] [⟨_,h⟩] oe al0
def aaw(b:o.kind≠1)(c:o.kind≠2):UU (.op fr o) [] 3 (dW 2900070 L f s g d p m md) (dW 2900170 L f s g d p m md):=by
 have⟨k,e,a,⟨_,_,_,_,_⟩,⟨_,_,_,_,_⟩,⟨_,_,_,_,_⟩,⟨_,_,_,_,_⟩⟩:=o;have i1:jJ (decide (k=1)) false:=eT (xb b);have i2:jJ (decide (k=2)) false:=eT (xb c);clear b c
 cases md with
 | no=>exact HX.post (res:=.rz [nilA,iA 3]) (H':=dW 2900070 L f s g d p m .no) (bH func56 [(16,bA false),(29,bA false)] [] [] oe (al i1 (al i2 al0))) 2900070 2900170
 | ls j es=>exact HX.post (res:=.rz [nilA,iA 3]) (H':=dW 2900070 L f s g d p m (.ls j es)) (bH func56 [(16,bA false),(29,bA false)] [] [] oe (al i1 (al i2 al0))) 2900070 2900170
end
abbrev UM (β:Nat->Option Nat) (S:St) (ex:Nat) (q:St):Prop:=@vO (qh β) prog f38.ntmps ⟨gF f38,S,ex,q⟩
def Su (k:Nat) (L:Lg) (f s g d p m:Int) (md:Md) (es:List bd) (n i:Nat):St:=[((0,0),.of (wP 0)),((0,5),.of (.one (.g k 3 n))),((k+1,0),.kv 94 3 es),((0,6),.of (jA i))]++WE 818800 3900070 L f s g d p m md
def cwE (e:Int) (S:St):St:=((0,4),.of (iA e))::S
def adS(k m:Nat):some (AV.of (.one (.g k 3 m)))=some (.of (.one (.g k 3 m)))/\([]:List bd)=[]/\true:=⟨rfl,rfl,rfl⟩
section
variable {β:Nat->Option Nat}{k n i:Nat}{L L2:Lg}{f s g d p m f2 s2 g2 d2 p2 m2:Int}{md md2:Md}{es es2:List bd}{r y:Rq}{ys:List Rq}{e:Int}{ex:Nat}{q:St}
def acg(hk:k=3000010\/k=3000046):UM β (Su k L f s g d p m md es n n) 2 (WE 818800 3900070 L f s g d p m md):=by have i1:mD (aQ (decide (Int.ofNat n<Int.ofNat n))) (bA false):=wH od;rcases hk with rfl|rfl<;>cases md<;>exact fF (e:=1) [(14,bA false)] [] (al i1 al0)
def aav(hk:k=3000010\/k=3000046)(hi:i<n)(a:d=24):UM β (Su k L f s g d p m md es n i) 1 (cwE 7 (WE 818800 3900070 L f s g d p m md)):=by have i1:mD (aQ (decide (Int.ofNat i<Int.ofNat n))) (bA true):=is_lt ot;subst a;rcases hk with rfl|rfl<;>cases md<;>exact fF (e:=0) [(14,bA true)] [] (al i1 al0)
def cwT (k i:Nat) (r:Rq):Hints:=[(14,bA true),(22,bA false),(27,.one (.q k (i*3))),(28,Y1 r)]
def cwO (k n i:Nat) (d:Int) (es:List bd) (r:Rq):List Prop:=[mD (aQ (decide (Int.ofNat i<Int.ofNat n))) (bA true),jJ (decide (d=24)) false,(if 3=3/\i<n then some (AV.of (.one (.q k (i*3))))else none)=some (.of (.one (.q k (i*3)))),(dY es (i*3) 3).bind (mkA true)=some (.of (Y1 r))]
def acf(hi:i<n)(a:d≠24)(hc:dY es (i*3) 3=some ((rqD r).map .d)):∀p∈cwO k n i d es r,p :=
 al (is_lt ot) (al (eT (xb a)) (al (if_pos ⟨rfl,hi⟩) (al (by rw[hc];cases r<;>rfl) al0)))
def XG{l:List Rq}(h:UU r l e (dW 2900070 L f s g d p m md) (dW 2900170 L2 f2 s2 g2 d2 p2 m2 md2)):UU r l e (dW 3900070 L f s g d p m md) (dW 2900070 L2 f2 s2 g2 d2 p2 m2 md2):=by
 cases r<;>cases md<;>cases md2<;>exact (h.to 2900070 3900070).post 2900170 2900070
def ach(hk:k=3000010\/k=3000046)(c:∀p∈cwO k n i d es r,p)(b:UU r [] e (dW 2900070 L f s g d p m md) (dW 2900170 L2 f2 s2 g2 d2 p2 m2 md2))(a:e≠0):UM β (Su k L f s g d p m md es n i) 1 (cwE e (WE 818800 3900070 L2 f2 s2 g2 d2 p2 m2 md2)):=by have o:=jX c (al (show jJ (!decide (e=0)) true from eT (by simp[a])) al0);have h:=XG b;clear b a;have F:=λj l q=>(fF (β:=β) (e:=0) (cwT k i r++[(33,bA true)]) [⟨_,h⟩] o (h:=j) (hc:=l) (hm:=q):UM β (Su k L f s g d p m md es n i) 1 (cwE e (WE 818800 3900070 L2 f2 s2 g2 d2 p2 m2 md2)));rcases hk with rfl|rfl<;>cases r<;>cases md<;>cases md2<;>exact F oA oA oA
def XF(hk:k=3000010\/k=3000046)(b:∀p∈cwO k n i d es r,p)(a:UU r [] 0 (dW 2900070 L f s g d p m md) (dW 2900170 L2 f2 s2 g2 d2 p2 m2 md2))(c:mD (lW (IntKind.i64.wrap (d2+1))) (iA (d2+1)))(e:mD (lW (IntKind.i64.wrap (Int.ofNat i+1))) (jA (i+1)))
 (hn:UM β (Su k L2 f2 s2 g2 (d2+1) p2 m2 md2 es n (i+1)) ex q):UM β (Su k L f s g d p m md es n i) ex q:=by
 have o:=jX b (al c (al (adS k n) (al e al0)));have h:=XG a;clear a;have F:=λj l t=>(jC (β:=β) (cwT k i r++[(40,iA (d2+1)),(46,.one (.g k 3 n)),(16,jA (i+1))]) [⟨_,h⟩] hn o (h:=j) (hc:=l) (hm:=t):UM β (Su k L f s g d p m md es n i) ex q);rcases hk with rfl|rfl<;>cases r<;>cases md<;>cases md2<;>exact F oA oA oA
def Pg(hk:k=3000010\/k=3000046)(b:∀p∈cwO k n i d es r,p)(a:UU r (y::ys) 0 (dW 2900070 L f s g d p m md) (dW 2900170 L2 f2 s2 g2 d2 p2 m2 md2))(c:mD (lW (IntKind.i64.wrap (d2+1))) (iA (d2+1)))(e:mD (lW (IntKind.i64.wrap (Int.ofNat i+1))) (jA (i+1)))
 (h1:rowsLe (es.take n++kH (y::ys)) es2) (h2:zV 24 n es (kH (y::ys))) (hn:UM β (Su 3000046 L2 f2 s2 g2 (d2+1) p2 m2 md2 es2 (n+(kH (y::ys)).length) (i+1)) ex q):UM β (Su k L f s g d p m md es n i) ex q:=by
 have o:=jX b (al c (al h1 (al h2 (al e al0))));have h:=XG a;clear a;have F:=λj l t=>(jC (β:=β) (cwT k i r++[(40,iA (d2+1)),(2000046,.one (.d (.s 3 es2))),(16,jA (i+1))]) [⟨_,h⟩] hn o (h:=j) (hc:=l) (hm:=t):UM β (Su k L f s g d p m md es n i) ex q);rcases hk with rfl|rfl<;>cases r<;>cases md<;>cases md2<;>exact F oA oA oA
end
def BN{F:FuncId}{az:List A1}{L L2:Lg}{f s g d p m f2 i g2 b p2 c e:Int}{md a:Md}(h:HX F az (.of (iA e)) (dW 2900070 L f s g d p m md) (dW 3900070 L2 f2 i g2 b p2 c a)):HX F az (.of (iA e)) (dW 2900070 L f s g d p m md) (dW 2900170 L2 f2 i g2 b p2 c a):=by
 cases md<;>cases a<;>exact h.post 3900070 2900170
structure Way (P:Wk->List Rq->Prop):Prop where
 dos:∀{W:Wk} {r:Rq} {rs:List Rq},P W (r::rs)->W.done≠24->UU r (yS W r).2.1 (yS W r).2.2 (I4 2900070 W) (I4 2900170 (yS W r).1)
 err:∀{W:Wk} {r:Rq} {rs:List Rq},P W (r::rs)->(yS W r).2.2≠0->(yS W r).2.1=[]
 few:∀{W:Wk} {r:Rq} {rs:List Rq},P W (r::rs)->(yS W r).2.1.length<=24
 next:∀{W:Wk} {r:Rq} {rs:List Rq},P W (r::rs)->W.done≠24->(yS W r).2.2=0->P { (yS W r).1 with done:=(yS W r).1.done+1 } (rs++(yS W r).2.1)
 done:∀{W:Wk} {r:Rq} {rs:List Rq},P W (r::rs)->(yS W r).1.done=W.done
def T9(l:List Rq):jl (kH l):=by unfold jl kH;rw[List.all_map,ki];intro r _;cases r<;>rfl
def abF(r:Rq):(rqD r).length=3:=by cases r<;>rfl
def wkS (K:Nat) (W:Wk):St:=WE 818800 K W.L W.fe W.src W.aC W.done W.paid W.Ze (mdOf W.made)
def XE{P:Wk->List Rq->Prop}(f:Way P):∀(N:Nat) (W:Wk) (a:List Rq) (i k:Nat),P W (a.drop i)->i<=a.length->(0<=W.done/\W.done<=24)->(24 - W.done).toNat+2<=N->a.length<=1+24*W.done.toNat->(k=3000010\/k=3000046) ->
 ((rowF N W (a.drop i)).2=0/\(∀β,UM β (Su k W.L W.fe W.src W.aC W.done W.paid W.Ze (mdOf W.made) (kH a) a.length i) 2 (wkS 3900070 (rowF N W (a.drop i)).1)) \/
   (∀β,UM β (Su k W.L W.fe W.src W.aC W.done W.paid W.Ze (mdOf W.made) (kH a) a.length i) 1 (cwE (rowF N W (a.drop i)).2 (wkS 3900070 (rowF N W (a.drop i)).1))))
 | 0,W,a,i,k,_,_,h0,F,_,_=>od
 | N+1,W,a,i,k,m,J,h0,F,E,hk=>by
  cases x:a.drop i with
  | nil =>
   have : a.length<=i:=by have:=congrArg List.length x;simp at this;omega
   obtain rfl:i=a.length:=od
   refine .inl ⟨rfl,λβ=>?_⟩;exact acg hk
  | cons r I =>
   have⟨o,H,g⟩:=kX x;simp only[rowF]
   by_cases b:W.done=24
   .rw[if_pos b];exact .inr λβ=>aav hk o b
   .rw[if_neg b];rw[x]at m;have c:=f.dos m b;have w:=f.err m;have hF:=f.few m;have u:=f.next m b
    have D:=f.done m;have G:dY (kH a) (i*3) 3=some ((rqD r).map .d):=(DI (A:=kH (a.take i)) (by rw[mg,qc2];omega) (λq E=>by obtain⟨r,_,rfl⟩:=kl.1 E;exact abF r) (abF r) (by unfold kH;rw[<-List.map_take,jc1,H,ux];rfl)).1;have s:∀p∈cwO k a.length i W.done (kH a) r,p:=acf o b G;generalize yS W r=z at c w hF u D|-;have⟨j,l,e⟩:=z;dsimp only at c w hF u D|-
    by_cases v:e=0
    .subst v;rw[if_pos rfl];have i1:mD (lW (IntKind.i64.wrap (j.done+1))) (iA (j.done+1)):=yY (zF rfl od od);have i2:mD (lW (IntKind.i64.wrap (Int.ofNat i+1))) (jA (i+1)):=yY (zF oe ot ot);have n:(a++l).drop (i+1)=I++l:=by rw[jh1 od,g]
     cases l with
     | nil =>
      have t:=XE f N { j with done:=j.done+1 } a (i+1) k (by rw[g];simpa using u rfl) od ON ON ON hk;rw[g]at t;simp only[qb0];rcases t with h|h
      .exact .inl ⟨h.1,λβ=>XF hk s c i1 i2 (h.2 β)⟩
      .exact .inr λβ=>XF hk s c i1 i2 (h β)
     | cons y ys =>
      have B:(a++(y::ys)).length=a.length+(kH (y::ys)).length:=by rw[mg,ju]
      have t:=XE f N { j with done:=j.done+1 } (a++(y::ys)) (i+1) 3000046 (by rw[n];exact u rfl) (by rw[List.length_append];omega) ON ON (by dsimp only;rw[List.length_append];omega) (.inr rfl);rw[n,B]at t;have C:rowsLe ((kH a).take a.length++kH (y::ys)) (kH (a++(y::ys))):=by rw[ub (by rw[mg];omega)];unfold kH;rw[ux];exact rows_refl _
      have h2:zV 24 a.length (kH a) (kH (y::ys)):=iL (by rw[mg];omega) (by simp[kH]) (T9 _) (by rw[mg];omega) ov;rcases t with h|h
      .exact .inl ⟨h.1,λβ=>Pg hk s c i1 i2 C h2 (h.2 β)⟩
      .exact .inr λβ=>Pg hk s c i1 i2 C h2 (h β)
    .rw[if_neg v];obtain rfl:=w v;exact .inr λβ=>ach hk s c v
def ab4{P:Wk->List Rq->Prop}(k:Way P){W:Wk}{r:Rq}(n:P W [r])(l:0<=W.done/\W.done<=24):HX 38 [wP 0,Y1 r] (.of (iA (rowF 26 W [r]).2)) (I4 2900070 W) (I4 2900170 (rowF 26 W [r]).1):=by
 have b:=XE k 26 W [r] 0 3000010 n oe l od oe (.inl rfl);rw[qg1]at b;generalize rowF 26 W [r]=z at b|-;have⟨⟨L2,f2,s2,g2,d2,p2,m2,a⟩,e⟩:=z;have⟨L,f,s,g,d,p,m,made⟩:=W;simp only[wkS,I4]at b|-;generalize mdOf made=md at b|-;generalize mdOf a=md2 at b|-;have i:=wI (S:=Su 3000010 L f s g d p m md (kH [r]) [r].length 0) (q:=gF f38=gF f38) rfl (ps:=[]) al0;rcases b with⟨j,h⟩|h
 .subst j;cases r<;>cases md<;>cases md2
  all_goals exact BN (bH func38 [(10,bA true)] [_] [] (λβ x c=>by rw[qu]at c;subst c;exact h β) i)
 .cases r<;>cases md<;>cases md2
  all_goals exact BN (bH func38 [(10,bA true)] [_] [] (λβ x c=>by rw[qu]at c;subst c;exact h β) i)
abbrev cmL (β:Nat->Option Nat) (S:St) (ex:Nat) (q:St):Prop:=@vO (qh β) prog f26.ntmps ⟨gF f26,S,ex,q⟩
def osA (os:List lI):A1:=.one (.d (.s 23 (os.map wO)))
def cmS (L:Lg) (f s g d p m:Int) (md:Md) (os:List lI) (j:Nat):St:=[((0,0),.of (wP 0)),((0,1),.of (osA os)),((0,8),lW (os.map wO).length),((0,9),.of (jA j))]++WE 818800 3900070 L f s g d p m md
def atO (os:List lI) (j:Nat) (o:lI):Prop:=Bp 23 23 (os.map wO) j=some (.of (.one (.e (wO o) 0)))
def aaL(o:lI):(wO o).length=23:=by have⟨k,d,a,⟨_,_,_,_,_⟩,⟨_,_,_,_,_⟩,⟨_,_,_,_,_⟩,⟨_,_,_,_,_⟩⟩:=o;rfl
def Wj{os:List lI}{j:Nat}{o:lI}(h:os[j]?=some o):atO os j o:=by unfold atO Bp;rw[qa5,h];have⟨k,d,a,⟨_,_,_,_,_⟩,⟨_,_,_,_,_⟩,⟨_,_,_,_,_⟩,⟨_,_,_,_,_⟩⟩:=o;rfl
abbrev ab6 (r:Rq) (e:Int) (H H':Hp):Prop:=HX 38 [wP 0,Y1 r] (.of (iA e)) H H'
section
variable {β:Nat->Option Nat}{j:Nat}{L L2:Lg}{f s g d p m f2 s2 g2 d2 p2 m2:Int}{md md2:Md}{os:List lI}{o:lI}{e:Int}{ex:Nat}{q:St}
def acd(a:j=os.length):cmL β (cmS L f s g d p m md os j) 2 (WE 818800 3900070 L f s g d p m md):=by have i1:mD (aQ (decide (Int.ofNat j<((os.map wO).length:Int)))) (bA false):=wH oY;cases md<;>exact fF (e:=1) [(10,bA false)] [] (al i1 al0)
def ace(a:os[j]?=some o)(c:ab6 (.op s o) e (dW 2900070 L f s g d p m md) (dW 2900170 L2 f2 s2 g2 d2 p2 m2 md2))(b:e≠0):cmL β (cmS L f s g d p m md os j) 1 (cwE e (WE 818800 3900070 L2 f2 s2 g2 d2 p2 m2 md2)):=by have i1:mD (aQ (decide (Int.ofNat j<((os.map wO).length:Int)))) (bA true):=is_lt (by have:=(qS.1 a).1;rw[xj];simp;omega);have i2:=Wj a;have i3:jJ (!decide (e=0)) true:=eT (by simp[b]);cases md<;>cases md2<;>(have h:=(c.to 2900070 3900070).post 2900170 2900070)<;>exact fF (e:=0) [(10,bA true),(19,.one (.e (wO o) 0)),(23,bA true)] [⟨_,h⟩] (al i1 (al i2 (al i3 al0)))
def abl(a:os[j]?=some o)(b:ab6 (.op s o) 0 (dW 2900070 L f s g d p m md) (dW 2900170 L2 f2 s2 g2 d2 p2 m2 md2))(c:mD (lW (IntKind.i64.wrap (Int.ofNat j+1))) (jA (j+1)))(hn:cmL β (cmS L2 f2 s2 g2 d2 p2 m2 md2 os (j+1)) ex q):cmL β (cmS L f s g d p m md os j) ex q:=by have i1:mD (aQ (decide (Int.ofNat j<((os.map wO).length:Int)))) (bA true):=is_lt (by have:=(qS.1 a).1;rw[xj];simp;omega);have i2:=Wj a;cases md<;>cases md2<;>(have h:=(b.to 2900070 3900070).post 2900170 2900070)<;>exact jC [(10,bA true),(19,.one (.e (wO o) 0)),(25,jA (j+1))] [⟨_,h⟩] hn (al i1 (al i2 (al c al0)))
end
structure aak (Q:Wk->List lI->Prop):Prop where
 row:∀{W:Wk} {o:lI} {os:List lI},Q W (o::os)->ab6 (.op W.src o) (rowF 26 W [.op W.src o]).2 (I4 2900070 W) (I4 2900170 (rowF 26 W [.op W.src o]).1)
 next:∀{W:Wk} {o:lI} {os:List lI},Q W (o::os)->(rowF 26 W [.op W.src o]).2=0->Q (rowF 26 W [.op W.src o]).1 os
def abk{Q:Wk->List lI->Prop}(c:aak Q){os:List lI}(m:os.length<=1000):∀(u:List lI) (j:Nat) (W:Wk),j<=os.length->os.drop j=u->Q W u ->
 ((doneF W u).2=0/\(∀β,cmL β (cmS W.L W.fe W.src W.aC W.done W.paid W.Ze (mdOf W.made) os j) 2 (wkS 3900070 (doneF W u).1)) \/
   (∀β,cmL β (cmS W.L W.fe W.src W.aC W.done W.paid W.Ze (mdOf W.made) os j) 1 (cwE (doneF W u).2 (wkS 3900070 (doneF W u).1))))
 | [],j,W,p,k,i=>.inl ⟨rfl,λβ=>acd (by have:=congrArg List.length k;simp at this;omega)⟩
 | o::u,j,W,p,k,i=>by
  have⟨f,g,n⟩:=kX k;have a:=c.row i;have b:=c.next i
  have i3:mD (lW (IntKind.i64.wrap (Int.ofNat j+1))) (jA (j+1)):=yY (zF oe ot ot);simp only[doneF];generalize rowF 26 W [.op W.src o]=z at a b|-;have⟨l,e⟩:=z;dsimp only at a b|-
  by_cases d:e=0
  .subst d;rw[if_pos rfl];rcases abk c m u (j+1) l f n (b rfl)with h|h
   .exact .inl ⟨h.1,λβ=>abl g a i3 (h.2 β)⟩
   .exact .inr λβ=>abl g a i3 (h β)
  .rw[if_neg d];exact .inr λβ=>ace g a d
def abU{Q:Wk->List lI->Prop}(l:aak Q){W:Wk}{os:List lI}(k:os.length<=1000)(n:Q W os):HX 26 [wP 0,osA os] (.of (iA (doneF W os).2)) (I4 2900070 W) (I4 2900170 (doneF W os).1):=by
 have b:=abk l k os 0 W (yb _) rfl n;generalize doneF W os=z at b|-;have⟨⟨L2,f2,s2,g2,d2,p2,m2,a⟩,e⟩:=z;have⟨L,f,s,g,d,p,m,made⟩:=W;simp only[wkS,I4]at b|-;generalize mdOf made=md at b|-;generalize mdOf a=md2 at b|-;have i:=wI (S:=cmS L f s g d p m md os 0) (q:=gF f26=gF f26) rfl (ps:=[]) al0;rcases b with⟨j,h⟩|h
 .subst j;cases md<;>cases md2
  all_goals exact BN (bH func26 [] [_] [] (λβ x c=>by rw[qu]at c;subst c;exact h β) i)
 .cases md<;>cases md2
  all_goals exact BN (bH func26 [] [_] [] (λβ x c=>by rw[qu]at c;subst c;exact h β) i)
section
variable {L:Lg}{f s c eD aC c1 e:Int}{os:List lI}{n:Nat}
abbrev L6 (L:Lg) (f:Int) (b:Bt) (e:Int):Prop:=Hd ⟨24,[lC L f,btA b],.of (iA e)⟩
abbrev GoH (L:Lg) (f:Int) (b:Bool):Prop:=Hd ⟨36,[lC L f],aQ b⟩
abbrev PsH (L:Lg) (f n:Int) (b:Bool):Prop:=Hd ⟨37,[lC L f,iA n],aQ b⟩
def four{n:Nat}(h:n<4):n=0\/n=1\/n=2\/n=3:=od
def aaQ(b:Bt)(h:GoH L f false):L6 L f b 2:=by have⟨s,c,eD,aC,os⟩:=b;exact aF func24 [⟨_,h⟩]
def aaT{b:Bt}(h:GoH L f true)(a:PsH L f b.src false):L6 L f b 6:=by have⟨s,c,eD,aC,os⟩:=b;exact aF func24 [⟨_,h⟩,⟨_,a⟩]
variable (h:GoH L f true) (h2:PsH L f (Int.ofNat n) true) (hn:n<4) (i0:mD (lW (IntKind.i64.wrap ((L n).cnt+1))) (iA c1))
include h h2 hn i0
def aaR(a:jJ (!decide (c=c1)) true):L6 L f ⟨Int.ofNat n,c,eD,aC,os⟩ 9:=by rcases four hn with rfl|rfl|rfl|rfl<;>exact runT func24 [(26,iA c1),(27,bA true)] [⟨_,h⟩,⟨_,h2⟩] (al i0 (al a al0))
def aaS(a:jJ (!decide (c=c1)) false)(b:jJ (decide ((L n).cnt=1152921504606846976)) true):L6 L f ⟨Int.ofNat n,c,eD,aC,os⟩ 9:=by rcases four hn with rfl|rfl|rfl|rfl<;>exact runT func24 [(26,iA c1),(27,bA false),(31,bA true)] [⟨_,h⟩,⟨_,h2⟩] (al i0 (al a (al b al0)))
variable (i1:jJ (!decide (c=c1)) false) (i2:jJ (decide ((L n).cnt=1152921504606846976)) false)
include i1 i2
def ado(a:jJ (decide (eD<0)) true):L6 L f ⟨Int.ofNat n,c,eD,aC,os⟩ 2:=by rcases four hn with rfl|rfl|rfl|rfl<;>exact runT func24 [(26,iA c1),(27,bA false),(31,bA false),(36,bA true)] [⟨_,h⟩,⟨_,h2⟩] (al i0 (al i1 (al i2 (al a al0))))
variable (i3:jJ (decide (eD<0)) false)
include i3
def adp(a:jJ (decide (aC<0)) true):L6 L f ⟨Int.ofNat n,c,eD,aC,os⟩ 2:=by rcases four hn with rfl|rfl|rfl|rfl<;>exact runT func24 [(26,iA c1),(27,bA false),(31,bA false),(36,bA false),(40,bA true)] [⟨_,h⟩,⟨_,h2⟩] (al i0 (al i1 (al i2 (al i3 (al a al0)))))
variable (i4:jJ (decide (aC<0)) false)
include i4
def adq(a:jJ (decide ((1048576:Int)<aC)) true):L6 L f ⟨Int.ofNat n,c,eD,aC,os⟩ 2:=by rcases four hn with rfl|rfl|rfl|rfl<;>exact runT func24 [(26,iA c1),(27,bA false),(31,bA false),(36,bA false),(40,bA false),(45,bA true)] [⟨_,h⟩,⟨_,h2⟩] (al i0 (al i1 (al i2 (al i3 (al i4 (al a al0))))))
variable (i5:jJ (decide ((1048576:Int)<aC)) false)
include i5
def adl(a:jJ (decide (((os.map wO).length:Int)=0)) true):L6 L f ⟨Int.ofNat n,c,eD,aC,os⟩ 7:=by rcases four hn with rfl|rfl|rfl|rfl<;>exact runT func24 [(26,iA c1),(27,bA false),(31,bA false),(36,bA false),(40,bA false),(45,bA false),(51,bA true)] [⟨_,h⟩,⟨_,h2⟩] (al i0 (al i1 (al i2 (al i3 (al i4 (al i5 (al a al0)))))))
variable (i6:jJ (decide (((os.map wO).length:Int)=0)) false)
include i6
def adm(a:jJ (decide ((8:Int)<((os.map wO).length:Int))) true):L6 L f ⟨Int.ofNat n,c,eD,aC,os⟩ 7:=by rcases four hn with rfl|rfl|rfl|rfl<;>exact runT func24 [(26,iA c1),(27,bA false),(31,bA false),(36,bA false),(40,bA false),(45,bA false),(51,bA false),(56,bA true)] [⟨_,h⟩,⟨_,h2⟩] (al i0 (al i1 (al i2 (al i3 (al i4 (al i5 (al i6 (al a al0))))))))
variable (i7:jJ (decide ((8:Int)<((os.map wO).length:Int))) false)
include i7
def adV(a:jJ (decide ((L n).ji<eD)) true):L6 L f ⟨Int.ofNat n,c,eD,aC,os⟩ 8:=by rcases four hn with rfl|rfl|rfl|rfl<;>exact runT func24 [(26,iA c1),(27,bA false),(31,bA false),(36,bA false),(40,bA false),(45,bA false),(51,bA false),(56,bA false),(63,bA true)] [⟨_,h⟩,⟨_,h2⟩] (al i0 (al i1 (al i2 (al i3 (al i4 (al i5 (al i6 (al i7 (al a al0)))))))))
def adn(a:jJ (decide ((L n).ji<eD)) false):L6 L f ⟨Int.ofNat n,c,eD,aC,os⟩ 0:=by rcases four hn with rfl|rfl|rfl|rfl<;>exact runT func24 [(26,iA c1),(27,bA false),(31,bA false),(36,bA false),(40,bA false),(45,bA false),(51,bA false),(56,bA false),(63,bA false)] [⟨_,h⟩,⟨_,h2⟩] (al i0 (al i1 (al i2 (al i3 (al i4 (al i5 (al i6 (al i7 (al a al0)))))))))
end
def N8{L:Lg} : ∀d j,ZK L d j->∀i,j<=i->i<j+d->((decide ((L i).is=1))==decide (i<4))/\iR (L i)
 | 0,j,_,i,a,h2=>od
 | d+1,j,h,i,a,h2=>by
  simp only[ZK,qv]at h
  by_cases e:i=j
  .rw[e];exact h.1
  .exact N8 d (j+1) h.2 i od od
def Rz{L:Lg}{f:Int}{b:Bt}(y:∀i,i<12->JI (L i)):L6 L f b (mf L f b):=by
 have d:=Oc (f:=f) y;have e:=ab3 L f b.src;unfold mf
 cases m:yl L f with
 | false=>rw[m]at d;rw[if_neg oe];exact aaQ b d
 | true =>
  rw[m]at d;rw[if_pos rfl]
  cases o:p8 L b.src with
  | false=>rw[o]at e;rw[if_neg oe];exact aaT d e
  | true =>
   rw[o]at e;rw[if_pos rfl];have⟨s,c,eD,aC,os⟩:=b;dsimp only at e o|-;simp only[p8,qv,jt]at o;have⟨⟨h0,t⟩,r⟩:=o;obtain⟨n,rfl⟩:∃n:Nat,s=Int.ofNat n:=⟨s.toNat,ot⟩;simp only[Int.ofNat_eq_natCast,jg0]at h0 t r|-;unfold yl at m;rw[qv]at m;have⟨z,v⟩:=N8 12 0 m.2 n od od;have hn:n<4:=by simpa[r]using z
   have B:0<=(L n).cnt/\(L n).cnt<=1152921504606846976:=by unfold iR at v;rw[oa,if_pos r,qv]at v;simpa[rf]using v.1
   have i0:mD (lW (IntKind.i64.wrap ((L n).cnt+1))) (iA ((L n).cnt+1)):=yY vf;have a:∀{p:Prop} [Decidable p],¬p->jJ (decide p) false:=λh=>eT (xb h);have j:∀{p:Prop} [Decidable p],p->jJ (decide p) true:=λh=>eT (zj h)
   by_cases c1:c=(L n).cnt+1
   .have i1:jJ (!decide (c=(L n).cnt+1)) false:=eT (by simp[c1])
    by_cases c2:(L n).cnt=1152921504606846976
    .rw[if_neg (by simp[c2])];exact aaS d e hn i0 i1 (j c2)
    .rw[if_pos ⟨c1,c2⟩]
     by_cases g:eD<0
     .rw[oa];exact ado d e hn i0 i1 (a c2) (j g)
     by_cases k:aC<0
     .rw[oa];exact adp d e hn i0 i1 (a c2) (a g) (j k)
     by_cases l:1048576<aC
     .rw[oa];exact adq d e hn i0 i1 (a c2) (a g) (a k) (j l)
     rw[if_pos ⟨od,od,od⟩]
     by_cases x:os.length=0
     .rw[oa];exact adl d e hn i0 i1 (a c2) (a g) (a k) (a l) (j Kd)
     have u:jJ (decide (((os.map wO).length:Int)=0)) false:=a Kd
     by_cases A:8<os.length
     .rw[oa];exact adm d e hn i0 i1 (a c2) (a g) (a k) (a l) u (j Kd)
     have w:jJ (decide ((8:Int)<((os.map wO).length:Int))) false:=a Kd;rw[if_pos ⟨x,od⟩]
     by_cases q:(L n).ji<eD
     .rw[if_pos q];exact adV d e hn i0 i1 (a c2) (a g) (a k) (a l) u w (j q)
     .rw[if_neg q];exact adn d e hn i0 i1 (a c2) (a g) (a k) (a l) u w (a q)
   .rw[if_neg (λh=>c1 h.1)];exact aaR d e hn i0 (eT (by simp[c1]))
def NV (L:Lg) (n:Nat) (v c:Int):Lg:=λj=>if j=n then { L j with ji:=v,cnt:=c } else L j
section
variable {L L1 L2:Lg}{f f1 f2 s c eD aC c2 e s2 g2 d2 p2 m2:Int}{os:List lI}{n:Nat}{b:Bt}
def adH(hn:n<4)(a:mD (lW (IntKind.i64.wrap ((L n).ji - eD))) (iA c2))(b:mD (lW (IntKind.i64.wrap (f+eD))) (iA f2)):Hd ⟨25,[lC L f,btA ⟨Int.ofNat n,c,eD,aC,os⟩],.of (lC (NV L n c2 c) f2)⟩:=by rcases four hn with rfl|rfl|rfl|rfl<;>exact runT func25 [(16,iA c2),(28,iA f2)] [] (al a (al b al0))
def YI (e d g m:Int):List X:=[.d (.v (.i e)),.d (.v (.i d)),.d (.v (.i g)),.d (.v (.i m)),.d (.s 0 [])]
def acz{a:A1}{e d g m:Int}{β:Nat->Option Nat}{ok:br}{w:cg}{v:cm}(h:iZ β ok w (.rz [a,.agg (YI e d g m)]) v):iZ β ok w (.rz [a,.agg (Me ⟨e,d,g,m,[]⟩)]) v:=by
 have⟨s,f,k⟩:=h
 match s,k with
 | [u1,u2],⟨j,⟨r,i,h2⟩,_⟩ =>
  match r,h2 with
  | [a,b,c,d,m],⟨l,n,o,p,q,_⟩=>exact⟨_,f,j,⟨_,i,l,n,o,p,gG q,trivial⟩,trivial⟩
abbrev Mg (L:Lg) (f:Int) (b:Bt) (L2:Lg) (f2:Int) (r:List X):Prop:=Hd ⟨15,[lC L f,btA b],.rz [lC L2 f2,.agg r]⟩
def Mg.nil{e d g m:Int}(h:Mg L f b L2 f2 (YI e d g m)):Mg L f b L2 f2 (Me ⟨e,d,g,m,[]⟩):=Holds.conv h (λ_ _ _ h=>h) (λ_ _ _ h=>acz h)
abbrev CgH (L:Lg) (f:Int) (b:Bt) (L2:Lg) (f2:Int):Prop:=Hd ⟨25,[lC L f,btA b],.of (lC L2 f2)⟩
abbrev AlH (os:List lI) (e:Int) (H H':Hp):Prop:=HX 26 [wP 0,osA os] (.of (iA e)) H H'
def ab8(h:L6 L f b e)(a:e≠0):Mg L f b L f (YI e 0 0 0):=by have i1:jJ (!decide (e=0)) true:=eT (by simp[a]);have⟨s,c,eD,aC,os⟩:=b;exact runT func15 [(14,bA true)] [⟨_,h⟩] (al i1 al0)
def aan{a:Md}(h:L6 L f b 0)(i:CgH L f b L1 f1)(d:AlH b.ops e (dW 2900070 L1 f1 b.src b.aC 0 0 0 .no) (dW 2900170 L2 f2 s2 g2 d2 p2 m2 a))(g:e≠0):Mg L f b L1 f1 (YI e 0 p2 0):=by have i1:jJ (!decide (e=0)) true:=eT (by simp[g]);have⟨s,c,eD,aC,os⟩:=b;cases a<;>(have d:=d.to 818800 8)<;>exact runT func15 [(31,bA true)] [⟨_,h⟩,⟨_,i⟩,⟨_,d⟩] (al i1 al0)
def acU(h:L6 L f b 0)(d:CgH L f b L1 f1)(a:AlH b.ops 0 (dW 2900070 L1 f1 b.src b.aC 0 0 0 .no) (dW 2900170 L2 f2 s2 g2 d2 p2 m2 .no)):Mg L f b L2 f2 (YI 0 d2 p2 m2):=by have⟨s,c,eD,aC,os⟩:=b;have a:=a.to 818800 8;exact runT func15 [] [⟨_,h⟩,⟨_,d⟩,⟨_,a⟩] al0
def acT{j:Nat}{es:List bd}(h:L6 L f b 0)(e:CgH L f b L1 f1)(a:AlH b.ops 0 (dW 2900070 L1 f1 b.src b.aC 0 0 0 .no) (dW 2900170 L2 f2 s2 g2 d2 p2 m2 (.ls j es)))(g:j=es.length):Mg L f b L2 f2 [.d (.v (.i 0)),.d (.v (.i d2)),.d (.v (.i p2)),.d (.v (.i m2)),.d (.s 1 es)]:=by have⟨s,c,eD,aC,os⟩:=b;have a:=a.to 818800 8;exact runT func15 [] [⟨_,h⟩,⟨_,e⟩,⟨_,a⟩] (al g al0)
end
def ZZ{Q:Wk->List lI->Prop}(r:aak Q){L:Lg}{f:Int}{b:Bt}(q:∀i,i<12->JI (L i))(t:mf L f b=0->Q ⟨jo L b,f+b.eD,b.src,b.aC,0,0,0,[]⟩ b.ops):Mg L f b (bn L f b).1 (bn L f b).2.1 (Me (bn L f b).2.2):=by
 have g:=Rz (f:=f) (b:=b) q;unfold bn
 by_cases h0:mf L f b=0
 .rw[if_pos h0];rw[h0]at g;have d:=abU r (W:=⟨jo L b,f+b.eD,b.src,b.aC,0,0,0,[]⟩) (os:=b.ops) (by have:=(kM h0).2.2.2.2.1;omega) (t h0);have h:CgH L f b (jo L b) (f+b.eD):=by
   have⟨g1,g2,g3,D,E,p⟩:=kM h0;have⟨s,c,eD,aC,os⟩:=b;simp only[p8,qv,jt]at g2;have⟨⟨u,m⟩,o⟩:=g2;dsimp only at *;obtain⟨n,rfl⟩:∃n:Nat,s=Int.ofNat n:=⟨s.toNat,ot⟩;simp only[Int.ofNat_eq_natCast,jg0]at u m o p;unfold yl zo at g1;simp only[qv]at g1;have⟨⟨⟨v,w⟩,F⟩,y⟩:=g1;have⟨A,G⟩:=N8 12 0 y n od od;have hn:n<4:=by simpa[o]using A
   have B:=GU w n od;have C:=Ea v;rw[show jo L ⟨Int.ofNat n,c,eD,aC,os⟩=NV L n ((L n).ji - eD) c by
    funext j
    unfold jo NV
    by_cases e:j=n
    .subst e;rw[if_pos oe,if_pos rfl]
    .rw[if_neg (by simpa using e),if_neg e]]
   exact adH (c2:=(L n).ji - eD) (f2:=f+eD) hn (yY (zF rfl od od)) (yY (zF rfl od od))
  generalize doneF ⟨jo L b,f+b.eD,b.src,b.aC,0,0,0,[]⟩ b.ops=z at d|-;have⟨⟨L2,f2,s2,g2,d2,p2,m2,a⟩,e⟩:=z;dsimp only at d|-
  by_cases k:e=0
  .subst k;rw[if_pos rfl];dsimp only
   cases a with
   | nil=>exact (acU g h d).nil
   | cons x l=>exact acT g h d (by simp[mkD])
  .rw[if_neg k];dsimp only;exact (aan g h d k).nil
 .rw[if_neg h0];dsimp only;exact (ab8 g h0).nil
def Qc{n:Tr}{s x:aw}{f:Bool}(h:codeF n s =.ok f x):okN n:=by
 unfold codeF at h;split at h
 .cases h
 .rename_i a;exact first_okN n 1 (iV (by simpa using a)).1
def fit_ok:∀(N:Nat) {T:Ty}{v:Va},v.size<=N->Fit T v->okV v:=λN=>by
 induction N with
 | zero=>intro T v z;have:=eP v;omega
 | succ N A =>
  intro T v z h;have⟨w,l,⟨B,q,y⟩,m,e⟩:=iO h;have j:=oM w;have d:∀x∈v.args,okV x:=λx f=>by have⟨U,_,p⟩:=fitS_mem y x f;exact A (by have:=IK f;have:=fO f;have:=eP v;omega) p
  have⟨k,n,a,s,args,types,code⟩:=v;simp only[eX,qv,qe6,jt]at l;have⟨⟨⟨⟨⟨hk,hn⟩,i⟩,o⟩,b⟩,c⟩:=l;simp only[Va.k,Va.n,Va.a,Va.s,Va.types,Va.code,Va.args]at hk hn i o b c d e q;have⟨t,g⟩:=T;simp only[Ty.t,Ty.args]at *;refine⟨⟨hk ▸ j.1,?_,?_,?_⟩,okVs_at.2 d,?_,?_⟩
  .unfold bQ kE gN lY at hn;unfold bD
   repeat' split at hn
   all_goals simp at hn;omega
  .simp only[lY,jt]at i;unfold bD;omega
  .unfold maxLen;omega
  .unfold eZ at b;split at b
   .match types,b with
    | [u],b=>exact⟨oM b,trivial⟩
   .split at b
    .rw[sameTs_eq _ _ b];exact j.2
    .have : types=[]:=jx (by simpa using b);rw[this];trivial
  .rcases c with c|c
   .rw[jx c];trivial
   .have d:=e (hk.trans c);unfold jG at d;split at d
    .cases d
    .rename_i r;exact (Qc r).2
def WB{T:Ty}{p:Int}{r:Int×aw}(h:dL T p=some r):T.t≠14:=by intro e;unfold dL at h;simp[e]at h
def nu{t m:Int}{s:bp}{l:ao}(a:t≠14)(b:lamsFs l):lamsF (fM t m s l):=by simp[fM,lamsF,a,b]
mutual
def readT_lams:∀(t:Tr) (T:Ty) (x:Va),readT t T=some x->lamsF x
 | .nd k n p s a,T,x=>by
  intro h;rw[readT]at h;split at h
  .rename_i c;split at h
   .simp only[qq]at h;subst h;exact nu od rfl
   .cases h
  .split at h
   .split at h
    .simp only[qq]at h;subst h;exact nu ov rfl
    .cases h
   .split at h
    .split at h
     .simp only[qT]at h;obtain⟨ys,b,rfl⟩:=h;exact nu ov (readTs_lams a _ ys b)
     .cases h
    .split at h
     .split at h
      .simp only[qT]at h;obtain⟨ys,b,rfl⟩:=h;exact nu ov (readEs_lams a _ ys b)
      .cases h
     .split at h
      .cases h
      .rename_i m e d;simp only[qT]at h;obtain⟨ys,b,rfl⟩:=h;exact nu (WB d) (readTs_lams a _ ys b)
def readTs_lams:∀(l:aE) (ts:aw) (xs:ao),readTs l ts=some xs->lamsFs xs
 | [],[],xs=>by intro h;simp[readTs]at h;subst h;rfl
 | [],_::_,xs=>by intro h;simp[readTs]at h
 | _::_,[],xs=>by intro h;simp[readTs]at h
 | t::l,T::ts,xs=>by
  intro h;rw[readTs]at h
  cases a:readT t T with
  | none=>rw[a]at h;cases h
  | some x =>
   rw[a]at h;simp only[qT]at h;obtain⟨ys,b,rfl⟩:=h;rw[lamsFs,readT_lams t T x a,readTs_lams l ts ys b];rfl
def readEs_lams:∀(l:aE) (ts:aw) (xs:ao),readEs l ts=some xs->lamsFs xs
 | [],ts,xs=>by intro h;simp[readEs]at h;subst h;rfl
 | .nd k n p s a::l,ts,xs=>by
  intro h;rw[readEs]at h
  cases b:readTs a ts with
  | none=>rw[b]at h;cases h
  | some ys =>
   rw[b]at h;simp only at h;split at h
   .simp only[qT]at h;obtain⟨d,c,rfl⟩:=h;rw[lamsFs,nu ov (readTs_lams a ts ys b),readEs_lams l ts d c];rfl
   .cases h
end
def Gq{T:Ty}{t:Tr}{x:Va}(h:jf T t=some x):Fit T x/\x.size<=300:=by
 have⟨b,h2⟩:=vC h;refine⟨?_,h2⟩;unfold Fit qC;rw[b,qa3];unfold jf at h;split at h
 .cases a:readT t T with
  | none=>rw[a]at h;cases h
  | some y =>
   rw[a]at h;simp only at h;split at h
   .simp only[qq]at h;subst h;exact readT_lams t T y a
   .cases h
 .cases h
structure Mon (L:Lg) (f:Int):Prop where
 ge:∀i,i<12->0<=(L i).ji
 fe:0<=f
 sum:f+bu L 12=4000000
def rA{L:Lg}{i:Nat}{v:Int} : ∀n,bu (gY L i v) n=bu L n+(if i<n then v - (L i).ji else 0)
 | 0=>by simp[bu]
 | n+1=>by
  simp only[bu];rw[rA n];unfold gY
  by_cases e:n=i
  .subst e;simp;omega
  .rw[if_neg e]
   by_cases h:i<n
   .rw[if_pos h,oc];omega
   .rw[if_neg h,oa];omega
def Ib{L:Lg}(h:∀i,i<12->0<=(L i).ji):∀n,n<=12->0<=bu L n/\∀i,i<n->(L i).ji<=bu L n
 | 0,_=>⟨qd2 0,λi a=>od⟩
 | n+1,hn=>by
  have⟨b,h2⟩:=Ib h n od;have c:=h n od;simp only[bu];refine⟨od,λi a=>?_⟩
  by_cases e:i=n
  .subst e;omega
  .have:=h2 i od;omega
def Mon.shares{L:Lg}{f:Int}(h:Mon L f):qX L:=λi a=>by have b:=(Ib h.ge 12 (jn _)).2 i a;have h2:=h.sum;have c:=h.fe;exact⟨h.ge i a,od⟩
def Mon.fe4{L:Lg}{f:Int}(h:Mon L f):f<=4000000:=by have a:=(Ib h.ge 12 (jn _)).1;have h2:=h.sum;omega
def Mon.mov{L:Lg}{f n:Int}{i j:Nat}(h:Mon L f)(hi:i<12)(a:j<12)(e:0<=n)(g:n<=(L i).ji):Mon (mV L i j n) f:=by
 have c:=h.ge i hi;have d:=h.ge j a;refine⟨λk b=>?_,h.fe,?_⟩
 .have gk:=h.ge k b;unfold mV gY;dsimp only
  repeat' split
  all_goals (try dsimp only)
  all_goals omega
 .unfold mV;rw[rA,rA,if_pos hi,if_pos a];have:=h.sum;omega
def Mon.move{L:Lg}{f fr dn n:Int}(h:Mon L f):Mon (moveF L fr dn n).1 f:=by
 unfold moveF;split
 .rename_i a;rw[qv]at a;have⟨c,d⟩:=u6 a.1;have⟨e,g⟩:=u6 a.2;split
  .rename_i b;simp only[rf,jt]at b;split
   .exact h
   .exact h.mov od od b.1 od
  .exact h
 .exact h
def Mon.of{L L':Lg}{f:Int}(h:Mon L f)(e:∀i,i<12->(L' i).ji=(L i).ji):Mon L' f:=by
 have : ∀n,n<=12->bu L' n=bu L n:=λn=>by
  induction n with
  | zero=>intro _;rfl
  | succ n b=>intro hn;simp only[bu];rw[b od,e n od]
 exact⟨λi a=>by rw[e i a];exact h.ge i a,h.fe,by rw[this 12 (jn _)];exact h.sum⟩
structure GA (i:Nat) (A:Ac):Prop where
 per:A.is=1 ↔ i<4
 whole:iR A
 ok:JI A
 sm:A.is=2->vsum A.val<=200
structure GL (L:Lg) (f:Int):Prop where
 ac:∀i,i<12->GA i (L i)
 EX:Mon L f
def GL.good{L:Lg}{f:Int}(h:GL L f):yl L f:=by
 have e:=h.EX.shares;unfold yl zo;rw[qv,qv,qv];refine⟨⟨⟨?_,?_⟩,zj h.EX.sum⟩,?_⟩
 .simp only[ll,jt];exact⟨h.EX.fe,h.EX.fe4⟩
 .have : ∀d j,j+d<=12->UN L d j:=λd=>by
   induction d with
   | zero=>intro _ _;rfl
   | succ d a =>
    intro j c;rw[UN,a (j+1) od,ka0];simp only[ll,jt];exact e j od
  exact this 12 0 od
 .have : ∀d j,j+d<=12->ZK L d j:=λd=>by
   induction d with
   | zero=>intro _ _;rfl
   | succ d a =>
    intro j c;have b:=h.ac j od;rw[ZK,a (j+1) od,ka0,b.whole,ka0,jg2,qh7];exact b.per
  exact this 12 0 od
def GL.oks{L:Lg}{f:Int}(h:GL L f):∀i,i<12->JI (L i):=λi a=>(h.ac i a).ok
def JI.ji{A:Ac}(h:JI A)(v c:Int):JI { A with ji:=v,cnt:=c }:=⟨h.par,h.oh,h.co,h.val,h.zp,h.zs,h.zc,h.zv⟩
def Eh{A:Ac}(h:iR A):A.is=0\/A.is=1\/A.is=2:=by
 unfold iR at h;split at h
 .left;assumption
 .split at h
  .right;left;assumption
  .split at h
   .right;right;assumption
   .cases h
def GA.ji{i:Nat}{A:Ac}(h:GA i A)(h0:A.is≠0)(v:Int):GA i { A with ji:=v }:=by refine⟨h.per,?_,h.ok.ji v A.cnt,h.sm⟩;have a:=h.whole;unfold iR at a|-;rw[if_neg h0]at a|-;exact a
def GA.chg{i:Nat}{A:Ac}(h:GA i A)(b:A.is=1)(v:Int){c:Int}(hc:rf c):GA i { A with ji:=v,cnt:=c }:=by refine⟨h.per,?_,h.ok.ji v c,h.sm⟩;have a:=h.whole;unfold iR at a|-;rw[oa,if_pos b,qv]at a;rw[if_neg (by show ¬A.is=0;omega),if_pos b,qv];exact⟨hc,a.2⟩
def Ik{L:Lg}{n:Int}(h:ou L n):(L n.toNat).is≠0:=by simp only[ou,qv,qh1,qd6]at h;exact h.2
def GL.move{L:Lg}{f fr dn n:Int}(h:GL L f):GL (moveF L fr dn n).1 f:=by
 refine⟨λk b=>?_,h.EX.move⟩;unfold moveF;split
 .rename_i c;rw[qv]at c;have g:=Ik c.1;have d:=Ik c.2;split
  .split
   .exact h.ac k b
   .unfold mV gY;dsimp only;have a:=h.ac k b;split
    .rename_i e;subst e;split
     .exact a.ji d _
     .exact a.ji d _
    .split
     .rename_i e;subst e;exact a.ji g _
     .exact a
  .exact h.ac k b
 .exact h.ac k b
def GL.Br{L:Lg}{f:Int}{b:Bt}(h:GL L f)(j:mf L f b=0):GL (jo L b) (f+b.eD)/\b.src.toNat<4/\0<=b.src:=by
 have⟨g1,g2,g3,r,s,t⟩:=kM j;simp only[p8,qv,jt]at g2;have⟨⟨p,q⟩,d⟩:=g2;have hn:b.src.toNat<12:=od
 have a:=h.ac _ hn;have l:=a.per.1 d;refine⟨⟨λk n=>?_,?_⟩,l,p⟩
 .unfold jo;split
  .rename_i e;subst e;have c:=a.whole;unfold iR at c;rw[oa,if_pos d,qv]at c;have m:=c.1;simp only[rf,jt]at m;exact a.chg d _ (by simp only[rf,jt];omega)
  .exact h.ac k n
 .have o:Mon (gY L b.src.toNat ((L b.src.toNat).ji - b.eD)) (f+b.eD):=by
   refine⟨λi g=>?_,by have:=h.EX.fe;omega,?_⟩
   .have:=h.EX.ge i g;unfold gY;split
    .rename_i e;subst e;dsimp only;omega
    .exact this
   .rw[rA,if_pos hn];have:=h.EX.sum;omega
  refine o.of λi g=>?_;unfold jo gY;split
  .rename_i e;subst e;rfl
  .rfl
mutual
def same_n:∀t:Tr,Ot uK t t=0
 | .nd k n p s a=>by
  have h:uK (.nd k n p s a) (.nd k n p s a)=0:=by simp[uK]
  rw[Ot,if_neg (by rw[h];simp)];exact same_ns a
def same_ns:∀l:aE,jk uK l l=0
 | []=>by simp[jk]
 | t::l=>by rw[jk,if_neg (by rw[same_n t];simp)];exact same_ns l
end
mutual
def same_v:∀x:Va,qg uL x x=0
 | .mk k n a s b d c=>by
  have h:uL (.mk k n a s b d c) (.mk k n a s b d c)=0:=by simp[uL,sameTs_refl,same_ns]
  rw[qg,if_neg (by rw[h];simp)];exact same_vs b
def same_vs:∀l:ao,eO uL l l=0
 | []=>by simp[eO]
 | x::l=>by rw[eO,if_neg (by rw[same_v x];simp)];exact same_vs l
end
def ada(i:Nat)(p:Bool)(h:p=decide (i<4)):GA i (AB p):=by
 subst h;have c:okV (AB (decide (i<4))).val:=by simp[Ac.val,AB,okV,okVs,okTs,okNs,bD,maxLen,ByteArray.size]
 have a:okT (.nd 0 []):=by simp[okT,okTs,bD]
 have b:CJ (AB (decide (i<4))):=by unfold CJ;rw[show (AB (decide (i<4))).val=zeroVa from rfl,same_v];simp[AB,Ac.par,Ac.oh,sameT_refl]
 refine⟨?_,?_,⟨a,a,by simp[AB,okNs],c,?_,?_,?_,?_⟩,?_⟩
 .by_cases h:i<4<;>simp[AB,h]
 .unfold iR;rw[b]
  by_cases h:i<4<;>simp[AB,h,rf]
 .simp[AB,Ac.par,Ty.size,tysizes]
 .simp[AB,Ac.oh,Ty.size,tysizes]
 .simp[AB,sizes]
 .simp[AB,Ac.val,Va.size,vsizes,tysizes,sizes]
 .intro h2;by_cases h:i<4<;>simp[AB,h]at h2
def new_GL:GL newL 0:=by
 refine⟨λi a=>ada i _ rfl,⟨λi a=>?_,qd2 0,?_⟩⟩
 .unfold newL AB;by_cases h:i<4<;>simp[h]
 .simp[bu,newL,AB]
open Go.RowKit
def vsums_mem:∀{l:ao}{x:Va},x∈l->vsum x<=vsums l
 | y::l,x,h=>by
  simp only[vsums];rcases ke.1 h with rfl|h
  .omega
  .have:=vsums_mem h;omega
def uT{x v:Va}(h:x∈v.args):vsum x<=vsum v:=by have a:=vsums_mem h;have h2:=VD v;omega
@[reducible] def nrI (init:Va) (hk:init.k=11):Nr where
 q v:=vsum v<=200\/v=init
 ax v h hv x hx:=by
  rcases h with h|h
  .have:=uT hx;left;omega
  .rw[h]at hv;exact absurd hk hv
 sm T v hf hz hb:=by left;have⟨h1,h2⟩:=fit_size v T hf;unfold yN at hb;simp only[qd6]at hb;unfold wrap64 at hb;omega
structure acR (aC:Int) (S:Ty) (r:Rs):Prop where
 aC:0<=r.aC/\(r.aC=0\/r.aC<=aC)
 code:r.code=0\/r.code=10\/r.code=11\/r.code=12\/r.code=13
 ok:r.code=0->ED r.aO/\∃k n q z lo s ty cd,r.stack=[.mk k n q z [lo,s] ty cd]/\Fit S s/\vsum s<=200/\Fit (.nd 10 [.nd 8 []]) lo/\∀v∈lo.args,vsum v<=200
def XM{T E:Ty}(h:storeT T)(d:T.t=10)(c:T.args=[E]):E.t≠8:=by have⟨t,a⟩:=T;obtain rfl:t=10:=d;obtain rfl:a=[E]:=c;have⟨u,b⟩:=E;simp only[storeT,sW,ow,Ap,Kz,qv,qe6,jt]at h;have:=h.2;simp at this;exact this.1
def GN{A:Ac}(h:kP A):(tT A.par/\tT A.oh)/\Fit A.oh A.val/\∃f ts,codeF (lD A) [.nd 11 [A.par,A.oh]] =.ok f ts/\(f=false->ts=[TC A.oh]):=by
 unfold kP at h;rw[qv,qv,jt]at h;have⟨⟨a,h2⟩,_⟩:=h;unfold DR at a;split at a
 .rename_i d;rw[qv]at d;refine⟨d,h2,?_⟩;split at a
  .rename_i e c;exact absurd a (EO c)
  .rename_i f ts c;split at a
   .rename_i b;refine⟨f,ts,c,λg=>?_⟩;subst g;unfold rU at b;rw[jh7]at b;split at b
    .rw[sameT_eq _ _ b]
    .cases b
   .cases a
 .cases a
def KQ{i:Nat}{A:Ac}{en:En}{x:Va}{aC:Int}(r:GA i A)(U:A.is=2)(d:Ah en)(L:Fit A.par x)(hz:x.size<=120000):acR aC A.oh (Fy en (lD A) [.nd 11 [A.par,A.oh]] [aY x A.val] aC):=by
 have K:=r.whole;unfold iR at K;rw[oa,oa,if_pos U,qv]at K;have⟨⟨M,ks⟩,p,f,ts,b,I⟩:=GN K.2;have Z:au (.nd 11 [A.par,A.oh]):=by
  unfold codeF at b;split at b
  .cases b
  split at b
  .cases b
  split at b
  .cases b
  split at b
  .rename_i h;simpa using h
  .cases b
 have hF:FitS [.nd 11 [A.par,A.oh]] [aY x A.val]:=⟨qB Z L p,trivial⟩;have aa:=r.ok.zv;have H:(aY x A.val).size<=6000000:=by simp only[aY,mkV,Va.size,vsizes,tysizes,sizes];omega
 have hk:(aY x A.val).k=11:=rfl
 letI:=nrI (aY x A.val) hk
 have Y:Sq [aY x A.val]:=λv p=>by rw[qu]at p;subst p;exact⟨H,.inr rfl⟩
 have⟨N,g⟩:=Cg (aC:=aC) (z:=[TC A.oh]) (ad7 d) b (λh=>(I h).symm) oe hF Y;have hr:Fy en (lD A) [.nd 11 [A.par,A.oh]] [aY x A.val] aC=rsO (fq en aC N (jO [aY x A.val] (lD A).args0)):=by unfold Fy;rw[if_pos ⟨d,zb.2 ⟨⟨f,ts,b⟩,hF⟩⟩,xA (uW g)]
 rw[hr];generalize fq en aC N (jO [aY x A.val] (lD A).args0)=o at g
 cases o with
 | stuck=>exact g.elim
 | no e m =>
  have⟨hp,a⟩:=g;refine⟨hp,?_,λh=>?_⟩
  .show e=0\/_;rcases a with a|a|a|a
   .exact .inr (.inl a.1)
   .exact .inr (.inr (.inl a))
   .exact .inr (.inr (.inr (.inl a.1)))
   .exact .inr (.inr (.inr (.inr a)))
  .have h:e=0:=h;rcases a with a|a|a|a<;>omega
 | go m =>
  have⟨w,C,D,F,G,_⟩:=g;refine⟨⟨D,F⟩,.inl rfl,λ_=>⟨C,?_⟩⟩;have⟨v,l,O,f1,hl⟩:=av w;have y:l=[]:=by have:=fitS_len hl;simpa using this.symm
  subst y;have⟨P,S,j,s,Q,R,f2,f3⟩:=uX f1 rfl;simp only[TC,Ty.args,qb6,and_true]at Q;obtain⟨rfl,rfl⟩:=Q;have⟨E,T,_,W⟩:=jr f2 rfl;simp only[Ty.args,qb6,and_true]at T;subst T;have c:=(G v (by rw[O];simp)).2;have⟨k,n,q,z,az,ty,cd⟩:=v;simp only[Va.args]at R;subst R;refine⟨k,n,q,z,j,s,ty,cd,O,f3,?_,f2,λu J=>?_⟩
  .rcases c with c|c
   .have:=uT (x:=s) (v:=.mk k n q z [j,s] ty cd) (by simp[Va.args]);omega
   .have : s=A.val:=by
     have h:=congrArg Va.args c;simp only[Va.args,aY,mkV,qb6,and_true]at h;exact h.2
    rw[this];exact r.sm U
  .rcases c with c|c
   .have h5:=uT (x:=j) (v:=.mk k n q z [j,s] ty cd) (by simp[Va.args]);have h6:=uT J;omega
   .have B:j=x:=by
     have h:=congrArg Va.args c;simp only[Va.args,aY,mkV,qb6,and_true]at h;exact h.1
    subst B;have V:A.par.t=10:=by rw[<-tV L,tV f2];rfl
    have⟨E,g1,_,g3⟩:=jr L V;have X:E.t=8:=by rw[<-tV (g3 u J),tV (W u J)];rfl
    unfold tT at M;rw[qv]at M;exact absurd X (XM M.2 V g1)
structure WI (W:Wk):Prop where
 gl:GL W.L W.fe
 aC:W.aC<=50000
 paid:0<=W.paid/\W.paid<=W.aC
 Ze:ED W.Ze
def RQ:Rq->Prop
 | .op _ o=>Ch o
 | .told _ v=>Fit (.nd 8 []) v/\vsum v<=200
def XK{v:Va}(h:Fit (.nd 8 []) v):∃A y,v.types=[A]/\v.args=[y]/\Fit A y:=by
 have⟨_,h2,⟨i,a,d⟩,_⟩:=iO h;unfold eX at h2;simp only[qv]at h2;have b:=h2.1.2;unfold eZ at b;rw[if_pos (show (Ty.nd 8 []).t=8 from rfl)]at b;unfold bS at a;rw[if_pos (show (Ty.nd 8 []).t=8 from rfl)]at a;split at a
 .rename_i g;simp only[qq]at a;subst a;unfold oneGood at b;split at b
  .cases b
  .rename_i A e;rw[e]at d g|-;have⟨y,l,f,f1,c⟩:=av d;have : l=[]:=by have:=fitS_len c;simpa using this.symm
   subst this;exact⟨A,y,rfl,f,f1⟩
  .cases b
 .cases a
def Hg{T:Ty}{v:Va}(h:Fit T v)(b:vsum v<=200):v.size<=120000:=by have⟨a,_⟩:=fit_size v T h;omega
structure yT (W:Wk) (z:Wk×List Rq×Int):Prop where
 wi:WI z.1
 same:z.1.src=W.src/\z.1.aC=W.aC/\z.1.done=W.done/\z.1.fe=W.fe
 paid:W.paid<=z.1.paid
 made:z.1.made.length<=W.made.length+1
 new:z.2.2≠0->z.2.1=[]
 rq:∀r∈z.2.1,RQ r
 few:z.2.1.length<=24
 code:z.2.2≠14
def Y5{e:Int}(h:e=0\/e=10\/e=11\/e=12\/e=13):e≠14:=od
def yT.err{W a:Wk}{e:Int}(h:WI a)(f:a.src=W.src/\a.aC=W.aC/\a.done=W.done/\a.fe=W.fe)(c:W.paid<=a.paid)(hm:a.made.length<=W.made.length+1)(b:e≠14):yT W (a,[],e) :=
 ⟨h,f,c,hm,λ_=>rfl,λr d=>(by cases d),yb _,b⟩
def GA.oh{i:Nat}{A:Ac}(h:GA i A)(f:A.is=2){s:Va}(d:Fit A.oh s)(g:vsum s<=200):GA i { A with k:=s.k,n:=s.n,a:=s.a,s:=s.s,az:=s.args,ty:=s.types,cd:=s.code }:=by have b:({ A with k:=s.k,n:=s.n,a:=s.a,s:=s.s,az:=s.args,ty:=s.types,cd:=s.code } : Ac).val=s:=(Va.eta s).symm;have j:=Hg d g;refine⟨h.per,?_,⟨h.ok.par,h.ok.oh,h.ok.co,by rw[b];exact fit_ok _ (jn _) d,h.ok.zp,h.ok.zs,h.ok.zc,by rw[b];omega⟩,λ_=>by rw[b];exact g⟩;have c:=h.whole;unfold iR at c|-;rw[oa,oa,if_pos f,qv]at c;rw[if_neg (by show ¬A.is=0;omega),if_neg (by show ¬A.is=1;omega),if_pos f,qv];refine⟨c.1,?_⟩;have e:=c.2;unfold kP at e|-;rw[b];rw[qv,qv]at e|-;refine⟨⟨e.1.1,d⟩,zj ?_⟩;unfold wrap64;omega
def GL.oh{L:Lg}{f:Int}{i:Nat}{s:Va}(h:GL L f)(hi:i<12)(b:(L i).is=2)(c:Fit (L i).oh s)(d:vsum s<=200):GL (NY L i s) f:=by
 refine⟨λk a=>?_,h.EX.of λk a=>?_⟩
 .unfold NY;split
  .rename_i e;subst e;exact (h.ac k a).oh b c d
  .exact h.ac k a
 .unfold NY;split
  .rename_i e;subst e;rfl
  .rfl
def aal{a b:Int}(h:(addN a b).2=0):ED (addN a b).1\/¬(0<=a/\0<=b):=by
 by_cases c:0<=a/\0<=b
 .left;unfold addN kF at h|-;split at h
  .split at h
   .rename_i d h2;rw[if_pos d,if_pos h2];simp[kE]at h2;exact⟨ON,h2.2⟩
   .cases h
  .cases h
 .exact .inr c
def V6{a b:Int} : (addN a b).2≠14:=by
 unfold addN kF;split
 .split<;>(dsimp only;decide)
 .dsimp only;decide
def OH{W:Wk}{i:Nat}{en:En}{x:Va}(hW:WI W)(hi:i<12)(e:(W.L i).is=2)(a:Ah en)(u:Fit (W.L i).par x)(w:x.size<=120000):yT W (pK W i en x):=by
 have f:=KQ (aC:=W.aC - W.paid) (hW.gl.ac i hi) e a u w;unfold pK;generalize Fy en (lD (W.L i)) [.nd 11 [(W.L i).par,(W.L i).oh]] [aY x (W.L i).val] (W.aC - W.paid)=r at f;have⟨B,o,c⟩:=f;have C:=hW.paid;have d:0<=W.paid+r.aC/\W.paid+r.aC<=W.aC:=od
 unfold Kk;split
 .rename_i h0;have⟨p,k,n,q,z,y,s,ty,cd,j,f1,f2,f3,l⟩:=c h0;split
  .rename_i m;rw[j];dsimp only;have b:ED (addN W.Ze r.aO).1:=by
    rcases aal m with h|h
    .exact h
    .exact absurd ⟨hW.Ze.1,p.1⟩ h
   have⟨A,g1,g2,g3⟩:=jr f3 rfl;simp only[Ty.args,qb6,and_true]at g1;subst g1;refine⟨⟨hW.gl.oh hi e f1 f2,hW.aC,d,b⟩,⟨rfl,rfl,rfl,rfl⟩,by show W.paid<=W.paid+r.aC;omega,by show W.made.length<=_;omega,λh=>absurd rfl h,λr t=>?_,by show (y.args.map _).length<=24;rw[xj];exact g2,show (0:Int)≠14 by decide⟩;obtain⟨v,g,rfl⟩:=kl.1 t;exact⟨g3 v g,l v g⟩
  .exact .err ⟨hW.gl,hW.aC,d,hW.Ze⟩ ⟨rfl,rfl,rfl,rfl⟩ (by show W.paid<=W.paid+r.aC;omega) (by show W.made.length<=_;omega) V6
 .exact .err ⟨hW.gl,hW.aC,d,hW.Ze⟩ ⟨rfl,rfl,rfl,rfl⟩ (by show W.paid<=W.paid+r.aC;omega) (by show W.made.length<=_;omega) (Y5 o)
def Gh{L:Lg}{fr dn n:Int}(h:(moveF L fr dn n).2=0):(0<=fr/\fr<12)/\(0<=dn/\dn<12)/\(0<=n/\n<=1152921504606846976)/\(L dn.toNat).is≠0/\(moveF L fr dn n).1=mV L fr.toNat dn.toNat n:=by
 unfold moveF at h|-;split at h
 .rename_i a;split at h
  .rename_i b;split at h
   .cases h
   .rename_i c;rw[if_pos a,if_pos b,if_neg c];rw[qv]at a;simp only[rf,jt]at b;exact⟨u6 a.1,u6 a.2,b,Ik a.2,rfl⟩
  .cases h
 .cases h
def Gd{L:Lg}{fr dn n:Int} : (moveF L fr dn n).2≠14:=by
 unfold moveF
 repeat' split
 all_goals (dsimp only;decide)
def Qa{L:Lg}{i j:Nat}{n:Int}(k:Nat):(mV L i j n k).is=(L k).is:=by
 unfold mV gY;dsimp only
 repeat' split
 all_goals first|rfl|(rename_i e;subst e;rfl)|(rename_i e a;subst e;subst a;rfl)
def OA{W:Wk}{r:Rq}{i:Nat}{x:Va}(d:RQ r)(h:argF r (W.L i).par=some x):Fit (W.L i).par x/\x.size<=120000:=by
 cases r with
 | op f o =>
  have⟨a,h2⟩:=Gq h;exact⟨a,od⟩
 | told f v =>
  have⟨a,h2⟩:=d;have⟨A,y,c,b,f1⟩:=XK a;simp only[argF,c,b]at h;rw[show bB [A] 0=A from rfl]at h;split at h
  .rename_i e;simp only[qq,List.headD_cons]at h;subst h;rw[<-sameT_eq _ _ e];have:=uT (x:=y) (v:=v) (by rw[b];simp);exact⟨f1,Hg f1 od⟩
  .cases h
def Rj{W:Wk}{r:Rq}(hW:WI W)(k:RQ r):yT W (mW W r):=by
 unfold mW;have b:=hW.gl.move (fr:=r.fr) (dn:=r.dst) (n:=r.lG);split
 .rename_i h0;have⟨m,o,p,e,f⟩:=Gh h0;have a:WI { W with L:=(moveF W.L r.fr r.dst r.lG).1 }:=⟨b,hW.aC,hW.paid,hW.Ze⟩;have c:r.dst.toNat<12:=by omega
  have i:((moveF W.L r.fr r.dst r.lG).1 r.dst.toNat).is≠0:=by rw[f,Qa];exact e
  generalize (moveF W.L r.fr r.dst r.lG).1=L2 at b a i;unfold Cr
  cases d:argF r (qO (L2 r.dst.toNat))with
  | none=>exact .err a ⟨rfl,rfl,rfl,rfl⟩ (qd2 _) (ka5 _) ov
  | some x =>
   dsimp only;split
   .exact .err a ⟨rfl,rfl,rfl,rfl⟩ (qd2 _) (ka5 _) ov
   .rename_i g;have j:=b.ac _ c;have h2:(L2 r.dst.toNat).is=2:=by rcases Eh j.whole with h|h|h<;>omega
    have l:qO (L2 r.dst.toNat)=(L2 r.dst.toNat).par:=by unfold qO;rw[if_neg g];rfl
    rw[l]at d;have⟨f1,f2⟩:=OA (W:={ W with L:=L2 }) k d;have q:=b.EX.shares _ c;have h:=OH (W:={ W with L:=L2 }) (en:=⟨r.dst.toNat,r.fr,r.lG,(L2 r.dst.toNat).ji⟩) a c h2 Kf f1 f2;exact⟨h.wi,h.same,h.paid,h.made,h.new,h.rq,h.few,h.code⟩
 .exact .err hW ⟨rfl,rfl,rfl,rfl⟩ (qd2 _) (ka5 _) Gd
def Xh{n:Tr}{s ts:aw}{f:Bool}(h:codeF n s =.ok f ts):n =.nd 3 0 0 ⟨#[]⟩ n.args0:=by
 unfold codeF at h;split at h
 .cases h
 rename_i g;split at h
 .cases h
 rename_i e;have c:=(iV (by simpa using g)).1;have⟨k,n,p,s,a⟩:=n;simp only[Tr.k0,ne_eq,Decidable.not_not]at e;subst e;simp only[bC]at c;split at c
 .cases c
 .split at c
  .rename_i h;exact absurd c h
  .rename_i b;simp only[ne_eq,Decidable.not_not]at b;unfold Lf.fD at b;split at b
   .cases b
   split at b
   .cases b
   split at b
   .cases b
   rename_i d;unfold Lf.qM at d;simp at d;obtain⟨rfl,rfl,i⟩:=d;rw[i];rfl
def Xm{o:lI}{A:Ac}{i:Nat}(q:Ch o)(h:ku o =.ok A)(hi:4<=i):GA i A/\A.is=2/\A.ji=0:=by
 unfold ku at h;split at h
 .split at h
  .split at h
   .rename_i v w a;split at h
    .rename_i x t;split at h
     .cases h
     .rename_i b;simp only[jf4]at h;subst h;have l:=a;unfold DR at a;split at a
      .rename_i k;rw[qv]at k;split at a
       .rename_i e j;exact absurd a (EO j)
       .rename_i f y j;have hn:=Xh j;have⟨f1,f2⟩:=Gq t;have m:au (kreadT o.p):=by have:=k.1;unfold tT at this;rw[qv]at this;exact this.1
        have n:au (kreadT o.s):=by have:=k.2;unfold tT at this;rw[qv]at this;exact this.1
        have z:=(dE m).2.1;have B:=(dE n).2.1;have g:(acN (kreadT o.p) (kreadT o.s) o.code.args0 x).par=kreadT o.p:=by cases kreadT o.p;rfl
        have es:(acN (kreadT o.p) (kreadT o.s) o.code.args0 x).oh=kreadT o.s:=by cases kreadT o.s;rfl
        have d:(acN (kreadT o.p) (kreadT o.s) o.code.args0 x).val=x:=(Va.eta x).symm;have ec:lD (acN (kreadT o.p) (kreadT o.s) o.code.args0 x)=o.code:=hn.symm;have r:vsum x<=200:=by
         have⟨u,h2⟩:=fit_size x _ f1;have b:yN x=false:=by simpa using b
         unfold yN at b;simp only[qd6]at b;unfold wrap64 at b;omega
        refine⟨⟨⟨λh=>absurd (show (2:Int)=1 from h) ov,λh=>absurd h od⟩,?_,⟨by rw[g];exact oM m,by rw[es];exact oM n,?_,by rw[d];exact fit_ok _ (jn _) f1,by rw[g];omega,by rw[es];omega,?_,by rw[d];omega⟩,λ_=>by rw[d];exact r⟩,rfl,rfl⟩
        .unfold iR;rw[if_neg (by show ¬(2:Int)=0;decide),if_neg (by show ¬(2:Int)=1;decide),if_pos (by rfl),qv];refine⟨zj rfl,?_⟩;unfold kP;rw[g,es,d,ec,l,qv,qv];refine⟨⟨rfl,f1⟩,zj ?_⟩;unfold wrap64;omega
        .show okNs o.code.args0;have:=q.c;rw[hn]at this;exact this.2
        .show sizes o.code.args0<=3000000;have:=q.zc;rw[hn]at this;simp only[Tr.size]at this;omega
      .cases a
    .cases h
   .cases h
  .cases h
 .cases h
def Im{L:Lg} : ∀n j,j+n=12->ib L n j<12->(L (ib L n j)).is=0
 | 0,j,h,h2=>by simp only[ib]at h2;omega
 | n+1,j,h,h2=>by
  simp only[ib]at h2|-;split
  .assumption
  .rename_i a;rw[if_neg a]at h2;exact Im n (j+1) od h2
def GL.set{L:Lg}{f:Int}{i:Nat}{A:Ac}(h:GL L f)(hi:i<12)(c:(L i).is=0)(d:GA i A)(hb:A.ji=0):GL (vU L i A) f:=by
 refine⟨λk a=>?_,h.EX.of λk a=>?_⟩
 .unfold vU;split
  .rename_i e;subst e;exact d
  .exact h.ac k a
 .unfold vU;split
  .rename_i e;subst e;have b:=(h.ac k a).whole;unfold iR at b;rw[if_pos c,qv,qv,jt]at b;rw[hb,b.1.1]
  .rfl
def aa6{k n p:Int}{s:bp}{l:Nat} : Lf.fD k n p s l≠14:=by
 unfold Lf.fD
 repeat' split
 all_goals decide
mutual
def first14:∀(t:Tr) (d:Nat),bC d t≠14
 | .nd k n p s a,d=>by
  simp only[bC];split
  .decide
  .split
   .exact aa6
   .exact firsts14 a (d+1)
def firsts14:∀(l:aE) (d:Nat),bG d l≠14
 | [],_=>by simp only[bG];decide
 | t::l,d=>by
  simp only[bG];split
  .exact first14 t d
  .exact firsts14 l d
end
def aau{n:Tr}{s:aw}{e:Int}(h:codeF n s =.no e):e≠14:=by
 unfold codeF at h;split at h
 .cases h;unfold dS;split
  .exact first14 _ _
  .split<;>decide
 .split at h
  .cases h;decide
  .split at h
   .cases h;decide
   .split at h
    .rename_i a;rcases (Ii (K_step 300) _ false s a).1 e h with rfl|rfl|rfl|rfl<;>decide
    .cases h;decide
def acI{P S:Ty}{n:Tr} : DR P S n≠14:=by
 unfold DR;split
 .split
  .rename_i e h;exact aau h
  .split<;>decide
 .decide
def ND{o:lI}{e:Int}(h:ku o =.error e):e≠14:=by
 unfold ku at h;split at h
 .split at h
  .split at h
   .split at h
    .split at h<;>cases h;decide
    .cases h;decide
   .cases h;exact acI
  .cases h;decide
 .cases h;decide
def aaO{W:Wk}{o:lI}(hW:WI W)(p:Ch o):yT W ((wy W o).1,[],(wy W o).2):=by
 unfold wy
 cases c:ku o with
 | error e=>exact .err hW ⟨rfl,rfl,rfl,rfl⟩ (qd2 _) (ka5 _) (ND c)
 | ok A =>
  dsimp only;split
  .exact .err hW ⟨rfl,rfl,rfl,rfl⟩ (Int.le_refl _) (Nat.le_succ _) (by dsimp only;decide)
  .rename_i d;have m:ib W.L 12 0<=12:=by
    have : ∀n j,j+n=12->ib W.L n j<=12:=λn=>by
     induction n with
     | zero=>intro j h;simp only[ib];omega
     | succ n q=>intro j h;simp only[ib];split;omega;exact q (j+1) od
    exact this 12 0 rfl
   have a:ib W.L 12 0<12:=od
   have h0:=Im 12 0 rfl a;generalize ib W.L 12 0=i at a h0;have f:4<=i:=by have:=(hW.gl.ac i a).per;omega
   have⟨g,_,l⟩:=Xm p c f;have b:=hW.gl.set a h0 g l;have k:=b.move (fr:=W.src) (dn:=i) (n:=o.lG);unfold aaJ;split
   .exact .err ⟨k,hW.aC,hW.paid,hW.Ze⟩ ⟨rfl,rfl,rfl,rfl⟩ (Int.le_refl _) (by show (W.made++[(i:Int)]).length<=_;simp) (by dsimp only;decide)
   .exact .err ⟨b,hW.aC,hW.paid,hW.Ze⟩ ⟨rfl,rfl,rfl,rfl⟩ (qd2 _) (ka5 _) Gd
def F9{W:Wk}{r:Rq}(hW:WI W)(a:RQ r):yT W (yS W r):=by
 cases r with
 | told f v=>exact Rj hW a
 | op f o =>
  simp only[yS];split
  .exact Rj hW a
  .split
   .exact aaO hW a
   .exact .err hW ⟨rfl,rfl,rfl,rfl⟩ (qd2 _) (ka5 _) ov
def RO{n:Int}(h:-1000000000<=n/\n<=1000000000):bD n:=⟨od,od⟩
def abW{W:Wk}{i:Nat}{en:En}{x:Va}(hW:WI W)(hi:i<12)(B:(W.L i).is=2)(g:Ah en)(d:en.self=(i:Int))(u:Fit (W.L i).par x)(G:x.size<=120000):ClH i en x (pK W i en x).2.1 (pK W i en x).2.2 (I4 2900070 W) (I4 2900170 (pK W i en x).1):=by
 have c:=hW.gl.ac i hi;have O:=hW.paid;have M:=hW.aC;have p:=KQ (aC:=W.aC - W.paid) c B g u G;have C:okN (lD (W.L i)):=⟨⟨⟨ov,ov⟩,⟨ov,ov⟩,⟨ov,ov⟩,yb _⟩,c.ok.co⟩;have D:okTs [.nd 11 [(W.L i).par,(W.L i).oh]]:=⟨⟨⟨ov,ov⟩,c.ok.par,c.ok.oh,trivial⟩,trivial⟩;have E:okVs [aY x (W.L i).val]:=⟨⟨⟨⟨ov,ov⟩,⟨ov,ov⟩,⟨ov,ov⟩,yb _⟩,⟨fit_ok _ (jn _) u,c.ok.val,trivial⟩,trivial,trivial⟩,trivial⟩;have h:=aac (VK (en:=en) (aC:=W.aC - W.paid) C (by have:=c.ok.zc;simp only[lD,Tr.size];omega) D E oe (λy v=>by rw[qu]at v;subst v;have:=c.ok.zv;simp only[aY,mkV,Va.size,vsizes,tysizes,sizes];omega) (RO od) od);unfold pK;generalize Fy en (lD (W.L i)) [.nd 11 [(W.L i).par,(W.L i).oh]] [aY x (W.L i).val] (W.aC - W.paid)=r at p h;have⟨F,K,l⟩:=p;have i2:mD (lW (IntKind.i64.wrap (W.aC - W.paid))) (iA (W.aC - W.paid)):=yY (zF rfl od od);have i3:mD (lW (IntKind.i64.wrap (W.paid+r.aC))) (iA (W.paid+r.aC)):=yY (zF rfl od od);have b:=VI W.Ze r.aO;unfold Kk
 by_cases f:r.code=0
 .rw[if_pos f];have⟨N,k,n,q,z,H,s,P,I,m,f1,f2,f3,J⟩:=l f;have⟨A,g1,g2,g3⟩:=jr f3 rfl;generalize addN W.Ze r.aO=w at b|-;have⟨a,e⟩:=w;dsimp only at b|-
  by_cases j:e=0
  .rw[if_pos j];subst j;rw[m];dsimp only;have o:=Nn (i:=en.self) (t:=H.args) od;rw[d]at o;exact acV h hi i2 i3 f b m d (by rw[d];exact o)
  .rw[if_neg j];exact aar h hi i2 i3 f b j
 .rw[if_neg f];exact aaq h hi i2 i3 f
def R6{W:Wk}{i:Nat}{en:En}{x:Va} : (pK W i en x).1.made=W.made:=by
 unfold pK Kk
 repeat' split
 all_goals rfl
def RQ.ok{r:Rq}(h:RQ r):RqOk r:=by
 cases r with
 | op f o=>exact⟨h.a,h.za⟩
 | told f v =>
  have⟨A,y,b,c,f1⟩:=XK h.1;have:=(dE (je f1)).2.1;exact⟨A,y,b,c,od⟩
def Yu{A:Ac}(h:JI A):okT (qO A):=by
 unfold qO;split
 .exact⟨⟨ov,ov⟩,trivial⟩
 .exact h.par
def Vy{W:Wk}{r:Rq}(hW:WI W)(G:RQ r):UH r (mW W r).2.1 (mW W r).2.2 (I4 2900070 W) (I4 2900170 (mW W r).1):=by
 have j:=Vx r;have c:=Vq (f:=W.fe) (fr:=r.fr) (dn:=r.dst) (n:=r.lG) hW.gl.EX.shares;have u:=hW.gl.move (fr:=r.fr) (dn:=r.dst) (n:=r.lG);unfold mW
 by_cases h0:(moveF W.L r.fr r.dst r.lG).2=0
 .rw[if_pos h0];have⟨K,M,N,H,I⟩:=Gh h0;have b:r.dst.toNat<12:=by omega
  have E:((moveF W.L r.fr r.dst r.lG).1 r.dst.toNat).is≠0:=by rw[I,Qa];exact H
  rw[h0]at c;have F:r.dst=Int.ofNat r.dst.toNat:=ot
  generalize (moveF W.L r.fr r.dst r.lG).1=a at u E c|-;generalize r.dst.toNat=i at b F E|-;rw[F]at j c;have q:=VV (L:=a) (f:=W.fe) (s:=W.src) (g:=W.aC) (d:=W.done) (p:=W.paid) (m:=W.Ze) (md:=mdOf W.made) b;have k:=Mh G.ok (Yu (u.ac i b).ok);unfold Cr;dsimp only
  cases A:argF r (qO (a i))with
  | none =>
   rw[A]at k
   cases r with
   | op f o=>exact Zq b j c q k
   | told f v=>exact Zr b j c q k
  | some x =>
   rw[A]at k;dsimp only
   by_cases t:(a i).is=1
   .rw[if_pos t];have i1:jJ (decide ((a i).is=1)) true:=eT (zj t)
    cases r with
    | op f o=>exact Uy b j c q k i1
    | told f v=>exact UB b j c q k i1
   .rw[if_neg t];have i1:jJ (decide ((a i).is=1)) false:=eT (xb t);have w:WI { W with L:=a }:=⟨u,hW.aC,hW.paid,hW.Ze⟩;have h2:(a i).is=2:=by rcases Eh (u.ac i b).whole with h|h|h<;>omega
    have D:qO (a i)=(a i).par:=by unfold qO;rw[if_neg t];rfl
    rw[D]at A;have⟨f1,f2⟩:=OA (W:={ W with L:=a }) G A;have R:=u.EX.shares i b;have y:=abW (W:={ W with L:=a }) (en:=⟨i,r.fr,r.lG,(a i).ji⟩) w b h2 Kf rfl f1 f2;have C:=(OH (W:={ W with L:=a }) (en:=⟨i,r.fr,r.lG,(a i).ji⟩) w b h2 Kf f1 f2).same;have B:(pK { W with L:=a } i ⟨i,r.fr,r.lG,(a i).ji⟩ x).1.made=W.made:=R6;generalize pK { W with L:=a } i ⟨i,r.fr,r.lG,(a i).ji⟩ x=z at y C B|-;have⟨⟨J,P,sz,Q,O,T,S,made⟩,l,e⟩:=z;dsimp only at C B y|-;obtain⟨rfl,rfl,rfl,rfl⟩:=C;subst B
    cases r with
    | op f o=>exact Uv b j c q k i1 y
    | told f v=>exact Uw b j c q k i1 y
 .rw[if_neg h0];exact aa4 j c h0
def adE{W:Wk}{r:Rq}(hW:WI W)(c:W.made.length<=100)(b:RQ r):UU r (yS W r).2.1 (yS W r).2.2 (I4 2900070 W) (I4 2900170 (yS W r).1):=by
 cases r with
 | told f v=>exact aay (Vy hW b)
 | op f o =>
  simp only[yS]
  by_cases a:o.kind=1
  .rw[if_pos a];exact aaz (Vy hW b) a
  .rw[if_neg a]
   by_cases h2:o.kind=2
   .rw[if_pos h2];exact aax (ab2 b hW.gl.EX.shares c) h2
   .rw[if_neg h2];exact aaw a h2
structure WP (W:Wk):Prop extends WI W where
 done:0<=W.done/\W.done<=24
 made:(W.made.length:Int)<=W.done
def PW (W:Wk) (rs:List Rq):Prop:=WP W/\∀r∈rs,RQ r
def QW (W:Wk) (os:List lI):Prop:=WP W/\∀o∈os,Ch o
def way:Way PW where
 dos a _:=adE a.1.toWI (by have:=a.1.done;have:=a.1.made;omega) (a.2 _ oe)
 err a:=(F9 a.1.toWI (a.2 _ oe)).new
 few a:=(F9 a.1.toWI (a.2 _ oe)).few
 done a:=(F9 a.1.toWI (a.2 _ oe)).same.2.2.1
 next a c _:=by
  have h:=F9 a.1.toWI (a.2 _ (ja3 ..));have⟨g,s2,s3,i⟩:=h.same;have e:=a.1.done;have f:=a.1.made;have d:=h.made;refine⟨⟨⟨h.wi.gl,h.wi.aC,h.wi.paid,h.wi.Ze⟩,ON,ON⟩,λr b=>?_⟩;rcases ka.1 b with b|b
  .exact a.2 r (by simp[b])
  .exact h.rq r b
structure abd (W:Wk) (z:Wk×Int):Prop where
 wi:WI z.1
 wp:z.2=0->WP z.1
 same:z.1.src=W.src/\z.1.aC=W.aC/\z.1.fe=W.fe
 paid:W.paid<=z.1.paid
 code:z.2≠14
def row_ok:∀(N:Nat) (W:Wk) (rs:List Rq),PW W rs->(24 - W.done).toNat+2<=N->abd W (rowF N W rs)
 | 0,W,rs,a,h=>od
 | N+1,W,[],a,_=>⟨a.1.toWI,λ_=>a.1,⟨rfl,rfl,rfl⟩,qd2 _,by simp only[rowF];decide⟩
 | N+1,W,r::rs,a,n=>by
  have h:=F9 a.1.toWI (a.2 _ (ja3 ..));have i:=@Way.next _ way W r rs a
  have⟨f,s2,s3,g⟩:=h.same;have o:=a.1.done;have p:=a.1.made;have j:=h.made;have e:=h.paid;simp only[rowF];split
  .exact⟨a.1.toWI,λh=>absurd (show (7:Int)=0 from h) ov,⟨rfl,rfl,rfl⟩,Int.le_refl _,by dsimp only;decide⟩
  .rename_i c;split
   .rename_i d;have b:=row_ok N _ _ (i c d) ON;have⟨k,l,m⟩:=b.same;have i1:=b.paid;exact⟨b.wi,b.wp,⟨k.trans f,l.trans s2,m.trans g⟩,by dsimp only at i1;omega,b.code⟩
   .rename_i d;exact⟨h.wi,λh=>absurd h d,⟨f,s2,g⟩,e,h.code⟩
def all_ok:∀(os:List lI) (W:Wk),QW W os->abd W (doneF W os)
 | [],W,a=>⟨a.1.toWI,λ_=>a.1,⟨rfl,rfl,rfl⟩,qd2 _,by simp only[doneF];decide⟩
 | o::os,W,a=>by
  have k:=a.1.done;have h:=row_ok 26 W [.op W.src o] ⟨a.1,λr c=>by rw[qu]at c;subst c;exact a.2 o oe⟩ od;have⟨f,s2,s3⟩:=h.same;have l:=h.paid;simp only[doneF];split
  .rename_i d;have b:=all_ok os _ ⟨h.wp d,λo e=>a.2 o (by simp[e])⟩;have⟨g,i,j⟩:=b.same;have i1:=b.paid;exact⟨b.wi,b.wp,⟨g.trans f,i.trans s2,j.trans s3⟩,od,b.code⟩
  .exact h
def wayC:aak QW where
 row a:=ab4 way ⟨a.1,λr b=>by rw[qu]at b;subst b;exact a.2 _ oe⟩ a.1.done
 next a c:=by have e:=a.1.done;exact⟨(row_ok 26 _ _ ⟨a.1,λr b=>by rw[qu]at b;subst b;exact a.2 _ oe⟩ od).wp c,λo d=>a.2 o (by simp[d])⟩
structure pg (b:Bt):Prop where
 ops:∀o∈b.ops,Ch o
 aC:b.aC<=50000
def qF{L:Lg}{f:Int}{b:Bt}(h:GL L f)(hb:pg b)(a:mf L f b=0):QW ⟨jo L b,f+b.eD,b.src,b.aC,0,0,0,[]⟩ b.ops:=by have c:=(kM a).2.2.2.1;exact⟨⟨⟨(h.Br a).1,hb.aC,⟨qd2 0,c.2.1⟩,⟨qd2 0,by show (0:Int)<=1152921504606846976;decide⟩⟩,⟨qd2 0,by show (0:Int)<=24;decide⟩,qd2 0⟩,hb.ops⟩
def l6{L:Lg}{f:Int}{b:Bt}(h:GL L f)(hb:pg b):GL (bn L f b).1 (bn L f b).2.1:=by
 unfold bn;split
 .rename_i a;have c:=all_ok b.ops _ (qF h hb a);split
  .exact c.wi.gl
  .exact (h.Br a).1
 .exact h
def BV{L:Lg}{f:Int}{b:Bt}(h:GL L f)(hb:pg b):Mg L f b (bn L f b).1 (bn L f b).2.1 (Me (bn L f b).2.2):=ZZ wayC h.oks (qF h hb)
