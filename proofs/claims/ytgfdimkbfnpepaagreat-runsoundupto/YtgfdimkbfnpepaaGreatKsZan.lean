import Derived.Test.YtgfdimkbfnpepaaGreatKsZam
import Derived.RangeFuncFrom
import Derived.RangeFuncNested
import Derived.RangeFuncBound
import Derived.RangeFuncCalls
import Derived.RangeFuncLeaves
import Derived.RangeFuncBox
import Derived.Shelf.Abstract
import Derived.Shelf.RegionOpen
import Derived.OwnWalkIn
import Derived.TacticsInMore
import Derived.LoopNIn
import Derived.LoopIn
namespace Go.Proofs.YtgfdimkbfnpepaaGreat
set_option linter.all false
open Go.Proofs.Tryz
set_option maxRecDepth 100000
set_option maxHeartbeats 100000000
open Go.ChangeShapes Go.WideShapes Go.ChangeAt Go.RowKit
def Mg{a b:ByteArray}(h:a.toList=b.toList):a=b:=by
 have c:a.data=b.data:=by apply Array.ext';rw[jb0,jb0]at h;exact h
 cases a;cases b;simp_all
def uK (x y:Tr):Int:=if kN x=kN y/\nN x=nN y/\pN x=pN y/\(sN x).toList=(sN y).toList then 0 else 1
def uL (x y:Va):Int:=if (x.k=y.k/\x.n=y.n/\x.a=y.a/\x.s.toList=y.s.toList)/\sameTs x.types y.types=true/\jk uK x.code y.code=0 then 0 else 1
def ent_sc2:∀args w,(callFunc 62 args).run prog w =.ok (.enter 62 args) w:=λargs w=>OK
def ent_same1g:∀args w,(callFunc 37 args).run prog w =.ok (.enter 37 args) w:=λargs w=>OK
def QP{w:World}{x y:Tr}{u v:Value}(P:bI (λ_=>True) w x u)(Q:bI (λ_=>True) w y v)(W:World) :
 Calls prog 62 #[u,v] W λe w'=>e =.returned (.i (uK x y))/\W.grownBy w' none:=by
 cases P with
 | @mk l m n o args a c L V M O S R T K N =>
 cases Q with
 | @mk p r s t f X Y A U B D F E G z C =>
 generalize I:uK _ _=q;have b:Hid (q=if l=p/\m=r/\n=s/\o.toList=t.toList then 0 else 1):=I.symm;clear I K N z C S R T F E G M B L A O D;generalize args.length=Z at *;generalize f.length=yl at *;unfold af at *
 by_cases h:l=p
 case neg =>
  have H:(l==p)=false:=by simpa using h
  have J:(l != p)=true:=by simpa using h
  have d:Hid (q=1):=by show q=1;rw[b.out,if_neg (λe=>h e.1)]
  clear b;go_enter func62,ntmps62;go_wp2_with fail;go_ret;exact Lf.lX d.symm (aJ (aK _) (aK _))
 subst h
 by_cases j:m=r
 case neg =>
  have H:(m==r)=false:=by simpa using j
  have J:(m != r)=true:=by simpa using j
  have d:Hid (q=1):=by show q=1;rw[b.out,if_neg (λe=>j e.2.1)]
  clear b;go_enter func62,ntmps62;go_wp2_with fail;go_ret;exact Lf.lX d.symm (aJ (aK _) (aK _))
 subst j
 by_cases k:n=s
 case neg =>
  have H:(n==s)=false:=by simpa using k
  have J:(n != s)=true:=by simpa using k
  have d:Hid (q=1):=by show q=1;rw[b.out,if_neg (λe=>k e.2.2.1)]
  clear b;go_enter func62,ntmps62;go_wp2_with fail;go_ret;exact Lf.lX d.symm (aJ (aK _) (aK _))
 subst k
 by_cases g:o.toList=t.toList
 case neg =>
  have z3:¬o.toList=t.toList:=g;have H:(o.toList==t.toList)=false:=by simpa using g
  have d:Hid (q=1):=by show q=1;rw[b.out,if_neg (λe=>g e.2.2.2)]
  clear b;go_enter func62,ntmps62;go_wp2_with fail;go_ret;exact Lf.lX d.symm (aJ (aK _) (aK _))
 obtain rfl:=Mg g;have d:Hid (q=0):=by show q=0;rw[b.out,if_pos ⟨rfl,rfl,rfl,rfl⟩]
 clear b g;go_enter func62,ntmps62;go_wp2_with fail;go_ret;exact Lf.lX d.symm (aJ (aK _) (aK _))
def Fz{w:World}{xs ys:List Tr}{a b:Option Addr}{ca cb:Nat}{V n:Nat->Value}(c:xs.length<=ca)(d:ys.length<=cb)(f:cK (λ_=>True) w xs a V)(g:cK (λ_=>True) w ys b n)(l:sizes xs<=20000000)(W:World)(i:w.grownBy W none) :
 Calls prog 40 #[.slice a xs.length ca,.slice b ys.length cb] W λe w'=>e =.returned (.bool (decide (jk uK xs ys=0)))/\W.grownBy w' none:=by
 have H:=jh (λj (h:W.grownBy j none)=>Ov uK 62 ent_sc2 (w0:=j) c d (f.same (ni (aJ i h))) (g.same (ni (aJ i h))) (λx y u v o p f g _=>QP f g o) l);clear f g l i c d;generalize jk uK xs ys=r at *;generalize xs.length=s at *;generalize ys.length=t at *;go_enter func40,ntmps40;go_wp2_with fail;refine (H _ (bM _ _)).mono ?_;rintro e q ⟨rfl,k⟩;have m:=jh k;clear k;go_wp2_with fail;go_ret;exact Lf.kZ (by rw[qc4];simp) m
def aA.EN{ok:Nat->Prop}{w:World}{x:Va}{v:Value}(h:aA ok w x v):∃aa ac ta tc na nc VT VN,v=Go.Proofs.YtgfdimkbfnpepaaGreat.bg x.k x.n x.a x.s aa x.args.length ac ta x.types.length tc na x.code.length nc/\(x.code.length<=nc/\x.types.length<=tc)/\dw ok w x.types ta VT/\cK ok w x.code na VN:=by
 cases h with
 | mk V VT VN e c g l i j b hN d f=>exact⟨_,_,_,_,_,_,VT,VN,rfl,oS,b,hN⟩
def Kn{w:World}{x y:Va}{u v:Value}(hx:aA (λ_=>True) w x u)(hy:aA (λ_=>True) w y v)(hz:x.size<=20000000)(W:World)(T:w.grownBy W none) :
 Calls prog 37 #[u,v] W λe w'=>e =.returned (.i (uL x y))/\W.grownBy w' none:=by
 obtain⟨aa,ac,ta,tc,na,nc,VT,VN,rfl,⟨hk,_⟩,hT,hN⟩:=hx.EN;obtain⟨D,E,G,A,F,z,ad,ab,rfl,⟨L,_⟩,K,J⟩:=hy.EN;have U:=eP x;have B:=jh (λH (h:W.grownBy H none)=>tY (ca:=tc) (cb:=A) hT K od H (aJ T h));have r:=jh (λH (h:W.grownBy H none)=>Fz (ca:=nc) (cb:=z) hk L hN J od H (aJ T h));have hR:uL x y=if (x.k=y.k/\x.n=y.n/\x.a=y.a/\x.s.toList=y.s.toList)/\sameTs x.types y.types=true/\jk uK x.code y.code=0 then 0 else 1:=rfl
 clear hx hy hT K hN J hk L hz T U;generalize uL x y=q at *;have d:=jh hR;clear hR;generalize sameTs x.types y.types=st at *;generalize jk uK x.code y.code=sn at *;generalize x.k=m at *;generalize y.k=Y at *;generalize x.n=o at *;generalize y.n=yn at *;generalize x.a=l at *;generalize y.a=V at *;generalize x.s=p at *;generalize y.s=ys at *;generalize x.args.length=R at *;generalize y.args.length=Z at *;generalize x.types.length=S at *;generalize y.types.length=yt at *;generalize x.code.length=Q at *;generalize y.code.length=X at *;unfold bg at *
 by_cases M:m=Y
 case neg =>
  have z1:(m==Y)=false:=by simpa using M
  have z2:(m != Y)=true:=by simpa using M
  have g:Hid (q=1):=by show q=1;rw[d.out,if_neg (λe=>M e.1.1)]
  clear d B r;go_enter func37,ntmps37;go_wp2_with fail;go_ret;exact Lf.lX g.symm (aJ (aK _) (aK _))
 subst M
 by_cases N:o=yn
 case neg =>
  have z1:(o==yn)=false:=by simpa using N
  have z2:(o != yn)=true:=by simpa using N
  have g:Hid (q=1):=by show q=1;rw[d.out,if_neg (λe=>N e.1.2.1)]
  clear d B r;go_enter func37,ntmps37;go_wp2_with fail;go_ret;exact Lf.lX g.symm (aJ (aK _) (aK _))
 subst N
 by_cases O:l=V
 case neg =>
  have z1:(l==V)=false:=by simpa using O
  have z2:(l != V)=true:=by simpa using O
  have g:Hid (q=1):=by show q=1;rw[d.out,if_neg (λe=>O e.1.2.2.1)]
  clear d B r;go_enter func37,ntmps37;go_wp2_with fail;go_ret;exact Lf.lX g.symm (aJ (aK _) (aK _))
 subst O
 by_cases I:p.toList=ys.toList
 case neg =>
  have z3:¬p.toList=ys.toList:=I;have z1:(p.toList==ys.toList)=false:=by simpa using I
  have g:Hid (q=1):=by show q=1;rw[d.out,if_neg (λe=>I e.1.2.2.2)]
  clear d B r;go_enter func37,ntmps37;go_wp2_with fail;go_ret;exact Lf.lX g.symm (aJ (aK _) (aK _))
 obtain rfl:=Mg I;clear I;obtain⟨f,t,j⟩:=JY (aJ (aK (w:=W) (.cells #[.i m,.i o,.i l,.string p,.slice aa R ac,.slice ta S tc,.slice na Q nc] 36)) (aK (.cells #[.i m,.i o,.i l,.string p,.slice D Z E,.slice G yt A,.slice F X z] 36))) (CJ W (.cells #[.i m,.i o,.i l,.string p,.slice aa R ac,.slice ta S tc,.slice na Q nc] 36) (.cells #[.i m,.i o,.i l,.string p,.slice D Z E,.slice G yt A,.slice F X z] 36)) (qT (W.alloc (.cells #[.i m,.i o,.i l,.string p,.slice aa R ac,.slice ta S tc,.slice na Q nc] 36)) (.cells #[.i m,.i o,.i l,.string p,.slice D Z E,.slice G yt A,.slice F X z] 36));rw[show (W.alloc (.cells #[.i m,.i o,.i l,.string p,.slice aa R ac,.slice ta S tc,.slice na Q nc] 36)).heap.size=W.heap.size+1 from by simp]at j
 cases st with
 | false =>
  have g:Hid (q=1):=by show q=1;rw[d.out,if_neg (λe=>by have:=e.2.1;cases this)]
  clear d r;go_enter func37,ntmps37;go_wp2_with fail;refine (B _ f).mono ?_;rintro e w1 ⟨rfl,b⟩;have c:=jh (aJ f b);clear b;go_wp2_with fail;go_ret;exact Lf.lX g.symm c
 | true =>
  by_cases P:sn=0
  .subst P;have g:Hid (q=0):=by show q=0;rw[d.out,if_pos ⟨⟨rfl,rfl,rfl,rfl⟩,rfl,rfl⟩]
   rw[je7 rfl]at r;clear d;go_enter func37,ntmps37;go_wp2_with fail;refine (B _ f).mono ?_;rintro e w1 ⟨rfl,b⟩;obtain⟨_,_,_,_,_,_,m6⟩:=cO ((b.block _ (qq.1 t).1 ot).trans t);obtain⟨_,_,_,_,_,_,r6⟩:=cO ((b.block _ (qq.1 j).1 ot).trans j);have c:=jh (aJ f b);clear b;go_wp2_with fail;refine (r _ c).mono ?_;rintro e w2 ⟨rfl,b⟩;have C:=jh (aJ c b);clear b;go_wp2_with fail;go_ret;exact Lf.lX g.symm C
  .have g:Hid (q=1):=by show q=1;rw[d.out,if_neg (λe=>P e.2.2)]
   rw[jc2 P]at r;clear d P;go_enter func37,ntmps37;go_wp2_with fail;refine (B _ f).mono ?_;rintro e w1 ⟨rfl,b⟩;obtain⟨_,_,_,_,_,_,m6⟩:=cO ((b.block _ (qq.1 t).1 ot).trans t);obtain⟨_,_,_,_,_,_,r6⟩:=cO ((b.block _ (qq.1 j).1 ot).trans j);have c:=jh (aJ f b);clear b;go_wp2_with fail;refine (r _ c).mono ?_;rintro e w2 ⟨rfl,b⟩;have C:=jh (aJ c b);clear b;go_wp2_with fail;go_ret;exact Lf.lX g.symm C
def Oo{w:World}{x y:Va}{u v:Value}(j:aA (λ_=>True) w x u)(k:aA (λ_=>True) w y v)(L:x.size<=20000000)(W:World)(s:w.grownBy W none) :
 Calls prog 16 #[u,v] W λe w'=>e =.returned (.bool (decide (qg uL x y=0)))/\W.grownBy w' none:=by
 obtain⟨Z,n1,R,s1,l,p,n,F,fE,H,z,D,B,rfl⟩:=j.bg;obtain⟨k2,n2,S,s2,m,q,o,G,sM,I,A,E,C,rfl⟩:=k.bg;obtain⟨O,P,J⟩:=JY (aA.up j s) (aA.up k s) L;have K:∀(a:World) (b c:Nat) (d f:Nat),W.grownBy a none->1<=d->1<=f->a.heap[b]?=some (.cells #[.i Z,.i n1,.i R,.string s1,.slice l p n,.slice F fE H,.slice z D B] 36 (0,0))->a.heap[c]?=some (.cells #[.i k2,.i n2,.i S,.string s2,.slice m q o,.slice G sM I,.slice A E C] 36 (0,0)) ->
  Calls prog 35 #[.slice (some ⟨b,0,none⟩) 1 d,.slice (some ⟨c,0,none⟩) 1 f,.func (.func 36) #[] #[],.func (.func 37) #[] #[]] a λe w'=>e =.returned (.i (qg uL x y))/\a.grownBy w' none:=by
  intro a b c d f g T U X Y;have h:=Im uL 37 ent_same1g (w0:=a) (xs:=[x]) (ys:=[y]) (ca:=d) (cb:=f) T U (vF X (aA.up O g)) (vF Y (aA.up P g)) (λx' y' u v Q V j k t=>Kn j k (by have:=J.out;simp[vsizes]at t;omega) Q V) (by have:=J.out;simp[vsizes];omega);rw[Eg]at h;exact h
 have N:=jh K;clear K j k L s;generalize qg uL x y=r at *;unfold bg at *;go_enter func16,ntmps16;go_wp2_with fail;refine (N _ _ _ 1 1 (aJ (aJ (aJ (aK _) (aK _)) (aK _)) (aK _)) (qv _) (qv _) (kH _ _ _ _ _) (xV _ _ _ _ _)).mono ?_;rintro e w1 ⟨rfl,g⟩;have M:=jh (aJ (aJ (aJ (aJ (aK _) (aK _)) (aK _)) (aK _)) g);clear g;go_wp2_with fail;go_ret;exact Lf.kZ (by rw[qc4];simp) M
open Go.RowKit
def Ij (x y:Va):Bool:=decide (qg uL x y=0)
structure En where
 self:Int
 sender:Int
 amount:Int
 balance:Int
structure Fr where
 rest:List Tr
 op:Int
 row:List Tr
 aside:List Va
structure Ma where
 paid:Int
 aO:Int
 said:Va
 st:List Va
 fr:List Fr
inductive Out where
 | stuck
 | no (e:Int) (m:Ma)
 | go (m:Ma)
def mkV (k:Int) (args:List Va):Va:=.mk k 0 0 ⟨#[]⟩ args [] []
def aW (k n:Int):Va:=.mk k n 0 ⟨#[]⟩ [] [] []
def aV (v:Va):Va:=mkV 9 [v]
def noneV:Va:=mkV 9 []
def aY (a b:Va):Va:=mkV 11 [a,b]
def di (s:ByteArray):Va:=.mk 6 0 0 s [] [] []
def aZ (b:Bool):Va:=aW 2 (if b=true then 1 else 0)
def nE (n:Int) (v:Va):Va:=.mk 12 n 0 ⟨#[]⟩ [v] [] []
def aM (a n:Int) (v:Va):Va:=.mk 15 n a ⟨#[]⟩ [v] [] []
def yN (v:Va):Bool:=decide (200<wrap64 (vsum v:Nat))
def bz (m:Ma) (l:List Va):Out:=if 20000000<vsizes l then .stuck else if l.any yN=true then .no 13 m else .go { m with st:=l++m.st }
def uH (aC:Int) (m:Ma) (k:Ma->Out):Out:=if aC<=m.paid then .no 12 m else k { m with paid:=m.paid+1 }
def dK (n:Tr) (i:Nat):Tr:=(n.args0[i]?).getD tr0
def p9 (n:Tr) (m:Ma):Out :=
 if n.p0=40 then (match m.st with
  | _::s=>.go { m with st:=s }
  | []=>.stuck)
 else if n.p0=41 then (if 1<=(dK n 0).n0 then (match m.st[(dK n 0).n0.toNat - 1]? with
  | some v=>bz m [v]
  | none=>.stuck)else .stuck)
 else if n.p0=42 then (match m.st with
  | a::b::s=>bz { m with st:=s } [b,a]
  | _=>.stuck)
 else if n.p0=43 then (if 0<=(dK n 0).n0 then (match m.st[(dK n 0).n0.toNat]? with
  | some v=>.go { m with st:=v::m.st.eraseIdx (dK n 0).n0.toNat }
  | none=>.stuck)else .stuck)
 else (match m.st with
  | v::s=>if 0<=(dK n 0).n0/\(dK n 0).n0<=s.length then .go { m with st:=s.take (dK n 0).n0.toNat++v::s.drop (dK n 0).n0.toNat } else .stuck
  | []=>.stuck)
def l8 (p:Int) (m:Ma):Out :=
 if p=54 then bz m [noneV]else match m.st with
 | []=>.stuck
 | a::s =>
  if p=46 then (match s with
   | b::s=>bz { m with st:=s } [aY a b]
   | []=>.stuck)
  else if p=48 then (match a.args with
   | x::_=>bz { m with st:=s } [x]
   | []=>.stuck)
  else if p=49 then (match a.args with
   | _::y::_=>bz { m with st:=s } [y]
   | _=>.stuck)
  else if p=50 then bz { m with st:=s } [nE 0 a]
  else if p=51 then bz { m with st:=s } [nE 1 a]
  else if p=53 then bz { m with st:=s } [aV a]
  else bz { m with st:=s } a.args
def jP (m:Ma) (k:Int) (l:List Va):Out:=if 24<l.length then .no 13 m else bz m [mkV k l]
def kz (l:List Va) (key:Va):Nat:=(l.takeWhile λx=>decide (gT (fU x) key<0)).length
def fJ (l:List Va) (key:Va):Bool:=match l[kz l key]? with
 | some x=>decide (gT (fU x) key=0)
 | none=>false
def uO (l:List Va) (key:Va) (item:List Va):List Va:=l.take (kz l key)++(item.map (aY key)++l.drop (if fJ l key=true then kz l key+1 else kz l key))
def il (p:Int) (m:Ma):Out :=
 if p=56 then bz m [mkV 10 []]else if p=61 then bz m [mkV 13 []]else match m.st with
 | []=>.stuck
 | a::s =>
  if p=59 then bz { m with st:=s } [aW 4 (a.s.size+a.args.length:Nat)]
  else match s with
  | []=>.stuck
  | b::s =>
   if p=57 then jP { m with st:=s } 10 (a::b.args)
   else if p=62 then (if risesF b.args=true then (if fJ b.args a=true then (match b.args[kz b.args a]? with
    | some x=>(match x.args with
     | _::y::_=>bz { m with st:=s } [aV y]
     | _=>.stuck)
    | none=>.stuck)else bz { m with st:=s } [noneV])else .stuck)
   else (match s with
    | c::s=>if risesF c.args=true then jP { m with st:=s } 13 (uO c.args a b.args)else .stuck
    | []=>.stuck)
def ru (p:Int) (v:Va):Nat×List Va :=
 if p=52 then (v.n.toNat,v.args)else if p=55 then (v.args.length,v.args)else if p=64 then (if v.n=1 then 0 else 1,v.args)
 else match v.args with
  | []=>(1,[])
  | x::l=>(0,[x,mkV 10 l])
def gJ (n:Tr) (m:Ma):Out:=match m.st with
 | []=>.stuck
 | v::s=>match n.args0[(ru n.p0 v).1]? with
  | none=>.stuck
  | some t=>if n.p0=52/\v.n<0 then .stuck else bz { m with st:=s,fr:=⟨t.args0,0,[],[]⟩::m.fr } (ru n.p0 v).2
def mq (n:Tr) (m:Ma):Out :=
 if n.p0=60 then (match m.st with
  | v::s=>.go { m with st:=s,fr:=⟨[],60,(dK n 0).args0,v.args⟩::m.fr }
  | []=>.stuck)
 else if n.p0=65 then .go { m with fr:=⟨[],65,(dK n 0).args0,[]⟩::m.fr }
 else if n.p0=68 then (match m.st with
  | v::s=>.go { m with st:=s,fr:=⟨(dK n 0).args0,68,[],[v]⟩::m.fr }
  | []=>.stuck)
 else if n.p0=67 then (match m.st with
  | a::b::s=>.go { m with st:=[a],fr:=⟨b.code,67,[],s.reverse⟩::m.fr }
  | _=>.stuck)
 else bz m [.mk 14 0 0 ⟨#[]⟩ [] [kreadT (dK n 0),kreadT (dK n 1)] (dK n 2).args0]
def kF (n:Int):Int×Int:=if kE n=true then (n,0)else (0,11)
def addN (a b:Int):Int×Int:=if kE a=true/\kE b=true then kF (a+b)else (0,2)
def Iu (a b:Int):Int×Int:=if kE a=true/\kE b=true then kF (a - b)else (0,2)
def mulN (a b:Int):Int×Int:=if kE a=true/\kE b=true then kF (a*b)else (0,2)
def EJ (a:Int):Int×Int:=if kE a=true then ((a.natAbs:Int),0)else (0,2)
def iU (p a b:Int):Int×Int:=if p=69 then addN a b else if p=70 then Iu a b else mulN a b
def mK (p a b:Int):Int:=if a=5\/b=5 then 5 else if p≠70/\a=4/\b=4 then 4 else 3
def oV (m:Ma) (k:Int) (r:Int×Int):Out:=if r.2=0 then bz m [aW k r.1]else .no r.2 m
def rH (a b:Int):Int×Int:=if a=5/\b=5 then (4,5)else if a=5 then (5,5)else if a=4/\b=4 then (4,4)else (3,4)
def Gu (m:Ma) (a b:Va):Out :=
 if kE a.n=true/\kE b.n=true then (if b.n=0 then bz m [noneV]
  else bz m [aV (aY (aW (rH a.k b.k).1 (a.n / b.n)) (aW (rH a.k b.k).2 (a.n % b.n)))])else .no 2 m
def gL (p:Int) (m:Ma):Out:=match m.st with
 | []=>.stuck
 | a::s =>
  if p=93 then oV { m with st:=s } 4 (EJ a.n)
  else if p=94 then bz { m with st:=s } [if a.n<0 then noneV else aV (aW 4 a.n)]
  else if p=95 then bz { m with st:=s } [aW 3 a.n]
  else match s with
  | []=>.stuck
  | b::s =>
   if p=72 then Gu { m with st:=s } a b
   else if p=70/\a.k=5 then bz { m with st:=s } [if (iU p a.n b.n).1<0 then noneV else aV (aW 5 (iU p a.n b.n).1)]
   else oV { m with st:=s } (mK p a.k b.k) (iU p a.n b.n)
def kJ (v:Va):Bool:=decide (v.n=1)
def xm (p:Int) (m:Ma):Out:=match m.st with
 | []=>.stuck
 | a::s =>
  if p=74 then bz { m with st:=s } [aZ (decide (a.n=0))]
  else if p=75 then bz { m with st:=s } [aZ (decide (a.n<0))]
  else if p=76 then bz { m with st:=s } [aZ (decide (0<a.n))]
  else if p=77 then bz { m with st:=s } [aZ (!kJ a)]
  else match s with
  | []=>.stuck
  | b::s =>
   if p=73 then bz { m with st:=s } [aW 3 (gT a b)]
   else if p=78 then bz { m with st:=s } [aZ (kJ a&&kJ b)]
   else bz { m with st:=s } [aZ (kJ a||kJ b)]
def oz (v:Va):Option ByteArray:=if dS (dR v)=0/\(encTr (dR v)).length<=199 then some ⟨(5::encTr (dR v)).toArray⟩else none
def jQ (n:Tr) (m:Ma):Out :=
 if n.p0=45 then (match jf (kreadT (dK n 0)) (dK n 1)with
  | some v=>bz m [v]
  | none=>.stuck)
 else match m.st with
 | []=>.stuck
 | a::s =>
  if n.p0=80 then (match s with
   | b::s=>if 200<a.s.size+b.s.size then .no 13 m else bz { m with st:=s } [di (a.s++b.s)]
   | []=>.stuck)
  else if n.p0=81 then (if (dR a).size<=301 then (match oz a with
   | some t=>bz { m with st:=s } [di t]
   | none=>.no 13 m)else .stuck)
  else if n.p0=82 then (match jw (kreadT (dK n 0)) a.s.toList with
   | some v=>bz { m with st:=s } [aV v]
   | none=>bz { m with st:=s } [noneV])
  else .no 10 { m with said:=a }
def iB (en:En) (p:Int) (m:Ma):Out:=match m.st with
 | []=>.stuck
 | a::s =>
  if p=84 then (match s with
   | b::s=>if b.n=0 then bz { m with st:=s } [noneV]else if (addN m.aO b.n).2=0 then bz { m with st:=s,aO:=(addN m.aO b.n).1 } [aV (aM en.self b.n a)]else .no (addN m.aO b.n).2 m
   | []=>.stuck)
  else if p=85 then (match a.args with
   | x::_=>bz { m with st:=s } [aY (aW 7 a.a) (aY x (aW 4 a.n)),a]
   | []=>.stuck)
  else if p=86 then (match s,a.args with
   | b::s,x::_=>(match b.args with
    | y::z::_=>if y.n=0\/z.n=0\/wrap64 (y.n+z.n)≠a.n then bz { m with st:=s } [noneV]else bz { m with st:=s } [aV (aY (aM a.a y.n x) (aM a.a z.n x))]
    | _=>.stuck)
   | _,_=>.stuck)
  else (match a.args with
   | y::z::_=>(match y.args,z.args with
    | u::_,v::_=>if y.a≠z.a\/Ij u v=false then bz { m with st:=s } [noneV]else if (addN y.n z.n).2=0 then bz { m with st:=s } [aV (aM y.a (addN y.n z.n).1 u)]else .no (addN y.n z.n).2 m
    | _,_=>.stuck)
   | _=>.stuck)
def iw (en:En) (n:Tr) (m:Ma):Out :=
 if n.p0=89 then bz m [aW 7 en.self]else if n.p0=90 then bz m [aW 7 en.sender]else if n.p0=91 then bz m [aW 5 en.amount]else if n.p0=92 then bz m [aW 5 en.balance]
 else match m.st with
 | v::a::t::s=>bz { m with st:=s } [.mk 8 a.n t.n ⟨#[]⟩ [v] [kreadT (dK n 0)] []]
 | _=>.stuck
def Qy (en:En) (n:Tr) (m:Ma):Out :=
 if n.p0=40\/n.p0=41\/n.p0=42\/n.p0=43\/n.p0=44 then p9 n m
 else if n.p0=46\/n.p0=47\/n.p0=48\/n.p0=49\/n.p0=50\/n.p0=51\/n.p0=53\/n.p0=54 then l8 n.p0 m
 else if n.p0=56\/n.p0=57\/n.p0=59\/n.p0=61\/n.p0=62\/n.p0=63 then il n.p0 m
 else if n.p0=52\/n.p0=55\/n.p0=58\/n.p0=64 then gJ n m
 else if n.p0=60\/n.p0=65\/n.p0=66\/n.p0=67\/n.p0=68 then mq n m
 else if n.p0=69\/n.p0=70\/n.p0=71\/n.p0=72\/n.p0=93\/n.p0=94\/n.p0=95 then gL n.p0 m
 else if n.p0=73\/n.p0=74\/n.p0=75\/n.p0=76\/n.p0=77\/n.p0=78\/n.p0=79 then xm n.p0 m
 else if n.p0=45\/n.p0=80\/n.p0=81\/n.p0=82\/n.p0=83 then jQ n m
 else if n.p0=84\/n.p0=85\/n.p0=86\/n.p0=87 then iB en n.p0 m
 else iw en n m
def Iq (en:En) (aC:Int) (n:Tr) (m:Ma):Out :=
 if n.k0=3 then .go { m with fr:=⟨n.args0,0,[],[]⟩::m.fr } else uH aC m (Qy en n)
def Bz (aC:Int) (f:Fr) (fs:List Fr) (m:Ma):Out :=
 if f.op=60 then (match f.aside with
  | x::l=>uH aC { m with st:=x::m.st,fr:=⟨f.row,60,f.row,l⟩::fs } .go
  | []=>.go { m with fr:=fs })
 else if f.op=65 then (match m.st with
  | v::s=>if kJ v=true then uH aC { m with st:=s,fr:=⟨f.row,65,f.row,f.aside⟩::fs } .go else .go { m with st:=s,fr:=fs }
  | []=>.stuck)
 else if f.op=68 then .go { m with st:=f.aside.reverse++m.st,fr:=fs }
 else if f.op=67 then .go { m with st:=m.st++f.aside.reverse,fr:=fs }
 else .go { m with fr:=fs }
def uB (en:En) (aC:Int) (m:Ma):Out:=match m.fr with
 | []=>.stuck
 | f::fs=>match f.rest with
  | []=>Bz aC f fs m
  | n::l=>Iq en aC n { m with fr:=⟨l,f.op,f.row,f.aside⟩::fs }
def fq (en:En) (aC:Int):Nat->Ma->Out
 | 0,_=>.stuck
 | N+1,m=>match m.fr with
  | []=>.go m
  | _::_=>match uB en aC m with
   | .go m'=>fq en aC N m'
   | .no e m'=>.no e m'
   | .stuck=>.stuck
structure dB (O:Nat->Prop) (w:World) (O':Nat->Prop) (w':World):Prop where
 os:w'.os=w.os
 tape:w'.tape=w.tape
 output:w'.output=w.output
 size:w.heap.size<=w'.heap.size
 block:∀b,b<w.heap.size->¬O b->w'.heap[b]?=w.heap[b]?
 new:∀b,O' b->O b\/w.heap.size<=b
def dB.refl(O:Nat->Prop)(w:World):dB O w O w:=⟨rfl,rfl,rfl,qv _,λ_ _ _=>rfl,λ_ h=>.inl h⟩
def dB.trans{O d e:Nat->Prop}{w i j:World}(h:dB O w d i)(k:dB d i e j):dB O w e j :=
 ⟨k.os.trans h.os,k.tape.trans h.tape,k.output.trans h.output,ki h.size k.size,λb c g=>(k.block b (jz c h.size) (λa=>by rcases h.new b a with f|f;exact g f;omega)).trans (h.block b c g),
  λb c=>by
   rcases k.new b c with a|a
   .exact h.new b a
   .exact .inr (ki h.size a)⟩
def dB.grow{O:Nat->Prop}{w w':World}(h:w.grownBy w' none):dB O w O w':=⟨h.os,h.tape,h.output,h.size,λb a _=>h.block b a ot,λ_ h=>.inl h⟩
def dB.ofRow{O:Nat->Prop}{w w':World}{r:Option Nat}(h:w.grownBy w' r)(d:∀g,r=some g->O g):dB O w O w' :=
 ⟨h.os,h.tape,h.output,h.size,λb c a=>h.block b c (λe=>a (d b e.symm)),λ_ h=>.inl h⟩
def qx (O:Nat->Prop) (v v':Value):Nat->Prop:=λb=>(O b/\v.ownBlock≠some b)\/v'.ownBlock=some b
def dB.gr{O:Nat->Prop}{w w':World}{v v':Value}(h:Gr w v w' v')(c:∀g,v.ownBlock=some g->O g):dB O w (qx O v v') w' :=
 ⟨h.1.os,h.1.tape,h.1.output,h.1.size,λb a d=>h.1.block b a (λe=>d (c b e.symm)),λb a=>by
  rcases a with a|a
  .exact .inl a.1
  .rcases h.2 with e|⟨g,e,f⟩
   .rw[e]at a;exact .inl (c b a)
   .rw[e]at a;simp only[qk]at a;exact .inr od⟩
def dB.same{O c:Nat->Prop}{w w':World}(h:dB O w c w'):Same (λb=>¬O b) w w':=λb o d a=>qn (h.block b a d)
def dB.lies{O c:Nat->Prop}{w w':World}{x:Va}{u:Value}(h:dB O w c w')(i:aA (λb=>¬O b) w x u):aA (λb=>¬c b) w' x u :=
 ((i.ae (ok':=λb=>¬O b/\¬c b) (λb a f=>⟨f,λg=>by rcases h.new b g with e|e;exact f e;omega⟩)).same (λb o a d=>h.same b o a.1 d)).ae (λb _ a=>a.2)
def dB.Kl{O d:Nat->Prop}{w w':World}{l:List Tr}{a:Option Addr}{V:Nat->Value}(h:dB O w d w')(j:cK (λb=>¬O b) w l a V):cK (λb=>¬d b) w' l a V :=
 ((j.ae (ok':=λb=>¬O b/\¬d b) (λb c g=>⟨g,λi=>by rcases h.new b i with f|f;exact g f;omega⟩)).same (λb o c e=>h.same b o c.1 e)).ae (λb _ c=>c.2)
def dB.U5{O d:Nat->Prop}{w w':World}{l:List Va}{a:Option Addr}{V:Nat->Value}(h:dB O w d w')(j:aT (λb=>¬O b) w l a V):aT (λb=>¬d b) w' l a V :=
 ((j.ae (ok':=λb=>¬O b/\¬d b) (λb c g=>⟨g,λi=>by rcases h.new b i with f|f;exact g f;omega⟩)).same (λb o c e=>h.same b o c.1 e)).ae (λb _ c=>c.2)
def fe (w:World) (b:Nat):Prop:=∃cs e fz,w.heap[b]?=some (.cells cs e fz)/\2<=cs.size
def qz{w:World}{b o:Nat}{u v:Value}(f:w.cell? ⟨b,o,none⟩=some u)(h:w.cell? ⟨b,o+1,none⟩=some v):fe w b:=by
 unfold World.cell? at h
 cases a:w.heap[b]? with
 | none=>simp[a]at h
 | some d =>
  cases d with
  | cells cs e c =>
   refine⟨cs,e,c,a,?_⟩;simp only[a]at h;have:=(qq.1 h).1;omega
  | _=>simp[a]at h
def bI.LM{ok ok':Nat->Prop}{w:World}{t:Tr}{v:Value}(h:bI ok w t v)(r:∀b,fe w b->ok b->ok' b):bI ok' w t v:=by
 induction h with
 | mk V q f A y B j _ z =>
  refine .mk (hk:=by assumption) V q f A y B (λi m=>?_) z;obtain⟨b,o,u,g,k,n,p,s,a,l,c,x,d,e⟩:=j i m;exact⟨b,o,u,r b (qz d e.1) g,k,n,p,s,a,l,c,x,d,e⟩
def cK.LM{ok ok':Nat->Prop}{w:World}{l:List Tr}{a:Option Addr}{V:Nat->Value}(h:cK ok w l a V)(g:∀b,fe w b->ok b->ok' b):cK ok' w l a V :=
 ⟨h.1,λi d=>by obtain⟨b,o,m,j,k,n,p,s,a,l,c,q,e,f⟩:=h.2.1 i d;exact⟨b,o,m,g b (qz e f.1) j,k,n,p,s,a,l,c,q,e,f⟩,λi d=>(h.2.2 i d).LM g⟩
def aH.LM{ok ok':Nat->Prop}{w:World}{t:Ty}{v:Value}(h:aH ok w t v)(p:∀b,fe w b->ok b->ok' b):aH ok' w t v:=by
 induction h with
 | mk V n d u j _ s =>
  refine .mk V n d u (λi m=>?_) s;obtain⟨b,o,q,g,k,a,l,c,r,e,f⟩:=j i m;exact⟨b,o,q,p b (qz e f) g,k,a,l,c,r,e,f⟩
def dw.LM{ok ok':Nat->Prop}{w:World}{l:List Ty}{a:Option Addr}{V:Nat->Value}(h:dw ok w l a V)(g:∀b,fe w b->ok b->ok' b):dw ok' w l a V :=
 ⟨h.1,λi d=>by obtain⟨b,o,m,j,k,a,l,c,n,e,f⟩:=h.2.1 i d;exact⟨b,o,m,g b (qz e f) j,k,a,l,c,n,e,f⟩,λi d=>(h.2.2 i d).LM g⟩
def aA.LM{ok ok':Nat->Prop}{w:World}{t:Va}{v:Value}(h:aA ok w t v)(d:∀b,fe w b->ok b->ok' b):aA ok' w t v:=by
 induction h with
 | mk V j g u c l C z A m hN q _ B =>
  refine .mk (hnk:=by assumption) V j g u c l C z A (m.LM d) (hN.LM d) (λi r=>?_) B;obtain⟨b,o,x,p,k,n,a,s,aa,al,ac,ta,tl,tc,na,nl,nc,y,e,f⟩:=q i r;exact⟨b,o,x,d b (qz e f.1) p,k,n,a,s,aa,al,ac,ta,tl,tc,na,nl,nc,y,e,f⟩
def aT.LM{ok ok':Nat->Prop}{w:World}{l:List Va}{a:Option Addr}{V:Nat->Value}(h:aT ok w l a V)(f:∀b,fe w b->ok b->ok' b):aT ok' w l a V :=
 ⟨h.1,λi c=>by obtain⟨b,o,j,g,k,n,a,s,aa,al,ac,ta,tl,tc,na,nl,nc,m,d,e⟩:=h.2.1 i c;exact⟨b,o,j,f b (qz d e.1) g,k,n,a,s,aa,al,ac,ta,tl,tc,na,nl,nc,m,d,e⟩,λi c=>(h.2.2 i c).LM f⟩
structure sU (B:Nat) (O:Nat->Prop) (w:World) (l:List Va) (v:Value) (us:List Value):Prop where
 own:dF B w v us
 len:us.length=l.length
 lies:∀(i:Nat) (x:Va) (u:Value),l[i]?=some x->us[i]?=some u->aA (λb=>¬O b) w x u
 mine:∀g,v.ownBlock=some g->O g
def yF (ra:Option Addr) (rl rc:Nat) (op:Int) (wa:Option Addr) (wl wc:Nat) (aa:Option Addr) (al ac:Nat):Value:=.agg #[.slice ra rl rc,.i op,.slice wa wl wc,.slice aa al ac]
def asideV:Value->Value
 | .agg cs=>(cs[3]?).getD (.n0)
 | v=>v
def lM (f:Fr) (u:Value):List Nat:=if f.op=67 then (asideV u).ownBlock.toList else []
def wU (B:Nat) (O:Nat->Prop) (w:World) (f:Fr) (u:Value):Prop :=
 ∃ra rc wa wc aa ac VR VW,u=yF ra f.rest.length rc f.op wa f.row.length wc aa f.aside.length ac/\bD f.op/\(f.rest.length<=rc/\f.row.length<=wc/\f.aside.length<=ac)/\cK (λb=>¬O b) w f.rest ra VR/\cK (λb=>¬O b) w f.row wa VW /\
  (f.op=67->∃us,sU B O w f.aside (.slice aa f.aside.length ac) us)/\(f.op≠67->∃VA,aT (λb=>¬O b) w f.aside aa VA)
def jc (B:Nat) (O:Nat->Prop) (w:World):List Fr->List Value->Prop
 | [],[]=>True
 | f::fs,u::us=>wU B O w f u/\jc B O w fs us
 | [],_::_=>False
 | _::_,[]=>False
def keptBs:List Fr->List Value->List Nat
 | f::fs,u::us=>lM f u++keptBs fs us
 | _,_=>[]
def kU (B:Nat) (w:World) (v:Value) (us:List Value):Prop:=w.ownsRow B 68 4 v us.length (flat us)
def yG (en:En) (aC paid aO k n a:Int) (s:ByteArray) (aa:Option Addr) (al ac:Nat) (ta:Option Addr) (tl tc:Nat) (na:Option Addr) (nl nc:Nat) (sv fv:Value):Array Value :=
 #[.i en.self,.i en.sender,.i en.amount,.i en.balance,.i aC,.i paid,.i aO,.i k,.i n,.i a,.string s,.slice aa al ac,.slice ta tl tc,.slice na nl nc,sv,fv]
structure bU (B:Nat) (O:Nat->Prop) (w:World) (mb:Nat) (en:En) (aC:Int) (m:Ma) (k n a:Int) (s:ByteArray) (aa:Option Addr) (al ac:Nat) (ta:Option Addr) (tl tc:Nat) (na:Option Addr) (nl nc:Nat) (sv fv:Value) (us fs:List Value):Prop where
 blk:w.heap[mb]?=some (.cells (yG en aC m.paid m.aO k n a s aa al ac ta tl tc na nl nc sv fv) 65)
 said:aA (λb=>¬O b) w m.said (bg k n a s aa al ac ta tl tc na nl nc)
 jL:sU B O w m.st.reverse sv us
 own:kU B w fv fs
 sZ:jc B O w m.fr.reverse fs
 nodup:(sv.ownBlock.toList++keptBs m.fr.reverse fs).Nodup
 mine:O mb/\∀g,fv.ownBlock=some g->O g
 low:∀b,O b->B<=b
 cells:∀b,O b->∃cs e,w.heap[b]?=some (.cells cs e)
 num:bD m.paid/\bD m.aO/\bD aC
def dm (B:Nat) (O:Nat->Prop) (w:World) (mb:Nat) (en:En) (aC:Int) (m:Ma):Prop:=∃k n a s aa al ac ta tl tc na nl nc sv fv us fs,bU B O w mb en aC m k n a s aa al ac ta tl tc na nl nc sv fv us fs
def iT{w w':World}{B:Nat}{e:TypeId}{size n:Nat}{v:Value}{xs:List Value}(h:w.ownsRow B e size v n xs)(i:∀g,v.ownBlock=some g->w'.heap[g]?=w.heap[g]?):w'.ownsRow B e size v n xs:=by
 refine⟨h.1,?_⟩;rcases h.2 with h|⟨g,a,b,rfl,c,d,f⟩
 .exact .inl h
 .exact .inr ⟨g,a,b,rfl,c,(i g rfl).trans d,f⟩
def sU.kept{B:Nat}{O a:Nat->Prop}{w w':World}{l:List Va}{v:Value}{us:List Value}(h:sU B O w l v us)(c:dB O w a w')(b:∀g,v.ownBlock=some g->a g/\w'.heap[g]?=w.heap[g]?):sU B a w' l v us :=
 ⟨iT h.own λg e=>(b g e).2,h.len,λi x u j f=>c.lies (h.lies i x u j f),λg d=>(b g d).1⟩
def wU.kept{B:Nat}{O c:Nat->Prop}{w w':World}{f:Fr}{u:Value}(h:wU B O w f u)(b:dB O w c w')(q:∀g∈lM f u,c g/\w'.heap[g]?=w.heap[g]?):wU B c w' f u:=by
 obtain⟨s,t,v,wc,aa,ac,i,j,rfl,k,l,m,n,o,p⟩:=h;refine⟨s,t,v,wc,aa,ac,i,j,rfl,k,l,b.Kl m,b.Kl n,λa=>?_,λa=>?_⟩
 .obtain⟨us,d⟩:=o a;exact⟨us,d.kept b λg r=>q g (by simp[lM,asideV,yF,a,r])⟩
 .obtain⟨e,d⟩:=p a;exact⟨e,b.U5 d⟩
def jc.kept{B:Nat}{O a:Nat->Prop}{w w':World}(d:dB O w a w'):∀{fs:List Fr}{us:List Value},jc B O w fs us->(∀g∈keptBs fs us,a g/\w'.heap[g]?=w.heap[g]?)->jc B a w' fs us
 | [],[],_,_=>trivial
 | f::fs,u::us,h,c=>⟨h.1.kept d λg b=>c g (by simp[keptBs,b]),jc.kept d h.2 λg b=>c g (by simp[keptBs,b])⟩
 | [],_::_,h,_=>h.elim
 | _::_,[],h,_=>h.elim
def wU.mine{B:Nat}{O:Nat->Prop}{w:World}{f:Fr}{u:Value}(h:wU B O w f u){g:Nat}(a:g∈lM f u):O g/\∃cs,w.heap[g]?=some (.cells cs 36):=by
 obtain⟨t,v,x,wc,aa,ac,l,m,rfl,o,p,q,r,j,s⟩:=h;unfold lM at a;split at a
 .rename_i b;obtain⟨us,c⟩:=j b;have a:(Value.slice aa f.aside.length ac).ownBlock=some g:=Option.mem_toList.1 a;refine⟨c.mine g a,?_⟩;rcases c.own.2 with⟨e,_⟩|⟨n,d,i,e,_,k,_⟩
  .rw[e]at a;cases a
  .rw[e]at a;cases a;exact⟨_,k⟩
 .simp at a
def jc.mine{B:Nat}{O:Nat->Prop}{w:World} : ∀{fs:List Fr}{us:List Value},jc B O w fs us->∀g∈keptBs fs us,O g/\∃cs,w.heap[g]?=some (.cells cs 36)
 | f::fs,u::us,h,g,a=>by
  simp only[keptBs,qa0]at a;rcases a with a|a
  .exact h.1.mine a
  .exact jc.mine h.2 g a
 | [],_,_,g,a=>by simp[keptBs]at a
 | _::_,[],h,_,_=>h.elim
section
variable {B:Nat}{O O':Nat->Prop}{w w':World}{mb:Nat}{en:En}{aC:Int}{m:Ma}{k n a:Int}{s:ByteArray}{aa:Option Addr}{al ac:Nat}{ta:Option Addr}{tl tc:Nat}{na:Option Addr}{nl nc:Nat}{sv fv:Value}{us fs:List Value}
def bU.high(h:bU B O w mb en aC m k n a s aa al ac ta tl tc na nl nc sv fv us fs)(b:Nat)(c:O b):b<w.heap.size:=by obtain⟨cs,e,d⟩:=h.cells b c;exact (qq.1 d).1
def bU.grow(h:bU B O w mb en aC m k n a s aa al ac ta tl tc na nl nc sv fv us fs)(i:w.grownBy w' none):bU B O w' mb en aC m k n a s aa al ac ta tl tc na nl nc sv fv us fs:=by have f:dB O w O w':=dB.grow i;have d:∀g,O g->w'.heap[g]?=w.heap[g]?:=λg e=>i.block g (h.high g e) ot;exact⟨(d mb h.mine.1).trans h.blk,f.lies h.said,h.jL.kept f λg c=>⟨h.jL.mine g c,d g (h.jL.mine g c)⟩,iT h.own λg c=>d g (h.mine.2 g c),h.sZ.kept f λg c=>⟨(h.sZ.mine g c).1,d g (h.sZ.mine g c).1⟩,h.nodup,h.mine,h.low,λb e=>by rw[d b e];exact h.cells b e,h.num⟩
def Cx{W c:World}{row:Option Nat}(g:W.grownBy c row)(i:∀r,row=some r->¬fe W r){b:Nat}(d:fe W b):c.heap[b]?=W.heap[b]?:=by have a:=d;obtain⟨cs,e,j,h,_⟩:=d;exact g.block b (qq.1 h).1 (λf=>i b f.symm a)
def DZ{W:World}{r:Nat}(h:∃o:Obj,W.heap[r]?=some o/\o.isCells=false):¬fe W r:=by rintro⟨cs,e,d,c,_⟩;obtain⟨o,a,b⟩:=h;rw[c]at a;cases a;cases b
def vK{W a:World}{row:Option Nat}{O:Nat->Prop}(d:W.grownBy a row)(f:∀r,row=some r->¬fe W r/\¬O r):Same (λb=>¬O b/\fe W b) W a:=λb o c _=>qn (Cx d (λr e=>(f r e).1) c.2)
def Eo{W a:World}{row:Option Nat}{x:Va}{u:Value}(f:W.grownBy a row)(g:∀r,row=some r->¬fe W r/\¬O r)(h:aA (λb=>¬O b) W x u):aA (λb=>¬O b) a x u :=
 ((h.LM (ok':=λb=>¬O b/\fe W b) λb e c=>⟨c,e⟩).same (vK f g)).ae λb _ d=>d.1
def sU.turn{W a:World}{row:Option Nat}{l:List Va}{v:Value}{us:List Value}(b:W.grownBy a row)(c:∀r,row=some r->¬fe W r/\¬O r)(h:sU B O W l v us):sU B O a l v us:=by exact⟨iT h.own λg e=>b.block g (kp h.own g e).2 (λd=>(c g d.symm).2 (h.mine g e)),h.len,λi x u j f=>Eo b c (h.lies i x u j f),h.mine⟩
def jc.turn{W k:World}{row:Option Nat}(g:W.grownBy k row)(i:∀r,row=some r->¬fe W r/\¬O r):∀{fs:List Fr}{us:List Value},jc B O W fs us->jc B O k fs us
 | [],[],_=>trivial
 | f::fs,u::us,h=>by
  refine⟨?_,jc.turn g i h.2⟩;obtain⟨v,w,x,wc,aa,ac,l,m,rfl,n,o,p,q,s,t⟩:=h.1;exact⟨v,w,x,wc,aa,ac,l,m,rfl,n,o,((p.LM (ok':=λb=>¬O b/\fe W b) λb e c=>⟨c,e⟩).same (vK g i)).ae λb _ d=>d.1,((q.LM (ok':=λb=>¬O b/\fe W b) λb e c=>⟨c,e⟩).same (vK g i)).ae λb _ d=>d.1,
   λa=>(s a).imp λus j=>j.turn g i,λa=>(t a).imp λy j=>((j.LM (ok':=λb=>¬O b/\fe W b) λb e c=>⟨c,e⟩).same (vK g i)).ae λb _ d=>d.1⟩
 | [],_::_,h=>h.elim
 | _::_,[],h=>h.elim
def bU.turn{row:Option Nat}(h:bU B O w mb en aC m k n a s aa al ac ta tl tc na nl nc sv fv us fs)(d:w.grownBy w' row)(f:∀r,row=some r->¬fe w r/\¬O r):bU B O w' mb en aC m k n a s aa al ac ta tl tc na nl nc sv fv us fs:=by have i:∀b,O b->w'.heap[b]?=w.heap[b]?:=λb c=>d.block b (h.high b c) (λe=>(f b e.symm).2 c);exact⟨(i mb h.mine.1).trans h.blk,Eo d f h.said,h.jL.turn d f,iT h.own λg e=>i g (h.mine.2 g e),h.sZ.turn d f,h.nodup,h.mine,h.low,λb c=>by rw[i b c];exact h.cells b c,h.num⟩
def bU.stack(h:bU B O w mb en aC m k n a s aa al ac ta tl tc na nl nc sv fv us fs)(o:dB O w O' w'){st:List Va}{sv':Value}{us':List Value}(f:w'.heap[mb]?=some (.cells (yG en aC m.paid m.aO k n a s aa al ac ta tl tc na nl nc sv' fv) 65))
 (hstk:sU B O' w' st.reverse sv' us') (hnd:sv'.ownBlock=sv.ownBlock\/sv'.ownBlock=none\/∃g,sv'.ownBlock=some g/\w.heap.size<=g) (hO:∀g,O g->sv.ownBlock≠some g->O' g) (hk:∀g,O g->g≠mb->sv.ownBlock≠some g->w'.heap[g]?=w.heap[g]?) (hcells:∀b,O' b->∃cs e,w'.heap[b]?=some (.cells cs e)) :
 bU B O' w' mb en aC { m with st:=st } k n a s aa al ac ta tl tc na nl nc sv' fv us' fs:=by
 have l:∀g,fv.ownBlock=some g->g≠mb/\sv.ownBlock≠some g:=λg c=>by
  have z:=h.own;rcases z.2 with⟨e,_⟩|⟨C,r,t,e,_,i,_⟩
  .rw[e]at c;cases c
  .rw[e]at c;cases c;refine⟨dC i h.blk ov,λu=>?_⟩;have:=aD h.jL.own i ov;exact this u.symm
 have j:∀g∈keptBs m.fr.reverse fs,g≠mb/\sv.ownBlock≠some g:=λg c=>by obtain⟨_,cs,i⟩:=h.sZ.mine g c;refine⟨dC i h.blk ov,λe=>?_⟩;have:=qb5.1 h.nodup;exact this.2.2 g (by simp[e]) g c rfl
 refine⟨f,o.lies h.said,hstk,iT h.own λg d=>hk g (h.mine.2 g d) (l g d).1 (l g d).2,h.sZ.kept o λg d=>⟨hO g (h.sZ.mine g d).1 (j g d).2,hk g (h.sZ.mine g d).1 (j g d).1 (j g d).2⟩,?_,⟨hO _ h.mine.1 (λe=>aD h.jL.own h.blk ov e.symm),λg c=>hO _ (h.mine.2 g c) (l g c).2⟩,λb v=>?_,hcells,h.num⟩
 .rcases hnd with e|e|⟨g,e,c⟩
  .rw[e];exact h.nodup
  .rw[e];exact (qb5.1 h.nodup).2.1
  .rw[e];refine qb5.2 ⟨ot,(qb5.1 h.nodup).2.1,λx q y A=>?_⟩;simp at q;subst q;have:=h.high y (h.sZ.mine y A).1;omega
 .rcases o.new b v with p|p
  .exact h.low b p
  .have:=h.low _ h.mine.1;have:=h.high _ h.mine.1;omega
def iM{w:World}{b:Nat}{T:TypeId}{c d:Int}(h:w.heap[b]?=some (.cells (yG en aC c d k n a s aa al ac ta tl tc na nl nc sv fv) T)) :
 w.cell? ⟨b,0,none⟩=some (.i en.self)/\w.cell? ⟨b,1,none⟩=some (.i en.sender)/\w.cell? ⟨b,2,none⟩=some (.i en.amount)/\w.cell? ⟨b,3,none⟩=some (.i en.balance)/\w.cell? ⟨b,4,none⟩=some (.i aC)/\w.cell? ⟨b,5,none⟩=some (.i c)/\w.cell? ⟨b,6,none⟩=some (.i d) /\
 w.cell? ⟨b,14,none⟩=some sv/\w.cell? ⟨b,15,none⟩=some fv/\∀o,w.frozen? ⟨b,o,none⟩=false:=by
 simp[World.cell?,World.frozen?,h,yG]
def nG{w:World}{b:Nat}{T:TypeId}{c d:Int}(h:w.heap[b]?=some (.cells (yG en aC c d k n a s aa al ac ta tl tc na nl nc sv fv) T))(v:Value) :
 (w.setCell ⟨b,14,none⟩ v).heap[b]?=some (.cells (yG en aC c d k n a s aa al ac ta tl tc na nl nc v fv) T)/\(w.setCell ⟨b,15,none⟩ v).heap[b]?=some (.cells (yG en aC c d k n a s aa al ac ta tl tc na nl nc sv v) T) /\
 (∀q:Int,(w.setCell ⟨b,5,none⟩ (.i q)).heap[b]?=some (.cells (yG en aC q d k n a s aa al ac ta tl tc na nl nc sv fv) T))/\(∀q:Int,(w.setCell ⟨b,6,none⟩ (.i q)).heap[b]?=some (.cells (yG en aC c q k n a s aa al ac ta tl tc na nl nc sv fv) T)):=by
 unfold yG at h|-;simp[World.setCell,yr,h]
end
section
variable {B:Nat}{O:Nat->Prop}{w:World}{mb:Nat}{en:En}{aC:Int}{m:Ma}
def bU.paid{O:Nat->Prop}{m:Ma}{k n a:Int}{s:ByteArray}{v:Option Addr}{al ac:Nat}{ta:Option Addr}{tl tc:Nat}{na:Option Addr}{x nc:Nat}{c p:Value}{us o:List Value}(h:bU B O w mb en aC m k n a s v al ac ta tl tc na x nc c p us o)(q:Int)(u:bD q) :
 bU B O (w.setCell ⟨mb,5,none⟩ (.i q)) mb en aC { m with paid:=q } k n a s v al ac ta tl tc na x nc c p us o:=by
 have j:w.grownBy (w.setCell ⟨mb,5,none⟩ (.i q)) (some mb):=dY (bM _ _) _ _ _;have r:dB O w O (w.setCell ⟨mb,5,none⟩ (.i q)):=dB.ofRow j (λg e=>by cases e;exact h.mine.1);have f:∀g,O g->g≠mb->(w.setCell ⟨mb,5,none⟩ (.i q)).heap[g]?=w.heap[g]?:=λg d t=>j.block g (h.high g d) (by simpa using t);have z:∀g,c.ownBlock=some g->g≠mb:=λg e l=>aD h.jL.own h.blk ov (by rw[e,l]);have A:∀g,p.ownBlock=some g->g≠mb:=λg e l=>aD h.own h.blk ov (by rw[e,l]);have y:∀g∈keptBs m.fr.reverse o,g≠mb:=λg j=>by obtain⟨_,cs,u⟩:=h.sZ.mine g j;exact dC u h.blk ov
 refine⟨(nG h.blk c).2.2.1 q,r.lies h.said,h.jL.kept r λg e=>⟨h.jL.mine g e,f g (h.jL.mine g e) (z g e)⟩,iT h.own λg e=>f g (h.mine.2 g e) (A g e),h.sZ.kept r λg e=>⟨(h.sZ.mine g e).1,f g (h.sZ.mine g e).1 (y g e)⟩,h.nodup,h.mine,h.low,λb d=>?_,⟨u,h.num.2⟩⟩
 by_cases e:b=mb
 .subst e;exact⟨_,_,(nG h.blk c).2.2.1 q⟩
 .rw[f b d e];exact h.cells b d
def jK (B:Nat) (O:Nat->Prop) (w:World) (mb:Nat) (en:En) (aC:Int) (o:Out) (e:Ending) (w':World):Prop:=∃O',dB O w O' w'/\match o with
 | .go m=>e =.returned (.i 0)/\dm B O' w' mb en aC m
 | .no er m=>er≠0/\e =.returned (.i er)/\∃m',m'.paid=m.paid/\m'.said=m.said/\dm B O' w' mb en aC m'
 | .stuck=>False
def dm.grow{w':World}(h:dm B O w mb en aC m)(b:w.grownBy w' none):dm B O w' mb en aC m:=by obtain⟨k,n,a,s,aa,al,ac,ta,tl,tc,na,nl,nc,sv,fv,us,fs,h⟩:=h;exact⟨k,n,a,s,aa,al,ac,ta,tl,tc,na,nl,nc,sv,fv,us,fs,h.grow b⟩
def dm.turn{w':World}{row:Option Nat}(h:dm B O w mb en aC m)(b:w.grownBy w' row)(c:∀r,row=some r->¬fe w r/\¬O r):dm B O w' mb en aC m:=by obtain⟨k,n,a,s,aa,al,ac,ta,tl,tc,na,nl,nc,sv,fv,us,fs,h⟩:=h;exact⟨k,n,a,s,aa,al,ac,ta,tl,tc,na,nl,nc,sv,fv,us,fs,h.turn b c⟩
def dm.cells(h:dm B O w mb en aC m):∀b,O b->∃cs e,w.heap[b]?=some (.cells cs e):=by obtain⟨k,n,a,s,aa,al,ac,ta,tl,tc,na,nl,nc,sv,fv,us,fs,h⟩:=h;exact h.cells
def dm.no{r:Nat}(h:dm B O w mb en aC m)(b:∃o:Obj,w.heap[r]?=some o/\o.isCells=false):¬fe w r/\¬O r:=by refine⟨DZ b,λc=>?_⟩;obtain⟨cs,e,f⟩:=h.cells r c;obtain⟨o,a,d⟩:=b;rw[f]at a;cases a;cases d
def dm.high(h:dm B O w mb en aC m):∀b,O b->b<w.heap.size:=by obtain⟨k,n,a,s,aa,al,ac,ta,tl,tc,na,nl,nc,sv,fv,us,fs,h⟩:=h;exact h.high
def Ff(h:dm B O w mb en aC m):Calls prog 116 #[.pointer (some ⟨mb,0,none⟩)] w (jK B O w mb en aC (uH aC m .go)):=by
 have i:=jh h;obtain⟨k,n,a,s,aa,al,ac,ta,tl,tc,na,nl,nc,sv,fv,us,fs,h⟩:=h;have l:=h.num;unfold bD at l;have HM:=jh h;have K:=λ(w':World) (h:w.grownBy w' none)=>iM (l5 HM.blk h);have d:w.grownBy w none:=bM _ _;have b:=jh (fK d);clear h
 by_cases f:m.paid ≥ aC
 .have c:Hid (uH aC m .go =.no 12 m):=by show _=_;unfold uH;rw[if_pos f]
  go_enter func116,ntmps116;go_wp2_with fail;go_region_held3 (λw'=>w.grownBy w' none) (first|with_reducible assumption|with_reducible exact fK oS) (fail);go_wp2_with fail;go_ret;rw[c.out];exact⟨O,dB.grow b.out,ov,rfl,m,rfl,rfl,i.out.grow b.out⟩
 .have o:wrap64 (m.paid+1)=m.paid+1:=by unfold wrap64;omega
  have c:Hid (uH aC m .go =.go { m with paid:=m.paid+1 }):=by show _=_;unfold uH;rw[if_neg f]
  go_enter func116,ntmps116;go_wp2_with fail;go_region_held3 (λw'=>w.grownBy w' none) (first|with_reducible assumption|with_reducible exact fK oS) (fail);go_wp2_with fail;go_ret;rw[c.out];have j:=(HM.out.grow b.out).paid (m.paid+1) Xs;exact⟨O,(dB.grow b.out).trans (dB.ofRow (dY (bM _ _) _ _ _) (λg e=>by cases e;exact HM.out.mine.1)),rfl,_,_,_,_,_,_,_,_,_,_,_,_,_,_,_,_,_,j⟩
def kc{w w':World}{r:Option Nat}{b o:Nat}{v:Value}(h:w.cell? ⟨b,o,none⟩=some v)(a:w.grownBy w' r)(c:some b≠r):w'.cell? ⟨b,o,none⟩=some v:=(qn (a.block b (kd w _ h) c)).trans h
def kb{w w':World}{r:Option Nat}{b:Nat}{o:Obj}(h:w.heap[b]?=some o)(a:w.grownBy w' r)(c:some b≠r):w'.heap[b]?=some o:=(a.block b (qq.1 h).1 c).trans h
def C7 (w:World) (g o:Nat) (k n a:Int) (s:ByteArray) (aa:Option Addr) (al ac:Nat) (ta:Option Addr) (tl tc:Nat) (na:Option Addr) (nl nc:Nat):Prop :=
 w.cell? ⟨g,o,none⟩=some (.i k)/\w.cell? ⟨g,o+1,none⟩=some (.i n)/\w.cell? ⟨g,o+2,none⟩=some (.i a)/\w.cell? ⟨g,o+3,none⟩=some (.string s)/\w.cell? ⟨g,o+4,none⟩=some (.slice aa al ac)/\w.cell? ⟨g,o+5,none⟩=some (.slice ta tl tc)/\w.cell? ⟨g,o+6,none⟩=some (.slice na nl nc)
def C7.keep{w w':World}{r:Option Nat}{g o:Nat}{k n a:Int}{s:ByteArray}{d:Option Addr}{al ac:Nat}{ta:Option Addr}{tl tc:Nat}{na:Option Addr}{e nc:Nat}(h:C7 w g o k n a s d al ac ta tl tc na e nc)(b:w.grownBy w' r)(c:some g≠r):C7 w' g o k n a s d al ac ta tl tc na e nc :=
 ⟨kc h.1 b c,kc h.2.1 b c,kc h.2.2.1 b c,kc h.2.2.2.1 b c,kc h.2.2.2.2.1 b c,kc h.2.2.2.2.2.1 b c,kc h.2.2.2.2.2.2 b c⟩
def Xe{P:Program}{d:Func}{Q:Ending->World->Prop}{A:Act}{w:World}{R:Nat}{T:TypeId}{x0 e f g h j l:Value}{k n a:Int}{s:ByteArray}{b:Option Addr}{al ac:Nat}{ta:Option Addr}{tl tc:Nat}{na:Option Addr}{c nc:Nat}
 (hres:∀w':World,w'.cell? ⟨R,0,none⟩=some (.i k)/\w'.cell? ⟨R,1,none⟩=some (.i n)/\w'.cell? ⟨R,2,none⟩=some (.i a)/\w'.cell? ⟨R,3,none⟩=some (.string s)/\w'.cell? ⟨R,4,none⟩=some (.slice b al ac)/\w'.cell? ⟨R,5,none⟩=some (.slice ta tl tc)/\w'.cell? ⟨R,6,none⟩=some (.slice na c nc)->(results d A.tmps).run P w' =.ok (bg k n a s b al ac ta tl tc na c nc) w')
 (hd:A.defers=[]) (hb:w.heap[R]?=some (.cells #[x0,e,f,g,h,j,l] T (0,0))) (hQ:∀w',w.grownBy w' (some R)->Q (.returned (bg k n a s b al ac ta tl tc na c nc)) w') :
 bodyPost P d Q .ret A (qW w R (.i k) (.i n) (.i a) (.string s) (.slice b al ac) (.slice ta tl tc) (.slice na c nc)) :=
 zv (hres _ (cO (wN hb _ _ _ _ _ _ _))) hd (hQ _ (zy _ _ _ _ _ _ _ _ _))
def DT{α:Type}{l:List α}{n:Nat}(h:l.length=n+1):∃r x,l=r++[x]/\r.length=n:=by refine⟨l.dropLast,l.getLast (by intro e;subst e;simp at h),(qb4 _).symm,by simp[h]⟩
def rY{us:List Value}{n:Nat}(h:∀u∈us,(nodeCells u).length=n):(flat us).length=us.length*n:=by
 induction us with
 | nil=>simp[flat]
 | cons u us a=>simp only[flat,qd5,qS,jn]at a|-;rw[a λv b=>h v (by simp[b]),h u ot,jb1];omega
def sU.top{l:List Va}{x:Va}{v:Value}{us:List Value}(h:sU B O w (l++[x]) v us):∃g cap us' k n a s aa al ac ta tl tc na nl nc,v =.slice (some ⟨g,0,none⟩) (l.length+1) cap/\(l.length+1<=cap/\cap<=maxLen)/\us=us'++[bg k n a s aa al ac ta tl tc na nl nc]/\aA (λb=>¬O b) w x (bg k n a s aa al ac ta tl tc na nl nc) /\
 C7 w g (l.length*7) k n a s aa al ac ta tl tc na nl nc/\sU B O w l (.slice (some ⟨g,0,none⟩) l.length cap) us':=by
 have r:=h.len;simp only[qS,jn,xT]at r;obtain⟨us',u,rfl,c⟩:=DT r;have z:=h.lies l.length x u ot (by rw[<-c];simp);have f:=h.own;obtain⟨k,n,a,s,aa,al,ac,ta,tl,tc,na,nl,nc,rfl⟩:=z.bg;have C:∀u∈us',(nodeCells u).length=7:=λu E=>by
  obtain⟨i,q,rfl⟩:=ye E;have o:i<l.length:=od
  obtain⟨k,n,a,s,aa,al,ac,ta,tl,tc,na,nl,nc,e⟩:=(h.lies i l[i] us'[i] (by rw[jt o,qt o]) (by rw[jt q,qt q])).bg;rw[e];rfl
 have m:=rY C;unfold dF at f;rw[bV,qS,yW,c]at f;obtain⟨g,cap,rfl,_⟩:=BO f (by rintro rfl;have:=f.2;simp at this);have D:=QX f;refine⟨g,cap,us',k,n,a,s,aa,al,ac,ta,tl,tc,na,nl,nc,rfl,D,rfl,z,?_,⟨?_,c,λi y v p t=>?_,λA e=>h.mine A e⟩⟩
 .have d:∀j y,(nodeCells (bg k n a s aa al ac ta tl tc na nl nc))[j]?=some y->w.cell? ⟨g,l.length*7+j,none⟩=some y:=λj y p=>iJ f (by rw[m,c]) j y (by simpa[flat]using p);exact⟨d 0 _ rfl,d 1 _ rfl,d 2 _ rfl,d 3 _ rfl,d 4 _ rfl,d 5 _ rfl,d 6 _ rfl⟩
 .unfold dF;rw[c];exact uF f (by rw[m,c])
 .exact h.lies i y v (by rw[jt (jj.1 p).1];exact p) (by rw[jt (jj.1 t).1];exact t)
def Yi (B:Nat) (O:Nat->Prop) (w:World) (mb:Nat) (en:En) (aC:Int) (x:Va) (m:Ma) (e:Ending) (w':World):Prop:=∃v,e =.returned v/\aA (λb=>¬O b) w' x v/\dB O w O w'/\dm B O w' mb en aC m
def Yh (B:Nat) (O:Nat->Prop) (w:World) (x:Va) (mb:Nat) (en:En) (aC:Int) (m:Ma) (k n a:Int) (s:ByteArray) (aa:Option Addr) (al ac:Nat) (ta:Option Addr) (tl tc:Nat) (na:Option Addr) (nl nc:Nat) (fv:Value) (fs:List Value) (e:Ending) (w':World):Prop:=∃v,e =.returned v/\aA (λb=>¬O b) w' x v/\dB O w O w'/\∃sv us,bU B O w' mb en aC m k n a s aa al ac ta tl tc na nl nc sv fv us fs
def Yj (B:Nat) (O:Nat->Prop) (w:World) (x:Va) (mb:Nat) (en:En) (aC:Int) (m:Ma) (L:Nat) (st:List Va) (k n a:Int) (s:ByteArray) (aa:Option Addr) (al ac:Nat) (ta:Option Addr) (tl tc:Nat) (na:Option Addr) (nl nc:Nat) (fv:Value) (fs:List Value) (e:Ending) (w':World):Prop:=∃v,e =.returned v/\aA (λb=>¬O b) w' x v/\dB O w O w'/\∃g cap us,(L+1<=cap/\cap<=maxLen)/\bU B O w' mb en aC { m with st:=st } k n a s aa al ac ta tl tc na nl nc (.slice (some ⟨g,0,none⟩) L cap) fv us fs
def Cv{x:Va}{st:List Va}{k n a:Int}{s:ByteArray}{J:Option Addr}{al ac:Nat}{ta:Option Addr}{tl tc:Nat}{na:Option Addr}{T nc:Nat}{sv N:Value}{us M:List Value}(h:bU B O w mb en aC m k n a s J al ac ta tl tc na T nc sv N us M)(R:m.st=x::st):Calls prog 118 #[.pointer (some ⟨mb,0,none⟩)] w (Yj B O w x mb en aC m st.length st k n a s J al ac ta tl tc na T nc N M):=by
 have u:=h.jL;rw[R,qb0]at u;obtain⟨g,y,ar,k1,n1,a1,s1,W,Y,X,ao,fE,aq,ai,an,aj,rfl,c,rfl,S,d,f⟩:=u.top;rw[ue]at c d f h;have A:=jh c;generalize st.length=L at *;have ah:wrap64 (L:Int)=L:=by unfold maxLen at c;unfold wrap64;omega
 obtain⟨c,_⟩:=c;have p:=aK (w:=w) (.cells #[.i 0,.i 0,.i 0,.string ⟨#[]⟩,.n0,.n0,.n0] 36);obtain⟨HM,t,V,I⟩:=JT (h.grow p) h S f;have ae:=h.high _ h.mine.1;have ad:g<w.heap.size:=h.high g (h.jL.mine g rfl);obtain⟨U,D,C⟩:=JY (d.keep p ot) (qT w (.cells #[.i 0,.i 0,.i 0,.string ⟨#[]⟩,.n0,.n0,.n0] 36)) p;clear h u S f d R p;go_enter func118,ntmps118
 go_upto_region 1 with (fail)
 generalize w.alloc _=j at *;have K:=λ(w':World) (h:j.grownBy w' (some w.heap.size))=>And.intro (iM (kb HM.blk h oB)) (U.keep h oB);unfold C7 at K;have ab:j.grownBy j (some w.heap.size):=bM _ _;have hA:=λ(w':World) (o:Obj) (h:j.grownBy w' (some w.heap.size))=>fF h (kL (aK o));have K2:=λ(w':World) (h:j.grownBy w' (some mb))=>And.intro (cO (kb D h oB)) (qD (kb D h oB));have E:j.grownBy j (some mb):=bM _ _;have hA2:=λ(w':World) (o:Obj) (h:j.grownBy w' (some mb))=>fF h (kL (aK o));have F:=λ(w':World) (o:Nat) (v:Value) (h:j.grownBy w' (some mb))=>dY h o none v;go_wp2_with fail;refine Xe (λw' h=>by simp[results,results118,go_sem,h,bg]) rfl (x0:=.i 0) (kb D (F _ _ _ (hA2 _ _ E)) oB) λw' Q=>?_;have l:w.grownBy w' (some mb):=aG (fF (kL (aJ C (aK _))) (dY (bM _ _) _ _ _)) Q (qv _);have z:=dB.ofRow (O:=O) l (λq e=>by cases e;exact t.mine.1);have r:=kb (nG (HM.grow (aK _)).blk (.slice (some ⟨g,0,none⟩) L y)).1 Q oB;refine⟨_,rfl,z.lies V,z,g,y,_,A,t.stack z r (I.kept z λq e=>⟨I.mine q e,l.block q (by cases e;omega) (λZ=>?_)⟩) (.inl rfl) (λq H _=>H) (λq H G _=>l.block q (t.high q H) (by simpa using G)) (λb P=>?_)⟩
 .cases Z;exact aD t.jL.own t.blk ov e.symm
 .by_cases e:b=mb
  .subst e;exact⟨_,_,r⟩
  .rw[l.block b (t.out.high b P) (by simpa using e)];exact t.cells b P
def yA{x:Va}{st:List Va}{k n a:Int}{s:ByteArray}{b:Option Addr}{al ac:Nat}{ta:Option Addr}{tl tc:Nat}{na:Option Addr}{f nc:Nat}{r d:Value}{us c:List Value}(h:bU B O w mb en aC m k n a s b al ac ta tl tc na f nc r d us c)(q:m.st=x::st):Calls prog 118 #[.pointer (some ⟨mb,0,none⟩)] w (Yh B O w x mb en aC { m with st:=st } k n a s b al ac ta tl tc na f nc d c):=by refine (Cv h q).mono ?_;rintro e w' ⟨v,j,l,o,g,i,us,_,p⟩;exact⟨v,j,l,o,_,_,p⟩
def yB{x:Va}{st:List Va}(h:dm B O w mb en aC m)(g:m.st=x::st):Calls prog 118 #[.pointer (some ⟨mb,0,none⟩)] w (Yi B O w mb en aC x { m with st:=st }):=by obtain⟨k,n,a,s,aa,al,ac,ta,tl,tc,na,nl,nc,sv,fv,us,fs,h⟩:=h;refine (yA h g).mono ?_;rintro e w' ⟨v,b,c,d,sv,us,f⟩;exact⟨v,b,c,d,_,_,_,_,_,_,_,_,_,_,_,_,_,_,_,_,_,f⟩
def Src (O:Nat->Prop) (w:World) (l:List Va) (xv:Value):Prop:=∃us:List Value,gZ w xv us.length (flat us)/\us.length=l.length/\∀(i:Nat) (x:Va) (u:Value),l[i]?=some x->us[i]?=some u->aA (λb=>¬O b) w x u
def Src.row{l:List Va}{a:Option Addr}{V:Nat->Value}{c:Nat}(h:aT (λb=>¬O b) w l a V):Src O w l (.slice a l.length c):=by
 refine⟨(List.range l.length).map V,?_,ot,λi x u m d=>?_⟩
 .have t:∀u∈(List.range l.length).map V,(nodeCells u).length=7:=λu d=>by
   simp only[qa7,List.mem_range]at d;obtain⟨i,f,rfl⟩:=d;obtain⟨k,n,a,s,aa,al,ac,ta,tl,tc,na,nl,nc,e⟩:=(h.2.2 i f).bg;rw[e];rfl
  have g:=rY t;simp only[qh0,List.length_range]at g|-
  cases a with
  | none =>
   left;have p:l.length=0:=by
    cases I:l.length with
    | zero=>rfl
    | succ q=>obtain⟨b,o,e,_⟩:=h.2.1 0 od;cases e
   exact⟨c,by rw[p],p,ju (by rw[g,p])⟩
  | some v =>
   right;refine⟨v,c,rfl,λj u d=>?_⟩;have H:j<l.length*7:=by have:=(jj.1 d).1;omega
   obtain⟨i,r,z,rfl⟩:∃i r,r<7/\j=i*7+r:=⟨j / 7,j % 7,Nat.mod_lt _ od,od⟩;have f:i<l.length:=od
   obtain⟨b,o,e,_,k,n,a,s,aa,al,ac,ta,tl,tc,na,nl,nc,y,A,B,C,D,E,F,G⟩:=h.2.1 i f;cases e;rw[flatV_get _ t i r (V i) (by simp[f]) z,y]at d;rw[gI,<-qe0];rcases (show r=0\/r=1\/r=2\/r=3\/r=4\/r=5\/r=6 by omega)with rfl|rfl|rfl|rfl|rfl|rfl|rfl<;>(simp only[bg,nodeCells,kl,yd,qk]at d;subst d;assumption)
 .have f:=(jj.1 m).1;simp[f]at d;subst d;have:=h.2.2 i f;rw[qt f]at m;simp only[qk]at m;rw[<-m];exact this
def Src.grow{w':World}{l:List Va}{xv:Value}(h:Src O w l xv)(d:w.grownBy w' none):Src O w' l xv:=by
 obtain⟨us,a,g,k⟩:=h;refine⟨us,?_,g,λi x u m b=>(dB.grow (O:=O) d).lies (k i x u m b)⟩;rcases a with a|⟨f,c,e,a⟩
 .exact .inl a
 .exact .inr ⟨f,c,e,λj u b=>by have:=a j u b;exact (qn (d.block _ (kd w _ this) ot)).trans this⟩
def K8 (B:Nat) (O:Nat->Prop) (w:World) (mb:Nat) (en:En) (aC:Int) (m:Ma) (e:Ending) (w':World):Prop:=e =.returned (.tuple #[])/\∃O',dB O w O' w'/\dm B O' w' mb en aC m
def lL{us:List Value}(h:∀u∈us,∃k n a s aa al ac ta tl tc na nl nc,u=bg k n a s aa al ac ta tl tc na nl nc):(flat us).length=us.length*7/\∀y∈flat us,y.oneCell'=true:=by
 refine⟨rY λu c=>?_,λy b=>?_⟩
 .obtain⟨k,n,a,s,aa,al,ac,ta,tl,tc,na,nl,nc,e⟩:=h u c;rw[e];rfl
 .simp only[flat,jh1]at b;obtain⟨u,c,b⟩:=b;obtain⟨k,n,a,s,aa,al,ac,ta,tl,tc,na,nl,nc,e⟩:=h u c;rw[e]at b;simp[bg,nodeCells]at b;rcases b with rfl|rfl|rfl|rfl|rfl|rfl|rfl<;>rfl
def mO{l:List Va}{us:List Value}(e:us.length=l.length)(h:∀(i:Nat) (x:Va) (u:Value),l[i]?=some x->us[i]?=some u->aA (λb=>¬O b) w x u):∀u∈us,∃k n a s aa al ac ta tl tc na nl nc,u=bg k n a s aa al ac ta tl tc na nl nc:=λu d=>by obtain⟨i,c,rfl⟩:=ye d;exact (h i l[i] us[i] (qt od) (qt c)).bg
def WU{c:Array Oper}{b:List Oper}{o:Oper}{a:Act}{Q:Exit->Act->World->Prop}(g:o.guard=none)(s x:Operand)(C:o.op =.call { callee:=.builtin .append,args:=#[s,x],argTypes:=#[28,28] })
 {v xv:Value} (hs:a.eval s=v) (hx:a.eval x=xv) {l0 l:List Va} {us:List Value} (h:sU B O w l0 v us) (hsrc:Src O w l xv) (hB:B<=w.heap.size) (hlen:l0.length+l.length<=100000000)
 (hk:∀v' us' w',sU B (qx O v v') w' (l0++l) v' us'->Gr w v w' v'->dB O w (qx O v v') w'->wpList prog c Q b (a.put o.dst v') w'):wpList prog c Q (o::b) a w:=by
 obtain⟨k,A,m,n⟩:=hsrc;have p:=lL (mO m n);refine ed g s x 28 C B 36 underlying28 mr rfl ov v us.length (flat us) hs h.own xv k.length (flat k) hx p.1 A p.2 (by have:=h.len;unfold maxLen;omega) (by have:=h.len;omega) hB λv' w' j r _=>?_;have z:=dB.gr r h.mine;refine hk v' (us++k) w' ⟨by unfold dF;rw[qS,bV];exact j,by simp[h.len,m],λi y u f d=>z.lies ?_,λq e=>.inr e⟩ r z
 by_cases t:i<l0.length
 .rw[jt t]at f;rw[jt (by rw[h.len];exact t)]at d;exact h.lies i y u f d
 .rw[js od]at f;rw[js (by rw[h.len];omega),h.len]at d;exact n _ y u f d
def nX{e:TypeId}{size n:Nat}{v:Value}{xs:List Value}(h:w.ownsRow B e size v n xs):∃a c,v =.slice a n c:=by
 rcases h.2 with⟨rfl,rfl⟩|⟨g,b,d,rfl,_⟩
 .exact⟨_,_,rfl⟩
 .exact⟨_,_,rfl⟩
def Yf (B:Nat) (O:Nat->Prop) (w:World) (mb:Nat) (sv:Value) (l:List Va) (e:Ending) (w':World):Prop:=e =.returned (.tuple #[])/\∃v' us' w1,sU B (qx O sv v') w1 l v' us'/\Gr w sv w1 v'/\dB O w (qx O sv v') w1/\w'=w1.setCell ⟨mb,14,none⟩ v'
def G9{l l0:List Va}{xv:Value}{g y:Int}{k n a:Int}{s:ByteArray}{z:Option Addr}{al ac:Nat}{ta:Option Addr}{tl tc:Nat}{na:Option Addr}{D nc:Nat}{i A:Value}{us:List Value}(r:w.heap[mb]?=some (.cells (yG en aC g y k n a s z al ac ta tl tc na D nc i A) 65))(t:sU B O w l0 i us)(c:Src O w l xv)(q:B<=w.heap.size)(b:l0.length+l.length<=100000000):Calls prog 115 #[.pointer (some ⟨mb,0,none⟩),xv] w (Yf B O w mb i (l0++l)):=by have HM:=jh r;have p:=jh t;have K:=λ(w':World) (h:w.grownBy w' none)=>iM (l5 HM h);have C:w.grownBy w none:=bM _ _;obtain⟨x,HL,u⟩:=JY c b q;clear r t c b q;go_enter func115,ntmps115;go_wp2_with (at_builtin;refine WU (v:=i) (xv:=xv) rfl _ _ rfl rfl rfl p x u HL ?_;intro H E w' e d f;obtain⟨F,G,rfl⟩:=nX e.own;have o:=jh e;have m:=jh d;have j:=jh f;have I:=iM (kb HM d.1 (aD p.own HM ov));clear e d f);refine zv (v:=.tuple #[]) (by simp[results,results115,go_sem]) rfl ?_;exact⟨rfl,_,_,_,o,m,j,rfl⟩
def Yg (B:Nat) (O:Nat->Prop) (w:World) (mb:Nat) (en:En) (aC:Int) (m:Ma) (k n a:Int) (s:ByteArray) (aa:Option Addr) (al ac:Nat) (ta:Option Addr) (tl tc:Nat) (na:Option Addr) (nl nc:Nat) (fv:Value) (fs:List Value) (e:Ending) (w':World):Prop:=e =.returned (.tuple #[])/\∃O',dB O w O' w'/\∃sv us,bU B O' w' mb en aC m k n a s aa al ac ta tl tc na nl nc sv fv us fs
def bU.Fv{st:List Va}{k n a:Int}{s:ByteArray}{z:Option Addr}{al ac:Nat}{ta:Option Addr}{tl tc:Nat}{na:Option Addr}{F nc:Nat}{j C v':Value}{us A us':List Value}{w':World}(c:bU B O w mb en aC m k n a s z al ac ta tl tc na F nc j C us A)(x:sU B (qx O j v') w' st.reverse v' us')(p:Gr w j w' v')(hF:dB O w (qx O j v') w') :
 dB O w (qx O j v') (w'.setCell ⟨mb,14,none⟩ v')/\bU B (qx O j v') (w'.setCell ⟨mb,14,none⟩ v') mb en aC { m with st:=st } k n a s z al ac ta tl tc na F nc v' C us' A:=by
 have d:w'.grownBy (w'.setCell ⟨mb,14,none⟩ v') (some mb):=dY (bM _ _) _ _ _;have u:dB (qx O j v') w' (qx O j v') (w'.setCell ⟨mb,14,none⟩ v'):=dB.ofRow d (λq e=>by cases e;exact .inl ⟨c.mine.1,λe=>aD c.jL.own c.blk ov e.symm⟩);have D:=hF.trans u;have h:=(nG (kb c.blk p.1 (aD c.jL.own c.blk ov)) v').1;have y:∀q,v'.ownBlock=some q->q≠mb:=λq e r=>by
  subst r;rcases p.2 with o|⟨g,o,E⟩
  .exact aD c.jL.own c.blk ov (by rw[<-o,e])
  .rw[e]at o;cases o;have:=c.high _ c.mine.1;omega
 refine⟨D,c.stack D h (us':=us') ?_ ?_ (λq i l=>.inl ⟨i,l⟩) (λq i l v=>(d.block q (jz (c.high q i) p.1.size) (by simpa using l)).trans (p.1.block q (c.high q i) (λe=>v e.symm))) (λb f=>?_)⟩
 .exact x.kept u λq e=>⟨.inr e,d.block q (kp x.own q e).2 (by simpa using y q e)⟩
 .rcases p.2 with e|⟨g,e,E⟩
  .exact .inl e
  .exact .inr (.inr ⟨g,e,E⟩)
 .by_cases e:b=mb
  .subst e;exact⟨_,_,h⟩
  .have t:∃cs e,w'.heap[b]?=some (.cells cs e):=by
    rcases f with f|f
    .rw[p.1.block b (c.high b f.1) (λo=>f.2 o.symm)];exact c.cells b f.1
    .rcases x.own.2 with⟨r,_⟩|⟨g,G,H,r,_,i,_⟩
     .rw[r]at f;cases f
     .rw[r]at f;cases f;exact⟨_,_,i⟩
   rw[d.block b (by obtain⟨cs,q,i⟩:=t;exact (qq.1 i).1) (by simpa using e)];exact t
def BG{l:List Va}{xv:Value}{k n a:Int}{s:ByteArray}{i:Option Addr}{al ac:Nat}{ta:Option Addr}{tl tc:Nat}{na:Option Addr}{p nc:Nat}{q o:Value}{us j:List Value}(h:bU B O w mb en aC m k n a s i al ac ta tl tc na p nc q o us j)(c:Src O w l xv)(b:m.st.length+l.length<=100000000):Calls prog 115 #[.pointer (some ⟨mb,0,none⟩),xv] w (Yg B O w mb en aC { m with st:=l.reverse++m.st } k n a s i al ac ta tl tc na p nc o j):=by refine (G9 h.blk h.jL c (by have:=h.low _ h.mine.1;have:=h.high _ h.mine.1;omega) (by rw[ue];exact b)).mono ?_;rintro e u ⟨rfl,t,r,w',g,f,d,rfl⟩;have:=h.Fv (st:=l.reverse++m.st) (by rw[qe7,je2];exact g) f d;exact⟨rfl,_,this.1,_,_,this.2⟩
def Ha{l:List Va}{xv:Value}(h:dm B O w mb en aC m)(c:Src O w l xv)(b:m.st.length+l.length<=100000000):Calls prog 115 #[.pointer (some ⟨mb,0,none⟩),xv] w (K8 B O w mb en aC { m with st:=l.reverse++m.st }):=by obtain⟨k,n,a,s,aa,al,ac,ta,tl,tc,na,nl,nc,sv,fv,us,fs,h⟩:=h;refine (BG h c b).mono ?_;rintro e w' ⟨d,O',f,sv,us,g⟩;exact⟨d,O',f,_,_,_,_,_,_,_,_,_,_,_,_,_,_,_,_,_,g⟩
end
open Go.ChangeShapes Go.WideShapes Go.ChangeAt Go.RowKit Go.Shelf
attribute [local go_sem] Oper.semAt_some
def YP (Bs b:Nat) (W W':World):Prop:=∀o,W'.cell? ⟨Bs,o,none⟩=W.cell? ⟨Bs,o,none⟩/\W'.cell? ⟨b,o,none⟩=W.cell? ⟨b,o,none⟩
section
variable {α:Type}{encs:α->Array Value}
def PX(F:Fence)(n:Nat)(h1:F.fn 210)(C:F.round=none)(hn:1<=n)(l w b u cap:Nat)(V:Nat->Value)(xs:List α)(P:xs.length<=100000000)(t:∀r (h:r<xs.length),encs xs[r]=#[.i ((xs.length - 1 - r:Nat):Int),V (xs.length - 1 - r)])(J D:List α->World->Prop)
 (hY:∀c x W,J c W->c.length<xs.length->YieldAt F (n - 1) prog l (encs x) W λe d=>(e =.returned (.bool true)/\J (c++[x]) d/\YP w b W d)\/(e =.returned (.bool false)/\D (c++[x]) d))
 (W:World) (hBs:W.cell? ⟨w,0,none⟩=some (.slice (some ⟨b,u,none⟩) xs.length cap)) (hc:∀j,j<xs.length->AX (λ_=>True) W (some ⟨b,u,none⟩) j (V j)) (h0:J [] W) :
 CallsIn F n prog 210 #[.func (.yield l) #[] #[],.pointer (some ⟨w,0,none⟩)] W λe d=>(∃v,e =.returned v)/\((∃ys,ys=xs/\J ys d)\/(∃c,(∃k,k<=xs.length/\c=xs.take k)/\D c d)):=by
 refine callsIn_of_wp func210 rfl h1 ?_ C;simp only[ntmps210,je1,jn,xT,Nat.reduceAdd,Nat.reduceSub,jh0,jg7,List.push_toArray,List.append_toArray,qf0,qd2];have ad:wrap64 ((xs.length:Int) - 1)=(xs.length:Int) - 1:=ZV
 gi_wp2
 gi_loopw [3] (λi wr=>∃k:Nat,k<=xs.length/\i =.i ((xs.length:Int) - 1 - k)/\J (xs.take k) wr/\YP w b W wr) (λi _=>(intOf i+1).toNat)
 case atStart=>exact⟨0,kB _,ot,h0,λ_=>⟨rfl,rfl⟩⟩
 case round =>
  obtain⟨k,hk,rfl,f,a⟩:=hrel;have O:=(a 0).1.trans hBs
  by_cases s:k<xs.length
  .obtain⟨fn,Q,y,E,z,hR⟩:=hY (xs.take k) xs[k] wr f Kd;rw[t k s]at z;obtain⟨bb,oo,eb,_,k1,n1,a1,s1,aa,al,ac,ta,tl,tc,na,nl,nc,e2,G,H,I,K,L,M,N⟩:=hc (xs.length - 1 - k) od;cases eb;rw[e2]at z;unfold bg at z;have R:=(a _).2.trans G;have S:=(a _).2.trans H;have T:=(a _).2.trans I;have U:=(a _).2.trans K;have X:=(a _).2.trans L;have Y:=(a _).2.trans M;have Z:=(a _).2.trans N;obtain⟨q,hq⟩:∃q:Nat,xs.length - 1 - k=q:=⟨_,rfl⟩;have B:(xs.length:Int) - 1 - k=(q:Int):=by omega
   have ab:q<xs.length:=od
   rw[hq]at z R S T U X Y Z;rw[B];clear G H I K L M N hc t hBs;have ae:wrap64 ((q:Int) - 1)=(q:Int) - 1:=ZV
   have m:xs.take (k+1)=xs.take k++[xs[k]]:=by rw[List.take_add_one,qt s];rfl
   gi_wp2
   refine hR.mono ?_;rintro e W3 (⟨rfl,A,p⟩|⟨rfl,g⟩)
   .gi_wp2
    go_roundw
    case rel=>exact⟨k+1,od,by congr 1;omega,by rw[m];exact A,λo=>⟨(p o).1.trans (a o).1,(p o).2.trans (a o).2⟩⟩
    case measure=>simp[intOf]
   .gi_wp2
    refine zv (results_none rfl _ _ _) rfl ?_;exact⟨⟨_,rfl⟩,.inr ⟨_,⟨k+1,od,m.symm⟩,g⟩⟩
  .obtain rfl:k=xs.length:=by omega
   gi_wp2
   go_end0
   exact⟨⟨_,rfl⟩,.inl ⟨_,rfl,by simpa using f⟩⟩
def PW(F:Fence)(n:Nat)(j:F.fn 210)(d:F.round=none)(l f c:Nat)(a:Option Addr)(J:List α->World->Prop)(W:World)(k:W.cell? ⟨f,0,none⟩=some (.slice a 0 c))(h:J [] W) :
 CallsIn F n prog 210 #[.func (.yield l) #[] #[],.pointer (some ⟨f,0,none⟩)] W λe g=>(∃v,e =.returned v)/\J [] g:=by
 refine callsIn_of_wp func210 rfl j ?_ d;simp only[ntmps210,je1,jn,xT,Nat.reduceAdd,Nat.reduceSub,jh0,jg7,List.push_toArray,List.append_toArray,qf0,qd2]
 gi_wp2
 gi_loopw [3] (λi wr=>i =.i (-1)/\J [] wr) (λ_ _=>0)
 case atStart=>exact⟨rfl,h⟩
 case round =>
  obtain⟨rfl,b⟩:=hrel
  gi_wp2
  go_end0
  exact⟨⟨_,rfl⟩,b⟩
def TJ(F:Fence)(n:Nat)(d:F.fn 191)(c:F.round=none)(a:Option Addr)(b cap:Nat)(w:World) :
 CallsIn F n prog 191 #[.slice a b cap] w λe w'=>e =.returned (.func (.func 210) #[] #[.pointer (some ⟨w.heap.size,0,none⟩)])/\w'=w.alloc (.cells #[.slice a b cap] 28):=by
 refine callsIn_of_wp func191 rfl d ?_ c;simp only[ntmps191,je1,jn,xT,Nat.reduceAdd,Nat.reduceSub,jh0,jg7,List.push_toArray,List.append_toArray,qf0,qd2]
 gi_wp2
 go_ret;exact⟨rfl,rfl⟩
def Je(F:Fence)(n:Nat)(z:F.fn 210)(m:F.round=none)(E:1<=n)(d b c:Nat)(a:Option Addr)(V:Nat->Value)(xs:List α)(g:xs.length<=100000000)(u:∀r (h:r<xs.length),encs xs[r]=#[.i ((xs.length - 1 - r:Nat):Int),V (xs.length - 1 - r)])
 (w:World) (hb:xs≠[]->∀q o,a=some ⟨q,o,none⟩->b=q) (hsz:d<w.heap.size) (hBs:w.cell? ⟨d,0,none⟩=some (.slice a xs.length c)) (hc:∀j,j<xs.length->AX (λ_=>True) w a j (V j)) :
 SeqStopsK F n prog 210 #[.pointer (some ⟨d,0,none⟩)] encs (YP d b) (λys=>ys=xs) (λv=>∃k,k<=xs.length/\v=xs.take k) xs.length w:=λl J B W A _ _ C y=>by
 have f:=(A.cell (p:=⟨d,0,none⟩) hsz).trans hBs
 cases xs with
 | nil=>exact (PW F n z m l d c a J W f y).mono λe G ⟨D,s⟩=>⟨D,.inl ⟨_,rfl,s⟩⟩
 | cons x r =>
  obtain⟨q,o,rfl,_⟩:=hc 0 ot;have:=hb ot q o rfl;subst this;exact PX F n z m E l d b o c V (x::r) g u J B C W f (λj s=>(hc j s).same λq o _ t=>A.cell (p:=⟨q,o,none⟩) t) y
end
