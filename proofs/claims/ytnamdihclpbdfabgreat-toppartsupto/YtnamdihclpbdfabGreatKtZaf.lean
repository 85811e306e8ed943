import Derived.Test.YtnamdihclpbdfabGreatKtZae
import Derived.Deep.RegionWith
import Derived.Deep.RegionHeld3
import Derived.Deep.DeepCutAuto
namespace Go.Proofs.YtnamdihclpbdfabGreat
set_option linter.all false
open Go.Proofs.Tryz
set_option maxRecDepth 100000
set_option maxHeartbeats 4000000
open Pe
def Jp(t:Int):Hd ⟨63,[iA t],aQ (jH t)⟩:=by
 by_cases a:1<=t
 .rw[show jH t=decide (t<=15) by simp[jH,a]];exact runT func63 [(4,bA true)] [] (al (is_le a) al0)
 .rw[show jH t=false by simp[jH,a]];exact runT func63 [(4,bA false)] [] (al (QA a) al0)
def Z9(t:Int):Hd ⟨64,[iA t],.of (iA (bT t))⟩:=by
 by_cases a:t=9\/t=10\/t=15
 .rw[show bT t=1 from if_pos a];rcases a with rfl|rfl|rfl<;>exact aF func64 []
 .by_cases b:t=11\/t=12\/t=13\/t=14
  .rw[show bT t=2 by unfold bT;rw[if_neg a,if_pos b]];rcases b with rfl|rfl|rfl|rfl<;>exact aF func64 []
  .rw[show bT t=0 by unfold bT;rw[if_neg a,if_neg b]];exact runT func64 [(5,bA false),(6,bA false),(7,bA false),(9,bA false),(10,bA false),(11,bA false),(12,bA false)] [] (al (show nq t 9 from oL od) (al (show nq t 10 from oL od) (al (show nq t 15 from oL od) (al (show nq t 11 from oL od) (al (show nq t 12 from oL od) (al (show nq t 13 from oL od) (al (show nq t 14 from oL od) al0)))))))
def xI (d:Nat) (T:Ty) (c:Int):Bool:=j5 d T&&decide (c+T.size<=300)
def wG (d:Nat) (l:aw) (c:Int):Bool:=ig d l&&decide (c+tysizes l<=300)
def fmH (d:Nat) (c:Int):Hp:=⟨[(800100,[.d (.v (.i c))]),(800101,[.d (.v (.i (.ofNat d)))]),(800102,[.p 800100 0])],[]⟩
def Fm1 (d:Nat) (T:Ty):Prop:=∀c:Int,0<=c->c<=300->∃c':Int,(xI (d+1) T c->c'=c+T.size)/\HX 66 [tyA T,.one (.p 800101 0),.one (.p 800102 0)] (aQ (xI (d+1) T c)) (fmH d c) (fmH d c')
abbrev evL (β:Nat->Option Nat) (S:St) (ex:Nat) (q:St):Prop:=@vO (qh β) prog f65.ntmps ⟨gF f65,S,ex,q⟩
def fmS (d:Nat) (c:Int):St:=[((800101,0),.of (iA c)),((800102,0),.of (jA d)),((800103,0),.of (.one (.p 800100 0)))]
def evS (ts:aw) (j d:Nat) (c:Int):St:=[((0,1),.of (.one (.c 66 [800101,800102]))),((0,7),.of (dZ ts)),((0,8),lW (tysD ts).length),((0,9),.of (jA j))]++fmS d c
def JX{ts:aw}(w:ts.length<=100){d:Nat}(H:∀T∈ts,Fm1 d T):∀(l:aw) (j:Nat),ts.drop j=l->∀c:Int,0<=c->c<=300->∃g:Int,(wG (d+1) l c->g=c+tysizes l) /\
 (wG (d+1) l c->∀β,evL β (evS ts j d c) 2 (fmS d g))/\(wG (d+1) l c=false->∀β,evL β (evS ts j d c) 1 (((0,4),aQ false)::fmS d g))
 | [],j,f,c,h0,m=>by
  have k:ts.length<=j:=by have:=congrArg List.length f;simp at this;omega
  refine⟨c,λ_=>by simp[tysizes],λ_ β=>?_,λh=>by simp[wG,ig,tysizes,m]at h⟩;exact fF (e:=1) [(10,bA false)] [] (al (show mD (aQ (decide (Int.ofNat j<((tysD ts).length:Int)))) (bA false) from wH Ok) al0)
 | .nd t a::l,j,f,c,h0,m=>by
  have k:j<ts.length:=qa4 λh=>by rw[qb7 od]at f;cases f
  have p:ts[j]?=some (.nd t a):=by rw[kB k]at f;rw[qt k];exact congrArg some (qe2 f).1
  have x:ts.drop (j+1)=l:=by rw[kB k]at f;exact (qe2 f).2
  have⟨v,i,hF⟩:=H _ (jz p) c h0 m;have s:mD (aQ (decide (Int.ofNat j<((tysD ts).length:Int)))) (bA true):=is_lt Ok;have u:=EK p;have y:mD (lW (IntKind.i64.wrap (Int.ofNat j+1))) (jA (j+1)):=yY (zF oe ot ot);have z:=Cz (.nd t a)
  cases b:xI (d+1) (.nd t a) c with
  | false =>
   rw[b]at hF;have r:¬wG (d+1) (.nd t a::l) c:=λh=>by
    simp only[wG,xI,ig,tysizes,je1,qv,jt,ka2,qd6]at h b;rcases b with b|b
    .rw[h.1.1]at b;cases b
    .first|(have:=h.2;omega)|(have:=qc4 h.2;omega)
   exact⟨v,λh=>absurd h r,λh=>absurd h r,λ_ β=>fF (e:=0) [(10,bA true),(11,.one (.e (tyD (.nd t a)) 0))] [⟨_,hF⟩] (al s (al u al0))⟩
  | true =>
   rw[b]at hF i;obtain rfl:=i rfl;simp only[xI,qv,jt]at b;have⟨g,n,o⟩:=JX w H l (j+1) x (c+((Ty.nd t a).size:Int)) od b.2;have e:wG (d+1) (.nd t a::l) c=wG (d+1) l (c+((Ty.nd t a).size:Int)):=by
    simp only[wG,ig,b.1,qa3,tysizes]
    congr 2
    simp only[je1,eq_iff_iff];omega
   rw[e];have F:=λ(β:Nat->Option Nat) {ex:Nat} {q:St} (h:evL β (evS ts (j+1) d (c+((Ty.nd t a).size:Int))) ex q)=>(jC [(10,bA true),(11,.one (.e (tyD (.nd t a)) 0)),(17,jA (j+1))] [⟨_,hF⟩] h (al s (al u (al y al0))):evL β (evS ts j d c) ex q);exact⟨g,λh=>by rw[n h];simp only[tysizes];omega,λh β=>F β (o.1 h β),λh β=>F β (o.2 h β)⟩
def M4{ts:aw}(i:ts.length<=100){d:Nat}(H:∀T∈ts,Fm1 d T){c:Int}(h0:0<=c)(h:c<=300):∃b:Int,(wG (d+1) ts c->b=c+tysizes ts) /\
 HX 65 [dZ ts,.one (.c 66 [800101,800102])] (aQ (wG (d+1) ts c)) (fmH d c) (fmH d b):=by
 have⟨b,j,f⟩:=JX i H ts 0 rfl c h0 h;have e:=wI (S:=evS ts 0 d c) (q:=gF f65=gF f65) rfl (ps:=[]) al0;refine⟨b,j,?_⟩;have e:=wI (S:=evS ts 0 d c) (q:=gF f65=gF f65) rfl (ps:=[]) al0
 cases g:wG (d+1) ts c with
 | true=>exact bH func65 [] [_] [] (λβ x a=>by rw[qu]at a;subst a;exact f.1 g β) e
 | false=>exact bH func65 [] [_] [] (λβ x a=>by rw[qu]at a;subst a;exact f.2 g β) e
def Rn{d:Nat}{T:Ty}(h:∀c:Int,0<=c->c<=300->∃b:Int,(xI (d+1) T c->b=c+T.size)/\HX 41 [tyA T,jA (d+1),.one (.p 800100 0)] (aQ (xI (d+1) T c)) ⟨[(800100,[.d (.v (.i c))])],[]⟩ ⟨[(800100,[.d (.v (.i b))])],[]⟩)(k:d<=24):Fm1 d T:=λc e f=>by have⟨b,g,hF⟩:=h c e f;have j:mD (lW (IntKind.i64.wrap (Int.ofNat d+1))) (jA (d+1)):=yY (zF oe ot ot);have⟨t,a⟩:=T;exact⟨b,g,bH func66 [(7,jA (d+1))] [] [⟨_,hF⟩] oe (al j al0)⟩
mutual
def H_formed:∀(T:Ty) (d:Nat),okT T->d<=25->∀c:Int,0<=c->c<=300->∃j:Int,(xI d T c->j=c+T.size)/\HX 41 [tyA T,jA d,.one (.p 800100 0)] (aQ (xI d T c)) ⟨[(800100,[.d (.v (.i c))])],[]⟩ ⟨[(800100,[.d (.v (.i j))])],[]⟩
 | .nd t a,d,u,B,c,y,A=>by
  have g:mD (lW (IntKind.i64.wrap (c+1))) (iA (c+1)):=yY (zF rfl od od);have l:(Ty.nd t a).size=1+tysizes a:=by simp only[Ty.size];omega
  by_cases z:24<d
  .refine⟨c+1,λh=>?_,?_⟩
   .simp only[xI,j5,qv,jt]at h;omega
   .rw[show xI d (.nd t a) c=false by simp[xI,j5,show ¬d<=24 by omega]];exact bH func41 [(10,iA (c+1)),(13,bA true)] [] [] oe (al g (al (is_lt (show (24:Int)<Int.ofNat d by simp;omega)) al0))
  have k:mD (aQ (decide ((24:Int)<Int.ofNat d))) (bA false):=wH ot
  by_cases o:300<c+1
  .refine⟨c+1,λh=>?_,?_⟩
   .simp only[xI,j5,qv,jt]at h;omega
   .rw[show xI d (.nd t a) c=false by simp only[xI,l,ka2,qd6];right;omega];exact bH func41 [(10,iA (c+1)),(13,bA false),(18,bA true)] [] [] oe (al g (al k (al (is_lt o) al0)))
  have m:mD (aQ (decide ((300:Int)<c+1))) (bA false):=wH o;have b:=Jp t;have q:=Z9 t
  cases e:jH t with
  | false =>
   rw[e]at b;refine⟨c+1,λh=>?_,?_⟩
   .simp[xI,j5,e]at h
   .rw[show xI d (.nd t a) c=false by simp[xI,j5,e]];exact bH func41 [(10,iA (c+1)),(13,bA false),(18,bA false)] [] [⟨_,b⟩] oe (al g (al k (al m al0)))
  | true =>
   rw[e]at b
   by_cases f:(a.length:Int)=bT t
   .have n:jJ (!decide (((tysD a).length:Int)=bT t)) false:=eT (by simp[eY,f]);have r:a.length<=100:=by
     have : bT t<=2:=by unfold bT;split<;>(try split)<;>omega
     omega
    have⟨j,s,hF⟩:=M4 r (d:=d) (c:=c+1) (λT b=>Rn (λc w x=>H_formeds a (d+1) u.2 od T b c w x) od) od od;refine⟨j,λh=>?_,?_⟩
    .rw[s]
     .omega
     .simp only[xI,j5,wG,l,qv]at h|-;exact⟨h.1.2,zj (by first|(have:=h.2;omega)|(have:=qc4 h.2;omega))⟩
    .rw[show xI d (.nd t a) c=wG (d+1) a (c+1) by
      simp only[xI,j5,wG,l,e,f,show d<=24 by omega,decide_true,qa3,Bool.and_self]
      congr 2;simp only[je1,eq_iff_iff];omega]
     exact bH func41 [(10,iA (c+1)),(13,bA false),(18,bA false),(31,bA false)] [] [⟨_,b⟩,⟨_,q⟩,⟨_,(HX.to hF 800101 4).to 800102 5⟩] oe (al g (al k (al m (al n al0))))
   .have n:jJ (!decide (((tysD a).length:Int)=bT t)) true:=eT (by simp[eY,f]);refine⟨c+1,λh=>?_,?_⟩
    .simp[xI,j5,f]at h
    .rw[show xI d (.nd t a) c=false by simp[xI,j5,f]];exact bH func41 [(10,iA (c+1)),(13,bA false),(18,bA false),(31,bA true)] [] [⟨_,b⟩,⟨_,q⟩] oe (al g (al k (al m (al n al0))))
def H_formeds:∀(l:aw) (d:Nat),okTs l->d<=25->∀T∈l,∀c:Int,0<=c->c<=300->∃b:Int,(xI d T c->b=c+T.size)/\HX 41 [tyA T,jA d,.one (.p 800100 0)] (aQ (xI d T c)) ⟨[(800100,[.d (.v (.i c))])],[]⟩ ⟨[(800100,[.d (.v (.i b))])],[]⟩
 | [],_,_,_,_,h=>by cases h
 | T::l,d,g,f,a,h=>by
  by_cases e:a=T
  .rw[e];exact H_formed T d g.1 f
  .exact H_formeds l d g.2 f a (by rcases ke.1 h with h|h;exact absurd h e;exact h)
end
def Ey (f:FuncId):X:=.d (.v (.func (.func f) #[] #[]))
def U3(T:Ty):Hd ⟨88,[tyA T],.of (dZ T.args)⟩:=by have⟨t,a⟩:=T;exact aF func88 []
def abZ(T:Ty):Hd ⟨134,[tyA T],.of (if T.t=14 then nilA else dZ T.args)⟩:=by
 have⟨t,a⟩:=T
 by_cases h:t=14
 .subst h;exact aF func134 []
 .rw[if_neg (show ¬(Ty.nd t a).t=14 from h)];exact runT func134 [(5,bA false)] [] (al (show nq t 14 from oL h) al0)
def Z0(t:Int):Hd ⟨89,[iA t],aQ (Qd t)⟩:=by
 by_cases h:t=8\/t=10\/t=13\/t=14\/t=15
 .rw[show Qd t=false by simp only[Qd,qd6];omega];rcases h with rfl|rfl|rfl|rfl|rfl<;>exact aF func89 []
 .rw[show Qd t=jH t by simp only[Qd,jH,qh7];omega];exact runT func89 [(5,bA false),(6,bA false),(7,bA false),(8,bA false),(9,bA false)] [⟨_,Jp t⟩] (al (show nq t 8 from oL od) (al (show nq t 10 from oL od) (al (show nq t 13 from oL od) (al (show nq t 14 from oL od) (al (show nq t 15 from oL od) al0)))))
def oZ{t k:Int}{b:Bool}(h:decide (t≠k)=b):jJ (!decide (t=k)) b:=eT (by rw[<-h];simp)
def Z5(t:Int):Hd ⟨202,[iA t],aQ (Qe t)⟩:=by
 by_cases h:t=15
 .subst h;exact aF func202 []
 .rw[show Qe t = !decide (t=8) by simp[Qe,h]];exact runT func202 [(4,bA true)] [] (al (oZ (zj h)) al0)
def Z8(t:Int):Hd ⟨208,[iA t],aQ (LU t)⟩:=by
 by_cases h:t=8
 .subst h;exact aF func208 []
 .by_cases a:t=14
  .subst a;exact aF func208 []
  .rw[show LU t = !decide (t=15) by simp[LU,h,a]];exact runT func208 [(4,bA true),(7,bA true)] [] (al (oZ (zj h)) (al (oZ (zj a)) al0))
def Vv(t:Int):Hd ⟨135,[iA t],aQ (Kz t)⟩:=by rw[show Kz t = !decide (t=8) by simp[Kz]];exact aF func135 []
def wl (inn:Int->Bool) (T:Ty):aw:=if inn T.t then T.args else []
def EY (inn:Int->Bool) (T:Ty):List aw:=if wl inn T=[]then []else [wl inn T]
def Lj (l:List aw):List bd:=l.map λts=>[.s 2 (tysD ts)]
def Ra(l:List aw):(Lj l).length=l.length:=by simp[Lj]
def Lv(l:List aw)(n:Nat):(Lj l).take n=Lj (l.take n):=by simp[Lj]
def lkB (kw kt kf:Nat) (w f:FuncId) (K n:Nat):List (Nat×List X):=[(kw,[Ey w]),(kt,[.g K 1 n]),(kf,[Ey f])]
def lkH (w f:FuncId) (K n:Nat) (td:List aw):Hp:=⟨lkB 800101 800102 800103 w f K n,[(K,.kv 23 1 (Lj td))]⟩
structure adD (w f:FuncId) (inn fb:Int->Bool):Prop where
 c:(w=88/\(f=89\/f=208))\/(w=134/\(f=202\/f=135))
 w:∀T,Hd ⟨w,[tyA T],.of (if inn T.t then dZ T.args else nilA)⟩
 f:∀t,Hd ⟨f,[iA t],aQ (fb t)⟩
section
variable {w f:FuncId}{inn fb:Int->Bool}(A:adD w f inn fb)
include A
def zh(T:Ty)(td:List aw){n:Nat}(hn:n<=td.length)(u:n<=90000000):∃b k,(k=n+(EY inn T).length/\k<=b.length/\b.take k=td.take n++EY inn T)/\HX 104 [tyA T,.one (.p 800101 0),.one (.p 800102 0),.one (.p 800103 0)] (aQ (fb T.t)) (lkH w f 2900001 n td) (lkH w f 2900002 k b):=by
 have i:=A.w T;have l:=A.f T.t;have⟨t,a⟩:=T
 by_cases h:wl inn (.nd t a)=[]
 .refine⟨td,n,⟨by simp[EY,h],hn,by simp[EY,h]⟩,?_⟩;refine HX.post (res:=aQ (fb t)) (H':=lkH w f 2900001 n td) ?_ 2900001 2900002;simp only[wl]at h
  cases j:inn (Ty.nd t a).t with
  | false=>rw[j]at i;rcases A.c with⟨rfl,rfl|rfl⟩|⟨rfl,rfl|rfl⟩<;>exact bH func104 [] [] [⟨_,i⟩,⟨_,l⟩] oe al0
  | true=>rw[j]at i h;obtain rfl:a=[]:=h;rcases A.c with⟨rfl,rfl|rfl⟩|⟨rfl,rfl|rfl⟩<;>exact bH func104 [] [] [⟨_,i⟩,⟨_,l⟩] oe al0
 .have j:inn (Ty.nd t a).t:=by cases e:inn (Ty.nd t a).t with|true=>rfl|false=>simp[wl,e]at h
  have m:wl inn (.nd t a)=a:=by simp only[wl,j];rfl
  rw[j]at i;rw[m]at h;obtain⟨x,r,rfl⟩:∃x r,a=x::r:=by cases a with|nil=>exact absurd rfl h|cons x r=>exact⟨x,r,rfl⟩
  have o:EY inn (.nd t (x::r))=[x::r]:=by simp[EY,m]
  refine⟨td.take n++[x::r],n+1,⟨by rw[o];rfl,ot,by rw[o,ub ot]⟩,?_⟩;refine HX.post (res:=aQ (fb t)) (H':=lkH w f 2000016 (n+1) (td.take n++[x::r])) ?_ 2000016 2900002;have e:rowsLe ((Lj td).take n++[[.s 2 (tysD (x::r))]]) (Lj (td.take n++[x::r])):=by rw[Lv];simp only[Lj,ux];exact rows_refl _
  have g:zV 24 n (Lj td) [[.s 2 (tysD (x::r))]]:=iL (by rw[Ra];exact hn) oe rfl ot ov;have q:mD (aQ (decide ((0:Int)<((tysD (x::r)).length:Int)))) (bA true):=is_lt (by simp[eY]);rcases A.c with⟨rfl,rfl|rfl⟩|⟨rfl,rfl|rfl⟩<;>exact bH func104 [(12,bA true),(2000016,.one (.d (.s 1 (Lj (td.take n++[x::r])))))] [] [⟨_,i⟩,⟨_,l⟩] oe (al q (al e (al g al0)))
def fwX (w f:FuncId) (n:Nat) (td:List aw):St:=[((800102,0),.of (.one (Ey w))),((800103,0),.of (.one (.g 3000015 1 n))),((800104,0),.of (.one (Ey f))),((3000016,0),.kv 23 1 (Lj td))]
def lkS (w f:FuncId) (ts:aw) (j n:Nat) (td:List aw):St:=[((0,1),.of (.one (.c 104 [800101,800102,800103]))),((0,7),.of (dZ ts)),((0,8),lW (tysD ts).length),((0,9),.of (jA j))]++fwX w f n td
omit A in
def acx(T:Ty):(EY inn T).length<=1:=by unfold EY;split<;>simp
def JZ{ts:aw}(C:ts.length<=50000000):∀(l:aw) (j:Nat),ts.drop j=l->∀(td:List aw) (n:Nat),n<=td.length->n+l.length<=90000000->∃(b:List aw) (d:Nat),(l.all (λT=>fb T.t)->d=n+(l.flatMap (EY inn)).length/\d<=b.length/\b.take d=td.take n++l.flatMap (EY inn)) /\
 (l.all (λT=>fb T.t)->∀β,evL β (lkS w f ts j n td) 2 (fwX w f d b))/\(l.all (λT=>fb T.t)=false->∀β,evL β (lkS w f ts j n td) 1 (((0,4),aQ false)::fwX w f d b))
 | [],j,c,td,n,m,o=>by
  have k:ts.length<=j:=by have:=congrArg List.length c;simp at this;omega
  refine⟨td,n,λ_=>⟨oe,m,oe⟩,λ_ β=>?_,λh=>by simp at h⟩;exact fF (e:=1) [(10,bA false)] [] (al (show mD (aQ (decide (Int.ofNat j<((tysD ts).length:Int)))) (bA false) from wH Ok) al0)
 | .nd t a::l,j,c,td,n,m,o=>by
  have k:j<ts.length:=qa4 λh=>by rw[qb7 od]at c;cases c
  have D:ts[j]?=some (.nd t a):=by rw[kB k]at c;rw[qt k];exact congrArg some (qe2 c).1
  have G:ts.drop (j+1)=l:=by rw[kB k]at c;exact (qe2 c).2
  simp only[jj]at o;have⟨g,n1,⟨y,z,B⟩,hF⟩:=zh A (.nd t a) td m od;replace hF:=(hF.to 2900001 3000015).post 2900002 2000015;have I:=acx (inn:=inn) (.nd t a);have r:mD (aQ (decide (Int.ofNat j<((tysD ts).length:Int)))) (bA true):=is_lt Ok;have s:=EK D;have H:mD (lW (IntKind.i64.wrap (Int.ofNat j+1))) (jA (j+1)):=yY (zF oe ot ot)
  cases i:fb (Ty.nd t a).t with
  | false =>
   rw[i]at hF;refine⟨g,n1,λh=>by simp[i]at h,λh=>by simp[i]at h,λ_ β=>?_⟩;exact fF (e:=0) [(10,bA true),(11,.one (.e (tyD (.nd t a)) 0))] [⟨_,hF⟩] (al r (al s al0))
  | true =>
   rw[i]at hF;have⟨b,d,E,p⟩:=JZ C l (j+1) G g n1 z od;have e:(Ty.nd t a::l).all (λT=>fb T.t)=l.all (λT=>fb T.t):=by simp[i]
   rw[e];have F:=λ(β:Nat->Option Nat) {ex:Nat} {q:St} (h:evL β (lkS w f ts (j+1) n1 g) ex q)=>(jC [(10,bA true),(11,.one (.e (tyD (.nd t a)) 0)),(17,jA (j+1))] [⟨_,hF⟩] h (al r (al s (al H al0))):evL β (lkS w f ts j n td) ex q);refine⟨b,d,λh=>?_,λh β=>F β (p.1 h β),λh β=>F β (p.2 h β)⟩;have⟨u,v,x⟩:=E h;refine⟨?_,v,?_⟩
   .rw[u,y];simp only[qd0,ju];omega
   .rw[x,B];simp
def Nf{ts:aw}(j:ts.length<=50000000)(td:List aw){n:Nat}(hn:n<=td.length)(i:n+ts.length<=90000000):∃a b,(ts.all (λT=>fb T.t)->b=n+(ts.flatMap (EY inn)).length/\b<=a.length/\a.take b=td.take n++ts.flatMap (EY inn)) /\
 HX 65 [dZ ts,.one (.c 104 [800101,800102,800103])] (aQ (ts.all λT=>fb T.t)) (lkH w f 2000015 n td) (lkH w f 3000015 b a):=by
 have⟨a,b,k,e⟩:=JZ A j ts 0 rfl td n hn i;refine⟨a,b,k,?_⟩;have h:=wI (S:=lkS w f ts 0 n td) (q:=gF f65=gF f65) rfl (ps:=[]) al0
 cases g:ts.all (λT=>fb T.t)with
 | true=>exact bH func65 [] [_] [] (λβ x d=>by rw[qu]at d;subst d;exact e.1 g β) h
 | false=>exact bH func65 [] [_] [] (λβ x d=>by rw[qu]at d;subst d;exact e.2 g β) h
omit A
def sJ (inn fb:Int->Bool) (td:List aw):Bool:=td.all λl=>l.all (sW inn fb)
def Rh (td:List aw):Nat:=(td.map tysizes).sum
def IP(a b:List aw):Rh (a++b)=Rh a+Rh b:=by simp[Rh]
def yj(a b:List aw):sJ inn fb (a++b)=(sJ inn fb a&&sJ inn fb b):=by simp[sJ]
def V9(T:Ty):sW inn fb T=(fb T.t&&sJ inn fb (EY inn T)):=by have⟨t,a⟩:=T;simp only[sW,yL,EY,wl];cases b:inn t<;>cases a<;>simp[Ty.t,Ty.args,b,sJ]
def all_psh:∀l:aw,l.all (sW inn fb)=(l.all (λT=>fb T.t)&&sJ inn fb (l.flatMap (EY inn)))
 | []=>rfl
 | T::l=>by rw[xf,xf,qd0,yj,V9,all_psh l];cases fb T.t<;>cases sJ inn fb (EY inn T)<;>simp
def tdz_psh:∀l:aw,Rh (l.flatMap (EY inn))+l.length<=tysizes l
 | []=>jn _
 | .nd t a::l=>by
  have c:=tdz_psh l;have d:Rh (EY inn (.nd t a))<=tysizes a:=by
   unfold EY;split
   .simp[Rh]
   .simp only[wl,Ty.t,Ty.args,Rh,qb2,qg6,je6,List.sum_nil];have h:∀b:Bool,tysizes (if b then a else [])<=tysizes a:=λb=>by cases b<;>simp[tysizes]
    exact h _
  simp only[qd0,IP,jj,tysizes,Ty.size];omega
def acy{l:aw} : ∀q∈l.flatMap (EY inn),q≠[]:=λq b=>by
 have⟨T,_,a⟩:=qb1.1 b;unfold EY at a;split at a
 .cases a
 .rw[qu]at a;subst a;assumption
def len_tdz:∀{td:List aw},(∀l∈td,l≠[])->td.length<=Rh td
 | [],_=>yb _
 | l::td,h=>by
  have b:=len_tdz (td:=td) (λq a=>h q (by simp[a]));have c:1<=tysizes l:=by
   cases l with
   | nil=>exact absurd rfl (h _ oe)
   | cons T l=>have:=Cz T;simp only[tysizes];omega
  simp only[jj,Rh,qb2,je6]at *;omega
def len_le:∀l:aw,l.length<=tysizes l
 | []=>jn _
 | T::l=>by have:=len_le l;have:=Cz T;simp only[jj,tysizes];omega
abbrev alL (S:St) (ex:Nat) (q:St):Prop:=vO prog f87.ntmps ⟨gF f87,S,ex,q⟩
def alS (w f:FuncId) (m:Nat) (td:List aw):St:=[((0,7),.of (.one (.p 7 0))),((0,8),.of (.one (.c 104 [4,7,5]))),((5,0),.of (.one (Ey w))),((6,0),.of (.one (Ey f))),((8,0),.of (.one (.g 3000013 1 m))),((3000014,0),.kv 23 1 (Lj td))]
include A
def all_go:∀(N:Nat) (td:List aw) (m:Nat),m<=td.length->Rh (td.take m)<=N->N<=50000000->(∀l∈td.take m,l≠[])->(sJ inn fb (td.take m)->alL (alS w f m td) 2 [])/\(sJ inn fb (td.take m)=false->alL (alS w f m td) 1 [((0,6),aQ false)])
 | N,td,0,G,v,D,b=>⟨λ_=>xQ (e:=1) [] [] al0,λh=>by simp[sJ]at h⟩
 | N,td,m+1,G,v,D,b=>by
  have⟨l,c⟩:∃l,td.take (m+1)=td.take m++[l]:=⟨td[m]'od,by rw[jc1,qt od];rfl⟩;have u:l≠[]:=b l (by rw[c];simp);have d:Rh (td.take m)+tysizes l<=N:=by rw[c,IP]at v;simpa[Rh]using v
  have C:=len_tdz (td:=td.take m) (λq a=>b q (by rw[c];simp[a]));rw[qc2,jc6 od]at C;have Q:=len_le l;have R:1<=l.length:=List.length_pos_iff.2 u;have⟨M,S,U⟩:=DI (es:=Lj td) (A:=Lj (td.take m)) (r:=[.s 2 (tysD l)]) (m:=m) (n:=1) (by rw[Ra,qc2];omega) (λq a=>by obtain⟨p,_,rfl⟩:=kl.1 a;rfl) rfl (by rw[Lv,c];simp[Lj]);have⟨i,x,E,j⟩:=Nf A (ts:=l) od td (n:=m) od od;replace j:=((((j.to 800101 4).to 800102 7).to 800103 5).to 2000015 3000013).post 3000015 2000013;have H:mD (aQ (decide ((0:Int)<Int.ofNat (m+1)))) (bA true):=is_lt oe;have I:mD (lW (IntKind.i64.wrap (Int.ofNat (m+1) - 1))) (jA m):=yY ZD;have J:(if 1=1/\m<m+1 then some (AV.of (.one (.q 3000013 (m*1))))else none)=some (.of (.one (.q 3000013 (m*1)))):=if_pos ⟨rfl,od⟩;have K:(dY (Lj td) (m*1) 1).bind (mkA false)=some (.of (dZ l)):=by rw[M];rfl
  have L:(if 1=1/\m<=m+1 then some (AV.of (.one (.g 3000013 1 m)))else none)=some (.of (.one (.g 3000013 1 m))):=if_pos ⟨rfl,od⟩;have y:=al H (al I (al J (al K (al L al0))))
  cases k:l.all (λT=>fb T.t)with
  | false =>
   rw[k]at j;refine⟨λh=>?_,λ_=>xQ (e:=0) [(17,bA true),(20,jA m),(23,.one (.q 3000013 (m*1))),(24,dZ l),(27,.one (.g 3000013 1 m))] [⟨_,j⟩] y⟩;rw[c,yj]at h;simp only[sJ,xf,jh4,ka0,qv]at h;have:=all_psh (inn:=inn) (fb:=fb) l;rw[k,qf3]at this;rw[this]at h;cases h.2
  | true =>
   rw[k]at j;have⟨O,B,o⟩:=E k;have P:=tdz_psh (inn:=inn) l;have e:sJ inn fb (td.take (m+1))=sJ inn fb (i.take x):=by
    rw[c,o,yj,yj]
    congr 1
    rw[show sJ inn fb [l]=l.all (sW inn fb) by simp[sJ],all_psh,k,qa3]
   match N,d with
   | 0,d=>omega
   | N+1,d =>
    have z:=all_go N i x B (by rw[o,IP];omega) od (λq a=>by
     rw[o]at a;rcases ka.1 a with a|a
     .exact b q (by rw[c];simp[a])
     .exact acy q a)
    rw[e];have F:=λ{ex:Nat} {q:St} (h:alL (alS w f x i) ex q)=>(LG [(17,bA true),(20,jA m),(23,.one (.q 3000013 (m*1))),(24,dZ l),(27,.one (.g 3000013 1 m))] [⟨_,j⟩] h y:alL (alS w f (m+1) td) ex q);exact⟨λh=>F (z.1 h),λh=>F (z.2 h)⟩
def Ob{T:Ty}(i:T.size<=50000000):Hd ⟨87,[tyA T,.one (Ey w),.one (Ey f)],aQ (sW inn fb T)⟩:=by
 have⟨c,d⟩:=all_go A 50000000 [[T]] 1 (jn _) (by simp[Rh,tysizes];exact i) (jn _) oe;have e:sJ inn fb ([[T]].take 1)=sW inn fb T:=by simp[sJ]
 rw[e]at c d;have⟨t,a⟩:=T;have h:=wI (S:=alS w f 1 [[.nd t a]]) (q:=gF f87=gF f87) rfl (ps:=[]) al0
 cases g:sW inn fb (.nd t a)with
 | true=>exact Ce func87 [(13,nilA)] [_] (λx b=>by rw[qu]at b;subst b;exact c g) [] h
 | false=>exact Ce func87 [(13,nilA)] [_] (λx b=>by rw[qu]at b;subst b;exact d g) [] h
end
def UY{T:Ty}(b:T.size<=50000000):Hd ⟨67,[tyA T],aQ (oF T)⟩:=by have h:=Ob (w:=88) (f:=89) (inn:=Bq) (fb:=Qd) ⟨.inl ⟨rfl,.inl rfl⟩,U3,Z0⟩ b;have⟨t,a⟩:=T;exact aF func67 [⟨_,h⟩]
def U4{T:Ty}(b:T.size<=50000000):Hd ⟨187,[tyA T],aQ (eB T)⟩:=by have h:=Ob (w:=88) (f:=208) (inn:=Bq) (fb:=LU) ⟨.inl ⟨rfl,.inr rfl⟩,U3,Z8⟩ b;have⟨t,a⟩:=T;exact aF func187 [⟨_,h⟩]
def hW:∀T:Ty,Hd ⟨134,[tyA T],.of (if Ap T.t then dZ T.args else nilA)⟩:=λT=>by
 have:=abZ T
 by_cases h:T.t=14
 .rw[if_pos h]at this;rw[show Ap T.t=false by simp[Ap,h]];exact this
 .rw[if_neg h]at this;rw[show Ap T.t by simp[Ap,h]];exact this
def abS{T:Ty}(b:T.size<=50000000):Hd ⟨180,[tyA T],aQ (A7 T)⟩:=by have h:=Ob (w:=134) (f:=202) (inn:=Ap) (fb:=Qe) ⟨.inr ⟨rfl,.inl rfl⟩,hW,Z5⟩ b;have⟨t,a⟩:=T;exact aF func180 [⟨_,h⟩]
def Jg{T:Ty}(b:T.size<=50000000):Hd ⟨117,[tyA T],aQ (storeT T)⟩:=by have h:=Ob (w:=134) (f:=135) (inn:=Ap) (fb:=Kz) ⟨.inr ⟨rfl,.inr rfl⟩,hW,Vv⟩ b;have⟨t,a⟩:=T;exact aF func117 [⟨_,h⟩]
abbrev evN (S:St) (ex:Nat) (q:St):Prop:=vO prog f65.ntmps ⟨gF f65,S,ex,q⟩
def kyS (ts:aw) (j:Nat):St:=[((0,1),.of (.one (Ey 42))),((0,7),.of (dZ ts)),((0,8),lW (tysD ts).length),((0,9),.of (jA j))]
def JY{ts:aw}(m:ts.length<=100)(H:∀T∈ts,Hd ⟨42,[tyA T],aQ (keyedF T)⟩):∀(l:aw) (j:Nat),ts.drop j=l->(l.all keyedF->evN (kyS ts j) 2 [])/\(l.all keyedF=false->evN (kyS ts j) 1 [((0,4),aQ false)])
 | [],j,b=>by
  have d:ts.length<=j:=by have:=congrArg List.length b;simp at this;omega
  exact⟨λ_=>xQ (e:=1) [(10,bA false)] [] (al (show mD (aQ (decide (Int.ofNat j<((tysD ts).length:Int)))) (bA false) from wH Ok) al0),λh=>by simp at h⟩
 | .nd t a::l,j,b=>by
  have d:j<ts.length:=qa4 λh=>by rw[qb7 od]at b;cases b
  have f:ts[j]?=some (.nd t a):=by rw[kB d]at b;rw[qt d];exact congrArg some (qe2 b).1
  have n:ts.drop (j+1)=l:=by rw[kB d]at b;exact (qe2 b).2
  have hF:=H _ (jz f);have g:mD (aQ (decide (Int.ofNat j<((tysD ts).length:Int)))) (bA true):=is_lt Ok;have i:=EK f;have o:mD (lW (IntKind.i64.wrap (Int.ofNat j+1))) (jA (j+1)):=yY (zF oe ot ot)
  cases c:keyedF (.nd t a)with
  | false =>
   rw[c]at hF;exact⟨λh=>by simp[c]at h,λ_=>xQ (e:=0) [(10,bA true),(11,.one (.e (tyD (.nd t a)) 0))] [⟨_,hF⟩] (al g (al i al0))⟩
  | true =>
   rw[c]at hF;have k:=JY m H l (j+1) n;have F:=λ{ex:Nat} {q:St} (h:evN (kyS ts (j+1)) ex q)=>(LG [(10,bA true),(11,.one (.e (tyD (.nd t a)) 0)),(17,jA (j+1))] [⟨_,hF⟩] h (al g (al i (al o al0))):evN (kyS ts j) ex q);rw[xf,c,qa3];exact⟨λh=>F (k.1 h),λh=>F (k.2 h)⟩
def Nc{ts:aw}(f:ts.length<=100)(H:∀T∈ts,Hd ⟨42,[tyA T],aQ (keyedF T)⟩):Hd ⟨65,[dZ ts,.one (Ey 42)],aQ (ts.all keyedF)⟩:=by
 have⟨d,e⟩:=JY f H ts 0 rfl;have c:=wI (S:=kyS ts 0) (q:=gF f65=gF f65) rfl (ps:=[]) al0
 cases b:ts.all keyedF with
 | true=>exact Ce func65 [] [_] (λx a=>by rw[qu]at a;subst a;exact d b) [] c
 | false=>exact Ce func65 [] [_] (λx a=>by rw[qu]at a;subst a;exact e b) [] c
mutual
def H_keyed:∀(T:Ty) (d:Nat),okT T->j5 d T->T.size<=50000000->Hd ⟨42,[tyA T],aQ (keyedF T)⟩
 | .nd t a,d,m,i,j=>by
  simp only[j5,qv,jt]at i;have n:bT t<=2:=by unfold bT;split<;>(try split)<;>omega
  simp only[Ty.size]at j;have h:=Nc (ts:=a) od (λT k=>H_keyeds a (d+1) m.2 i.2 od T k);rw[<-uu]at h
  by_cases f:t=13\/t=15
  .obtain⟨⟨c,b⟩,r,rfl⟩:∃x r,a=x::r:=by
    cases a with
    | nil=>have:=i.1.2.2;unfold bT at this;split at this<;>(try split at this)<;>simp at this<;>omega
    | cons x r=>exact⟨x,r,rfl⟩
   have g:=UY (T:=.nd c b) (by simp only[tysizes]at j;omega);have e:keyedF (.nd t (.nd c b::r))=(oF (.nd c b)&&keyedFs (.nd c b::r)):=by simp[keyedF,uZ,headComp,f]
   rw[e];cases l:oF (.nd c b)<;>rw[l]at g
   .rcases f with rfl|rfl<;>exact aF func42 [⟨_,g⟩]
   .rw[qa3];rcases f with rfl|rfl<;>exact aF func42 [⟨_,g⟩,⟨_,h⟩]
  .have e:keyedF (.nd t a)=keyedFs a:=by simp[keyedF,uZ,f]
   rw[e];exact runT func42 [(5,bA false),(9,bA false)] [⟨_,h⟩] (al (show nq t 13 from oL od) (al (show nq t 15 from oL od) al0))
def H_keyeds:∀(l:aw) (d:Nat),okTs l->ig d l->tysizes l<=50000000->∀T∈l,Hd ⟨42,[tyA T],aQ (keyedF T)⟩
 | [],_,_,_,_,_,h=>by cases h
 | T::l,d,c,a,f,b,h=>by
  simp only[ig,qv]at a;simp only[tysizes]at f
  by_cases e:b=T
  .rw[e];exact H_keyed T d c.1 a.1 od
  .exact H_keyeds l d c.2 a.2 od b (by rcases ke.1 h with h|h;exact absurd h e;exact h)
end
def Cb{T:Ty}(hk:okT T):Hd ⟨28,[tyA T],aQ (au T)⟩:=by
 have⟨c,_,hF⟩:=H_formed T 1 hk od 0 od od;have e:au T=(xI 1 T 0&&keyedF T):=by
  have h:decide (T.size<=300)=decide ((0:Int)+(T.size:Int)<=300):=by rw[qh7];omega
  simp only[au,xI,h]
 rw[e];replace hF:=hF.to 800100 3
 cases b:xI 1 T 0 with
 | false =>
  rw[b]at hF;have⟨t,a⟩:=T;exact aF func28 [⟨_,hF⟩]
 | true =>
  rw[b]at hF;simp only[xI,qv]at b;have hK:=H_keyed T 1 hk b.1 (by have:=qc4 b.2;omega);rw[qa3];have⟨t,a⟩:=T;exact aF func28 [⟨_,hF⟩,⟨_,hK⟩]
abbrev Cp:=aw×aw
def JR (l:List Cp):List bd:=l.map λp=>[.s 2 (tysD p.1),.s 2 (tysD p.2)]
def OW(l:List Cp):(JR l).length=l.length:=by simp[JR]
def JW(l:List Cp)(n:Nat):(JR l).take n=JR (l.take n):=by simp[JR]
def smH (K n:Nat) (td:List Cp):Hp:=⟨[(800100,[.g K 2 n])],[(K,.kv 124 2 (JR td))]⟩
def ZX(x y:Ty)(td:List Cp){n:Nat}(hn:n<=td.length)(c:n<=90000000):HX 75 [tyA x,tyA y,.one (.p 800100 0)] (aQ (decide (x.t=y.t))) (smH 2900001 n td) (smH 2900002 (n+1) (td.take n++[(x.args,y.args)])):=by
 have⟨t,a⟩:=x;have⟨u,b⟩:=y;refine HX.post (res:=aQ (decide (t=u))) (H':=smH 2000013 (n+1) (td.take n++[(a,b)])) ?_ 2000013 2900002;have e:rowsLe ((JR td).take n++[[.s 2 (tysD a),.s 2 (tysD b)]]) (JR (td.take n++[(a,b)])):=by rw[JW];simp only[JR,ux];exact rows_refl _
 have g:zV 48 n (JR td) [[.s 2 (tysD a),.s 2 (tysD b)]]:=iL (by rw[OW];exact hn) oe rfl ot ov;exact bH func75 [(2000013,.one (.d (.s 2 (JR (td.take n++[(a,b)])))))] [] [] oe (al e (al g al0))
abbrev eqL (β:Nat->Option Nat) (S:St) (ex:Nat) (q:St):Prop:=@vO (qh β) prog f61.ntmps ⟨gF f61,S,ex,q⟩
def eqX (n:Nat) (td:List Cp):St:=[((800101,0),.of (.one (.g 3000015 2 n))),((3000016,0),.kv 124 2 (JR td))]
def eqS (p:Cp) (j n:Nat) (td:List Cp):St:=[((0,1),.of (dZ p.2)),((0,2),.of (.one (.c 75 [800100]))),((0,15),.of (dZ p.1)),((0,16),lW (tysD p.1).length),((0,17),.of (jA j))]++eqX n td
def Iz (l:List (Ty×Ty)):Bool:=l.all λq=>decide (q.1.t=q.2.t)
def Tm (l:List (Ty×Ty)):List Cp:=l.map λq=>(q.1.args,q.2.args)
def eq_go{p:Cp}(B:p.1.length<=50000000)(I:p.1.length=p.2.length):∀(l:List (Ty×Ty)) (j:Nat),(p.1.zip p.2).drop j=l->∀(td:List Cp) (n:Nat),n<=td.length->n+l.length<=90000000->∃(c:List Cp) (f:Nat),(Iz l->f=n+l.length/\f<=c.length/\c.take f=td.take n++Tm l) /\
 (Iz l->∀β,eqL β (eqS p j n td) 2 (eqX f c))/\(Iz l=false->∀β,eqL β (eqS p j n td) 1 (((0,6),aQ false)::eqX f c))
 | [],j,d,td,n,o,s=>by
  have m:p.1.length<=j:=by have:=congrArg List.length d;simp at this;omega
  exact⟨td,n,λ_=>⟨oe,o,by simp[Tm]⟩,λ_ β=>fF (e:=1) [(18,bA false)] [] (al (show mD (aQ (decide (Int.ofNat j<((tysD p.1).length:Int)))) (bA false) from wH Ok) al0),λh=>by simp[Iz]at h⟩
 | (.nd t a,.nd u b)::l,j,d,td,n,o,s=>by
  have J:(p.1.zip p.2).length=p.1.length:=ot
  have m:j<(p.1.zip p.2).length:=qa4 λh=>by rw[qb7 od]at d;cases d
  have E:(p.1.zip p.2)[j]?=some (.nd t a,.nd u b):=by rw[kB m]at d;rw[qt m];exact congrArg some (qe2 d).1
  have H:(p.1.zip p.2).drop (j+1)=l:=by rw[kB m]at d;exact (qe2 d).2
  have⟨C,D⟩:=List.getElem?_zip_eq_some.1 E;simp only[jj]at s;have hF:=ZX (.nd t a) (.nd u b) td o od;replace hF:=(hF.to 2900001 3000015).post 2900002 2000015;have w:mD (aQ (decide (Int.ofNat j<((tysD p.1).length:Int)))) (bA true):=is_lt Ok;have x:=EK C;have i:=EK D;have K:mD (lW (IntKind.i64.wrap (Int.ofNat j+1))) (jA (j+1)):=yY (zF oe ot ot);have g:n+1<=(td.take n++[(a,b)]).length:=ot
  by_cases k:t=u
  .rw[show decide ((Ty.nd t a).t=(Ty.nd u b).t) from zj k]at hF;have⟨c,f,G,v⟩:=eq_go B I l (j+1) H _ (n+1) g od;have e:Iz ((.nd t a,.nd u b)::l)=Iz l:=by simp[Iz,Ty.t,k]
   rw[e];have F:=λ(β:Nat->Option Nat) {r:Nat} {q:St} (h:eqL β (eqS p (j+1) (n+1) (td.take n++[(a,b)])) r q)=>(jC [(18,bA true),(20,.one (.e (tyD (.nd t a)) 0)),(24,.one (.e (tyD (.nd u b)) 0)),(31,jA (j+1))] [⟨_,hF⟩] h (al w (al x (al i (al K al0)))):eqL β (eqS p j n td) r q);refine⟨c,f,λh=>?_,λh β=>F β (v.1 h β),λh β=>F β (v.2 h β)⟩;have⟨y,z,A⟩:=G h;refine⟨by rw[y,jj];omega,z,?_⟩;rw[A,ub ot];simp[Tm,Ty.args]
  .rw[show decide ((Ty.nd t a).t=(Ty.nd u b).t)=false from xb k]at hF;have e:Iz ((.nd t a,.nd u b)::l)=false:=by simp[Iz,Ty.t,k]
   rw[e];exact⟨td.take n++[(a,b)],n+1,λh=>(by cases h),λh=>(by cases h),λ_ β=>fF (e:=0) [(18,bA true),(20,.one (.e (tyD (.nd t a)) 0)),(24,.one (.e (tyD (.nd u b)) 0))] [⟨_,hF⟩] (al w (al x (al i al0)))⟩
def Z6{p:Cp}(k:p.1.length<=50000000)(td:List Cp){n:Nat}(hn:n<=td.length)(o:n+p.1.length<=90000000):∃a b,(p.1.length=p.2.length->Iz (p.1.zip p.2)->b=n+p.1.length/\b<=a.length/\a.take b=td.take n++Tm (p.1.zip p.2)) /\
 HX 61 [dZ p.1,dZ p.2,.one (.c 75 [800100])] (aQ (decide (p.1.length=p.2.length)&&Iz (p.1.zip p.2))) (smH 2000015 n td) (smH 3000015 b a):=by
 by_cases d:p.1.length=p.2.length
 .have f:(p.1.zip p.2).length=p.1.length:=by simp;omega
  have⟨a,b,l,g⟩:=eq_go k d _ 0 rfl td n hn (by rw[qg1];omega);refine⟨a,b,λ_ h=>by rw[<-f];exact l h,?_⟩;have m:jJ (!decide (((tysD p.1).length:Int)=((tysD p.2).length:Int))) false:=eT (by simp[eY,d]);have j:=wI (S:=eqS p 0 n td) (q:=gF f61=gF f61) rfl (ps:=[jJ (!decide (((tysD p.1).length:Int)=((tysD p.2).length:Int))) false]) (al m al0);rw[zj d,qa3]
  cases i:Iz (p.1.zip p.2)with
  | true=>exact bH func61 [(14,bA false)] [_] [] (λβ x e=>by rw[qu]at e;subst e;exact g.1 i β) j
  | false=>exact bH func61 [(14,bA false)] [_] [] (λβ x e=>by rw[qu]at e;subst e;exact g.2 i β) j
 .refine⟨td,n,λh=>absurd h d,?_⟩;rw[xb d,qf3];refine HX.post (res:=aQ false) (H':=smH 2000015 n td) ?_ 2000015 3000015;exact bH func61 [(14,bA true)] [] [] oe (al (show jJ (!decide (((tysD p.1).length:Int)=((tysD p.2).length:Int))) true from eT Ok) al0)
def Fj (td:List Cp):Bool:=td.all λp=>sameTs p.1 p.2
def Xx (td:List Cp):Nat:=(td.map λp=>tysizes p.1).sum
def O7(a b:List Cp):Xx (a++b)=Xx a+Xx b:=by simp[Xx]
def Q3(a b:List Cp):Fj (a++b)=(Fj a&&Fj b):=by simp[Fj]
def same_zip:∀a b:aw,sameTs a b=(decide (a.length=b.length)&&(Iz (a.zip b)&&Fj (Tm (a.zip b))))
 | [],[]=>by simp[sameTs,Iz,Tm,Fj]
 | [],_::_=>by simp[sameTs]
 | _::_,[]=>by simp[sameTs]
 | .nd t x::a,.nd u y::b=>by have c:∀l,Iz ((.nd t x,.nd u y)::l)=(decide (t=u)&&Iz l):=λ_=>rfl;have d:∀l,Fj (Tm ((.nd t x,.nd u y)::l))=(sameTs x y&&Fj (Tm l)):=λ_=>rfl;rw[List.zip_cons_cons,c,d];simp only[sameTs,sameT,same_zip a b,jj,Nat.add_right_cancel_iff];generalize Iz (a.zip b)=e;generalize Fj (Tm (a.zip b))=p2;generalize sameTs x y=f;generalize decide (t=u)=g;generalize decide (a.length=b.length)=h;cases e<;>cases f<;>cases g<;>cases h<;>rfl
def cpz_zip:∀a b:aw,a.length=b.length->Xx (Tm (a.zip b))+a.length<=tysizes a
 | [],_,_=>by simp[Tm,Xx]
 | _::_,[],h=>by cases h
 | .nd t x::a,.nd u y::b,h=>by have:=cpz_zip a b (by simpa using h);simp only[Tm,Xx,List.zip_cons_cons,qb2,je6,Ty.args,jj,tysizes,Ty.size]at *;omega
abbrev ksL (S:St) (ex:Nat) (q:St):Prop:=vO prog f52.ntmps ⟨gF f52,S,ex,q⟩
def ksS (m:Nat) (td:List Cp):St:=[((0,5),.of (.one (.p 5 0))),((0,6),.of (.one (.c 75 [5]))),((6,0),.of (.one (.g 3000014 2 m))),((3000015,0),.kv 124 2 (JR td))]
def same_go:∀(N:Nat) (td:List Cp) (m:Nat),m<=td.length->m+Xx (td.take m)<=N->N<=50000001->(Fj (td.take m)->ksL (ksS m td) 2 [])/\(Fj (td.take m)=false->ksL (ksS m td) 1 [((0,4),aQ false)])
 | N,td,0,u,i,t=>⟨λ_=>xQ (e:=1) [] [] al0,λh=>by simp[Fj]at h⟩
 | 0,td,m+1,u,i,t=>od
 | N+1,td,m+1,u,i,t=>by
  have⟨⟨l,r⟩,j⟩:∃l,td.take (m+1)=td.take m++[l]:=⟨td[m]'od,by rw[jc1,qt od];rfl⟩;have C:m+1+(Xx (td.take m)+tysizes l)<=N+1:=by rw[j,O7]at i;simpa[Xx]using i
  have L:=len_le l;have⟨J,M,O⟩:=DI (es:=JR td) (A:=JR (td.take m)) (r:=[.s 2 (tysD l),.s 2 (tysD r)]) (m:=m) (n:=2) (by rw[OW,qc2];omega) (λq B=>by obtain⟨p,_,rfl⟩:=kl.1 B;rfl) rfl (by rw[JW,j];simp[JR]);have⟨a,k,z,b⟩:=Z6 (p:=(l,r)) (by show l.length<=_;omega) td (n:=m) od (by show m+l.length<=_;omega);replace b:=((b.to 800100 5).to 2000015 3000014).post 3000015 2000014;have D:mD (aQ (decide ((0:Int)<Int.ofNat (m+1)))) (bA true):=is_lt oe;have E:mD (lW (IntKind.i64.wrap (Int.ofNat (m+1) - 1))) (jA m):=yY ZD;have G:(if 2=2/\m<m+1 then some (AV.of (.one (.q 3000014 (m*2))))else none)=some (.of (.one (.q 3000014 (m*2)))):=if_pos ⟨rfl,od⟩;have H:(dY (JR td) (m*2) 2).bind (mkA true)=some (.of (.agg [.d (.s 2 (tysD l)),.d (.s 2 (tysD r))])):=by rw[J];rfl
  have I:(if 2=2/\m<=m+1 then some (AV.of (.one (.g 3000014 2 m)))else none)=some (.of (.one (.g 3000014 2 m))):=if_pos ⟨rfl,od⟩;have v:=al D (al E (al G (al H (al I al0))));have f:Fj (td.take (m+1))=(Fj (td.take m)&&((decide (l.length=r.length)&&Iz (l.zip r))&&Fj (Tm (l.zip r)))):=by rw[j,Q3,show Fj [(l,r)]=sameTs l r by simp[Fj],same_zip,Bool.and_assoc]
  cases c:(decide (l.length=r.length)&&Iz (l.zip r))with
  | false =>
   rw[c]at b f;refine⟨λh=>by rw[f]at h;simp at h,λ_=>xQ (e:=0) [(18,bA true),(21,jA m),(24,.one (.q 3000014 (m*2))),(25,.agg [.d (.s 2 (tysD l)),.d (.s 2 (tysD r))]),(28,.one (.g 3000014 2 m))] [⟨_,b⟩] v⟩
  | true =>
   rw[c]at b f;simp only[qv,jt]at c;have⟨x,y,o⟩:=z c.1 c.2;have K:=cpz_zip l r c.1;have w:=same_go N a k y (by rw[o,O7,x];simp only;omega) od;have e:Fj (td.take (m+1))=Fj (a.take k):=by rw[f,o,Q3,qa3]
   rw[e];have F:=λ{ex:Nat} {q:St} (h:ksL (ksS k a) ex q)=>(LG [(18,bA true),(21,jA m),(24,.one (.q 3000014 (m*2))),(25,.agg [.d (.s 2 (tysD l)),.d (.s 2 (tysD r))]),(28,.one (.g 3000014 2 m))] [⟨_,b⟩] h v:ksL (ksS (m+1) td) ex q);exact⟨λh=>F (w.1 h),λh=>F (w.2 h)⟩
def BR{T U:Ty}(i:T.size<=50000000):Hd ⟨52,[tyA T,tyA U],aQ (sameT T U)⟩:=by
 have⟨d,f⟩:=same_go 50000001 [([T],[U])] 1 (jn _) (by simp[Xx,tysizes];omega) (jn _);have e:Fj ([([T],[U])].take 1)=sameT T U:=by simp[Fj,sameTs]
 rw[e]at d f;have⟨t,a⟩:=T;have⟨u,b⟩:=U;have h:=wI (S:=ksS 1 [([.nd t a],[.nd u b])]) (q:=gF f52=gF f52) rfl (ps:=[]) al0
 cases g:sameT (.nd t a) (.nd u b)with
 | true=>exact Ce func52 [(14,nilA)] [_] (λx c=>by rw[qu]at c;subst c;exact d g) [] h
 | false=>exact Ce func52 [(14,nilA)] [_] (λx c=>by rw[qu]at c;subst c;exact f g) [] h
def aai(k n p:Int)(s:bp)(az:aE)(u:s.size<=maxLen)(t:az.length<=maxLen):Hd ⟨154,[ndA (.nd k n p s az)],.of (iA (Lf.fD k n p s az.length))⟩:=⟨tF func154,λz w y h=>by
 match y,h with
 | [v],⟨h,_⟩ =>
  obtain⟨x,rfl,h⟩:=h
  match x,h with
  | [a,b,c,d,f],⟨j,l,m,o,q,_⟩ =>
   obtain⟨g,i,U,rfl,_⟩:=fH q;rw[bW j,bW l,bW m,bW o,Hf];refine (Lf.OO k n p s g az.length i w t u).mono ?_;rintro e A ⟨rfl,r⟩;exact⟨r,_,rfl,fI.v _⟩⟩
def gdH (c:Nat):Hp:=⟨[(800100,[.d (.v (.i (.ofNat c)))])],[]⟩
def GdH (t:Tr):Prop:=∀d c:Nat,d<=25->c+t.size<=4611686018427387904->∃c':Nat,(bC d t=0->c'=c+t.size)/\HX 136 [ndA t,jA d,.one (.p 800100 0)] (.of (iA (bC d t))) (gdH c) (gdH c')
def gdS (az:aE) (d j c:Nat):St:=[((0,1),.of (jA d)),((0,2),.of (.one (.p 800100 0))),((0,24),.of (CW az)),((0,25),lW (ndsD az).length),((0,26),.of (jA j)),((800101,0),.of (jA c))]
abbrev gdL (β:Nat->Option Nat) (S:St) (ex:Nat) (q:St):Prop:=@vO (qh β) prog f136.ntmps ⟨gF f136,S,ex,q⟩
def J6{az:aE}{d:Nat}(D:d<=24)(H:∀t∈az,GdH t):∀(l:aE) (j:Nat),j<=az.length->az.drop j=l->∀c:Nat,c+sizes l<=4611686018427387904->az.length<=4611686018427387904->∃g:Nat,(bG (d+1) l=0->g=c+sizes l) /\
 (bG (d+1) l=0->∀β,gdL β (gdS az d j c) 2 [((800101,0),.of (jA g))])/\(bG (d+1) l≠0->∀β,gdL β (gdS az d j c) 1 [((0,6),.of (iA (bG (d+1) l))),((800101,0),.of (jA g))])
 | [],j,m,f,c,u,v=>by obtain rfl:j=az.length:=jh6 m (by have:=congrArg List.length f;simp at this;omega);exact⟨c,λ_=>by simp[sizes],λ_ β=>fF (e:=1) [(27,bA false)] [] (al (wH (show ¬Int.ofNat az.length<((ndsD az).length:Int) by simp[Hf])) al0),λh=>absurd (by rw[bG]) h⟩
 | .nd k n p s a::l,j,m,f,c,u,v=>by
  have o:j<az.length:=qa4 λh=>by rw[qb7 od]at f;cases f
  have w:az[j]?=some (.nd k n p s a):=by rw[kB o]at f;rw[qt o];exact congrArg some (qe2 f).1
  rw[sizes]at u|-;have⟨y,z,hF⟩:=H _ (jz w) (d+1) c od od;have x:=λ(l:List Prop) (h:∀p∈l,p)=>al (is_lt (show Int.ofNat j<((ndsD az).length:Int) by simp[Hf];omega)) (al (WV w) (al (yY (zF (b:=Int.ofNat (d+1)) oe ot ot):mD (lW (IntKind.i64.wrap (Int.ofNat d+1))) (jA (d+1))) h));rw[bG];generalize bC (d+1) (.nd k n p s a)=e at *
  by_cases i:e=0
  .subst i;obtain rfl:=z rfl;rw[if_neg oe];have⟨g,A,B,C⟩:=J6 D H l (j+1) o (by rw[kB o]at f;exact (qe2 f).2) (c+(Tr.nd k n p s a).size) od v;have F:=λ(β:Nat->Option Nat) {r:Nat} {q:St} (h:gdL β (gdS az d (j+1) (c+(Tr.nd k n p s a).size)) r q)=>(jC [(27,bA true),(28,.one (.e (ndD (.nd k n p s a)) 0)),(32,jA (d+1)),(38,jA (j+1))] [⟨_,hF⟩] h (x _ (al (yY (show IntKind.i64.wrap (Int.ofNat j+1)=Int.ofNat (j+1) by rw[qa2];simp;omega)) al0)):gdL β (gdS az d j c) r q);exact⟨g,λh=>by rw[A h];omega,λh β=>F β (B h β),λh β=>F β (C h β)⟩
  .rw[if_pos (by simpa using i)];exact⟨y,λh=>absurd h i,λh=>absurd h i,λ_ β=>fF (e:=0) [(27,bA true),(28,.one (.e (ndD (.nd k n p s a)) 0)),(32,jA (d+1)),(36,bA true)] [⟨_,hF⟩] (x _ (al (oZ (zj i)) al0))⟩
mutual
def H_first:∀t:Tr,okN t->GdH t
 | .nd k n p s a,j=>λd c y r=>by
  by_cases b:24<d
  .refine⟨c,λh=>(by rw[bC,if_pos b]at h;cases h),?_⟩;rw[bC,if_pos b];exact bH func136 [(12,bA true)] [] [] oe (al (is_lt (show (24:Int)<Int.ofNat d by simp;omega)) al0)
  have l:=wH (show ¬(24:Int)<Int.ofNat d by simp;omega);rw[Tr.size]at r|-;have hW:=aai k n p s a j.1.2.2.2 (by have:=cB a;unfold maxLen;omega);rw[bC,if_neg b]
  by_cases f:Lf.fD k n p s a.length=0
  .rw[if_neg (by simpa using f)];rw[f]at hW;have⟨o,u,v,w⟩:=J6 (az:=a) (d:=d) od (H_firsts a j.2) a 0 (yb _) rfl (c+1) od (by have:=cB a;omega);have m:=wI (S:=gdS a d 0 (c+1)) (q:=gF f136=gF f136) rfl (ps:=[mD (aQ (decide ((24:Int)<Int.ofNat d))) (bA false),mD (lW (IntKind.i64.wrap (Int.ofNat c+1))) (jA (c+1))]) (al l (al (yY (show IntKind.i64.wrap (Int.ofNat c+1)=Int.ofNat (c+1) by rw[qa2];simp;omega)) al0));refine⟨o,λh=>by rw[u h];omega,?_⟩
   by_cases i:bG (d+1) a=0
   .rw[i];exact bH func136 [(12,bA false),(21,jA (c+1))] [_] [⟨_,hW⟩] (λβ x g=>by rw[qu]at g;subst g;exact v i β) m
   .exact bH func136 [(12,bA false),(21,jA (c+1))] [_] [⟨_,hW⟩] (λβ x g=>by rw[qu]at g;subst g;exact w i β) m
  .rw[if_pos (by simpa using f)];generalize Lf.fD k n p s a.length=e at *;exact⟨c,λh=>absurd h f,bH func136 [(12,bA false),(16,bA true)] [] [⟨_,hW⟩] oe (al l (al (oZ (zj f)) al0))⟩
def H_firsts:∀l:aE,okNs l->∀t∈l,GdH t
 | [],_,_,h=>by cases h
 | t::l,a,b,h=>by
  by_cases e:b=t
  .rw[e];exact H_first t a.1
  .exact H_firsts l a.2 b (by rcases ke.1 h with h|h;exact absurd h e;exact h)
end
def K3{t:Tr}(hk:okN t)(g:t.size<=4611686018427387904):Hd ⟨118,[ndA t],.of (iA (dS t))⟩:=by
 have⟨c,f,hF⟩:=H_first t hk 1 0 od od;replace hF:=hF.to 800100 3;unfold dS;have⟨k,n,p,s,b⟩:=t
 by_cases a:bC 1 (.nd k n p s b)=0
 .rw[if_neg (by simpa using a)];rw[a]at hF;obtain rfl:=f a;rw[qb4]at hF;generalize (Tr.nd k n p s b).size=m at *
  by_cases d:300<m
  .rw[if_pos d];exact runT func118 [(11,bA true)] [⟨_,hF⟩] (al (is_lt (show (300:Int)<Int.ofNat m by simp;omega)) al0)
  .rw[if_neg d];exact runT func118 [(11,bA false)] [⟨_,hF⟩] (al (wH (show ¬(300:Int)<Int.ofNat m by simp;omega)) al0)
 .rw[if_pos (by simpa using a)];generalize bC 1 (.nd k n p s b)=e at *;exact runT func118 [(8,bA true)] [⟨_,hF⟩] (al (oZ (zj a)) al0)
def Bj{w:cg}{t:Tr}{v:cm}(a:bI (· < w.heap.size) w t v)(g:t.size<=4611686018427387904):Calls prog 118 #[v] w λe w'=>e =.returned (.i (dS t))/\cq w w' none:=by have⟨c,d⟩:=LH a;refine ((K3 c g).runN rfl _ w [v] ⟨d,trivial⟩).mono ?_;rintro e w' ⟨b,u,rfl,f⟩;rw[bW f];exact⟨rfl,b⟩
open Go.ChangeShapes Go.WideShapes Go.ChangeAt Go.RowKit
mutual
def encTr:Tr->bw
 | .nd k n p s args=>k.toNat.toUInt8::(if k=0 then pE n else if k=1 then pE s.size++s.data.toList else if k=2 then p.toNat.toUInt8::(pE args.length++encTrs args)else pE args.length++encTrs args)
def encTrs:aE->bw
 | []=>[]
 | t::ts=>encTr t++encTrs ts
end
def vV(a b:aE):encTrs (a++b)=encTrs a++encTrs b:=by
 induction a with
 | nil=>simp[encTrs]
 | cons t ts c=>simp[encTrs,c]
def yP(l:aE)(i:Nat)(h:i<l.length):encTrs (l.take (i+1))=encTrs (l.take i)++encTr l[i]:=by rw[qg0 h,vV];simp[encTrs]
def Ab(l:aE)(i:Nat):(encTrs (l.take i)).length<=(encTrs l).length:=by have h:=vV (l.take i) (l.drop i);rw[qd1]at h;rw[h];simp
def nJ (B:Nat) (w:cg) (vb:cm) (l:bw) (e:Ending) (w':cg):Prop:=∃v',e =.returned v'/\om B w' v' l/\Gr w vb w' v'
def VU (B:Nat) (w0:cg) (v:cm) (t:Tr):Prop:=∀(xs:bw) (vb:cm) (w2:cg),Below B w0 w2->om B w2 vb xs->xs.length+(encTr t).length<=1000000 ->
 Calls prog 250 #[vb,v] w2 (nJ B w2 vb (xs++encTr t))
def BZ{B:Nat}{x:cg}{args:aE}{a:bj}{c:Nat}(V:bt)(D:B<=x.heap.size)(hc:∀i,i<args.length->ky (· < B) x a i (V i))(J:∀i (h:i<args.length),VU B x (V i) args[i])
 (xs:bw) (vb:cm) (w2:cg) (hb:Below B x w2) (hown:om B w2 vb xs) (hlen:xs.length+(pE args.length++encTrs args).length<=1000000) (hal:args.length<=1000000) :
 Calls prog 257 #[vb,.slice a args.length c] w2 (nJ B w2 vb (xs++(pE args.length++encTrs args))):=by
 have⟨Q,HI,HB⟩:=JT hc J hb;have k:B<=w2.heap.size:=xo D hb.size;have T:=jh hown;have G:=jh (qf B args.length ⟨od,od⟩ od vb xs w2 hown k od);rw[ju]at hlen;clear hc J hb hown;go_enter func257,ntmps257;go_wp2_with fail;refine G.out.mono ?_;rintro e w3 ⟨v3,rfl,d,p⟩;have A:=jh d;have y:=jh p;clear d p G;go_wp2_with fail;go_loopw [0,13] (λv i wr=>∃j:Nat,j<=args.length/\i =.i j/\om B wr v (xs++pE args.length++encTrs (args.take j))/\Gr w2 vb wr v) (λ_ i _=>args.length - (intOf i).toNat)
 case atStart=>exact⟨0,yb _,rfl,by simpa[encTrs]using A.out,y.out⟩
 case round =>
  obtain⟨j,hj,rfl,m,r⟩:=hrel;have hb:=r.below T.out k
  by_cases l:j<args.length
  .have U:=(Q.out j l).same (Same.below (HB.out.trans hb));obtain⟨b,o,rfl,W,L,N,O,P,H,M,I,K,X,Y,Z,e3,e4⟩:=U;have n:=yP args j l;have E:=Ab args (j+1);have t:=congrArg List.length n;rw[ju]at t;have F:B<=wr.heap.size:=xo k hb.size;have w:=HI.out j l (xs++pE args.length++encTrs (args.take j)) u0 (wr.alloc (.cells #[.i L,.i N,.i O,.string P,.slice H M I] 51))
    ((HB.out.trans hb).alloc F _) (qg4 m _) (by simp only[ju];omega)
   rw[K]at w;unfold af at w;have⟨S,C,z⟩:=JT w n (r.alloc (.cells #[.i L,.i N,.i O,.string P,.slice H M I] 51));clear w n hb r m K E t;go_wp2_with fail;refine S.out.mono ?_;rintro e w4 ⟨v4,rfl,u,q⟩;have g:=jh u;have f:=jh q;clear u q;go_wp2;go_roundw
   case rel=>exact⟨j+1,od,by go_num,by rw[C.out,<-qa6];exact g.out,z.out.trans f.out⟩
   case measure=>simp[intOf];omega
  .have s:j=args.length:=by omega
   have⟨g,f,R⟩:=JT m r s;clear m hb r s;go_wp2;go_ret;have m:=g.out;rw[R.out,je7,qa6]at m;exact⟨_,rfl,m,f.out⟩
def CG{k n p:Int}{s:bp}{l:Nat}(h:Lf.fD k n p s l=0):(0<=k/\k<=3)/\(k=2->Lf.gD p)/\Lf.qM k n p s l=false/\(-1152921504606846976<=n/\n<=1152921504606846976)/\s.size<=200:=by
 unfold Lf.fD at h
 by_cases a:Lf.rP k=false
 .simp[a]at h
 rw[if_neg a]at h
 by_cases b:k=2/\Lf.gD p=false
 .simp[b]at h
 rw[if_neg b]at h
 by_cases c:Lf.qM k n p s l
 .simp[c]at h
 rw[if_neg c]at h
 by_cases d:n < -1152921504606846976\/1152921504606846976<n
 .rw[if_pos d]at h;omega
 rw[if_neg d]at h
 by_cases f:200<s.size
 .rw[if_pos f]at h;omega
 refine⟨by simpa[Lf.rP]using a,λe=>?_,by simpa using c,od,od⟩;simpa[e]using b
def zP{d:Nat}{k n p:Int}{s:bp}{args:aE}(h:bC d (.nd k n p s args)=0):d<=24/\Lf.fD k n p s args.length=0/\bG (d+1) args=0:=by
 rw[bC]at h
 by_cases b:24<d
 .rw[if_pos b]at h;omega
 rw[if_neg b]at h
 by_cases a:Lf.fD k n p s args.length=0
 .rw[if_neg (by simpa using a)]at h;exact⟨od,a,h⟩
 .rw[if_pos a]at h;exact absurd h a
def rJ{d:Nat}{args:aE}(h:bG d args=0):∀t∈args,bC d t=0:=by
 induction args with
 | nil=>simp
 | cons t ts c =>
  rw[bG]at h
  by_cases a:bC d t=0
  .rw[if_neg (by simpa using a)]at h;intro x b;rcases ke.1 b with rfl|b
   .exact a
   .exact c h x b
  .rw[if_pos a]at h;exact absurd h a
def BS{p:Int}(h:Lf.gD p):1<=p/\p<=95:=by simp[Lf.gD]at h;omega
def Nh(t:Tr):1<=(encTr t).length:=by cases t;simp[encTr]
def BB(l:aE):l.length<=(encTrs l).length:=by
 induction l with
 | nil=>simp
 | cons t ts a=>have:=Nh t;simp[encTrs];omega
def IJ(k:Int)(a:0<=k)(b:k<=255):k=(k.toNat.toUInt8).toNat:=by rw[show k.toNat.toUInt8.toNat=k.toNat % 256 from rfl,jd2 od];omega
def nJ.mk{B:Nat}{w w':cg}{b v':cm}{l a:bw}(e:om B w' v' a)(c:Gr w b w' v')(d:a=l):nJ B w b l (.returned v') w':=by subst d;exact⟨v',rfl,e,c⟩
def H5{B:Nat}{Z:cg}{t:Tr}{v:cm}(P:B<=Z.heap.size)(hL:bI (· < B) Z t v):∀d,bC d t=0->VU B Z v t:=by
 induction hL with
 | @mk k n p s args a c _ V hl hS ik iN ip S hr T =>
  intro d W y M q G g j;have⟨hd,Y,A⟩:=zP W;have⟨hk,X,hm,hN,hs⟩:=CG Y;have U:B<=q.heap.size:=xo P G.size;have C:some q.heap.size≠M.ownBlock:=λe=>by have:=(qb5 g _ e.symm).2;omega
  rcases (show k=0\/k=1\/k=2\/k=3 from by omega)with rfl|rfl|rfl|rfl
  .have H:encTr (.nd 0 n p s args)=(0:Int).toNat.toUInt8::pE n:=by simp[encTr]
   rw[H]at j|-;unfold af;have O:=jh (IJ 0 od od);have HO:=jh g;simp only[jj]at j;clear W Y A hm S hr T G g H hk X;generalize (0:Int).toNat.toUInt8=u at *;go_enter func250,ntmps250;go_wp2_with (first
    | (at_builtin;refine app1 B y u _ (q.alloc (.cells #[.i 0,.i n,.i p,.string s,.slice a args.length c] 51)) M rfl _ _ rfl rfl rfl oe O (qg4 HO _) ot od ?_;intro R N b f;have⟨b0,b1,b2,b3,b4⟩:=bE ((f.block (k:=q.heap.size) oe C).trans (xF _ _));have x:=f.1.size;have r:=jh b;have m:=jh f;clear b f))
   simp at x;refine (qf B n iN od R (y++[u]) N r od ot).mono ?_;rintro e w3 ⟨v3,rfl,I,l⟩;have E:=jh I;have z:=jh l;clear I l;go_wp2;go_ret;exact nJ.mk E (((Gr.refl _ _).alloc _).trans (m.trans z)) oe
  .have H:encTr (.nd 1 n p s args)=(1:Int).toNat.toUInt8::(pE s.size++s.data.toList):=by simp[encTr]
   rw[H]at j|-;unfold af;simp only[jj,ju]at j;have O:=jh (IJ 1 od od);have HO:=jh g;clear W Y A hm S hr T G g H hk X;generalize (1:Int).toNat.toUInt8=u at *;go_enter func250,ntmps250;go_wp2_with (first
    | (at_builtin;refine app1 B y u _ (q.alloc (.cells #[.i 1,.i n,.i p,.string s,.slice a args.length c] 51)) M rfl (.tmp 5) _ rfl rfl rfl oe O (qg4 HO _) ot od ?_;intro R N b f;have⟨b0,b1,b2,b3,b4⟩:=bE ((f.block (k:=q.heap.size) oe C).trans (xF _ _));have x:=f.1.size;simp at x;have r:=jh b;have m:=jh f;clear b f))
   have HN:=jh (λw'=>qf B s.size ⟨od,od⟩ od R (y++[u]) w');go_region_law (first
    | (refine Ai B (y++[u]++pE s.size) s _ v3 rfl (.tmp 25) (.tmp 27) rfl rfl rfl E vc vc od ?_;intro v4 w4 L o;have F:=jh L;have D:=jh o;clear L o)
    | (go_simp;go_at_call 256;refine (HN N.drew r.drew ot ot).mono ?_;rintro e w3 ⟨v3,rfl,I,l⟩;have w:=m.out.trans l.QY;have⟨e0,e1,e2,e3,e4⟩:=bE ((w.block (k:=q.heap.size) oe C).trans (xF _ _));have ad:=l.1.size;simp at ad;have E:=jh I;have z:=jh w;clear I l w))
   all_goals
    go_wp2;go_ret;exact nJ.mk F (((Gr.refl _ _).alloc _).trans (z.trans D)) oe
  .have H:encTr (.nd 2 n p s args)=(2:Int).toNat.toUInt8::p.toNat.toUInt8::(pE args.length++encTrs args):=by simp[encTr]
   rw[H]at j|-;unfold af;have⟨ae,ah⟩:=BS (X rfl);have ab:=BB args;simp only[jj,ju]at j;have⟨O,aa,HO,HA,HB⟩:=wb (IJ 2 od od) (IJ p od od) g (λy M q G ho hl=>BZ (c:=c) V P S (λi h=>T i h (d+1) (rJ A _ (yv h))) y M q G ho hl od) G;clear W Y A hm S hr T G g H hk X;generalize (2:Int).toNat.toUInt8=u at *;generalize p.toNat.toUInt8=u2 at *;go_enter func250,ntmps250;go_wp2_with (first
    | (at_builtin;refine app1 B y u _ (q.alloc (.cells #[.i 2,.i n,.i p,.string s,.slice a args.length c] 51)) M rfl (.tmp 5) _ rfl rfl rfl oe O (qg4 HO _) ot od ?_;intro R N b f;have⟨b0,b1,b2,b3,b4⟩:=bE ((f.block (k:=q.heap.size) oe C).trans (xF _ _));have x:=f.1.size;simp at x;have r:=jh b;have m:=jh f;clear b f)
    | (at_builtin;refine app1 B (y++[u]) u2 _ N R rfl (.tmp 31) _ rfl rfl rfl oe aa r od ot ?_;intro v3 w3 K l;have w:=m.out.trans l;have⟨e0,e1,e2,e3,e4⟩:=bE ((w.block (k:=q.heap.size) oe C).trans (xF _ _));have E:=jh K;have z:=jh w;clear K l w))
   have Q:Below B Z w3:=(HB.out.alloc U _).trans (z.below (qg4 HO _) ot);refine (HA (y++[u]++[u2]) v3 w3 Q E vc).mono ?_;rintro e w4 ⟨v4,rfl,J,o⟩;have F:=jh J;have D:=jh o;clear J o;go_wp2;go_ret;exact nJ.mk F (((Gr.refl _ _).alloc _).trans (z.trans D)) oe
  .have H:encTr (.nd 3 n p s args)=(3:Int).toNat.toUInt8::(pE args.length++encTrs args):=by simp[encTr]
   rw[H]at j|-;unfold af;have ab:=BB args;simp only[jj,ju]at j;have⟨O,HO,HA,HB⟩:=we (IJ 3 od od) g (λy M q G ho hl=>BZ (c:=c) V P S (λi h=>T i h (d+1) (rJ A _ (yv h))) y M q G ho hl od) G;clear W Y A hm S hr T G g H hk X;generalize (3:Int).toNat.toUInt8=u at *;go_enter func250,ntmps250;go_wp2_with (first
    | (at_builtin;refine app1 B y u _ (q.alloc (.cells #[.i 3,.i n,.i p,.string s,.slice a args.length c] 51)) M rfl (.tmp 5) _ rfl rfl rfl oe O (qg4 HO _) ot od ?_;intro R N b f;have⟨b0,b1,b2,b3,b4⟩:=bE ((f.block (k:=q.heap.size) oe C).trans (xF _ _));have x:=f.1.size;simp at x;have r:=jh b;have m:=jh f;clear b f))
   have Q:Below B Z N:=(HB.out.alloc U _).trans (m.below (qg4 HO _) ot);refine (HA (y++[u]) R N Q r vc).mono ?_;rintro e w4 ⟨v4,rfl,J,o⟩;have F:=jh J;have D:=jh o;clear J o;go_wp2;go_ret;exact nJ.mk F (((Gr.refl _ _).alloc _).trans (m.trans D)) oe
def aeo{B:Nat}{w:cg}{v:cm}{l:bw}(h:om B w v l):(convert 283 9 v).run prog w =.ok (.string ⟨l.toArray⟩) w:=by
 have b:=h;unfold om at b;rcases b.2 with⟨rfl,h0⟩|⟨g,a,d,rfl,e,n,m,f,i,c⟩
 .have : l=[]:=jx h0;subst this;exact run_convert_bytes_nil w 283 5 underlying283 underlying5 0 0 9 underlying9
 .refine run_convert_bytes_back w 283 9 5 ⟨g,0,none⟩ a l underlying283 underlying5 underlying9 λj k=>?_;exact qd4 b (g:=g) rfl j _ (by simp[cs,qt k])
mutual
def tX(d:Nat):∀t,bC d t=0->t.size<=1000000->(encTr t).length<=215*t.size
 | .nd k n p s a,h,l=>by
  have⟨u,j,b⟩:=zP h;have⟨v,x,w,r,y⟩:=CG j;rw[Tr.size]at l;have z:=xy (d+1) a b od;have i:=cB a;have m:=xx n ⟨od,od⟩;have o:=xx s.size ⟨od,od⟩;have q:=xx a.length ⟨od,od⟩;have c:s.data.toList.length=s.size:=oe
  rw[encTr,Tr.size]
  by_cases e:k=0
  .rw[if_pos e];simp;omega
  rw[if_neg e]
  by_cases f:k=1
  .rw[if_pos f];simp only[jj,ju,c];omega
  rw[if_neg f]
  by_cases g:k=2
  .rw[if_pos g];simp only[jj,ju];omega
  .rw[if_neg g];simp only[jj,ju];omega
def xy(d:Nat):∀ts,bG d ts=0->sizes ts<=1000000->(encTrs ts).length<=215*sizes ts
 | [],_,_=>by simp[encTrs]
 | t::ts,h,c=>by
  rw[sizes]at c;have e:=tX d t (rJ h t oe) od;have b:bG d ts=0:=by
   rw[bG]at h
   by_cases a:bC d t=0
   .rwa [if_neg (by simpa using a)]at h
   .rw[if_pos a]at h;exact absurd h a
  have f:=xy d ts b od;rw[encTrs,sizes,ju];omega
end
def iV{t:Tr}(h:dS t=0):bC 1 t=0/\t.size<=300:=by
 unfold dS at h
 by_cases a:bC 1 t=0
 .rw[if_neg (by simpa using a)]at h
  by_cases b:300<t.size
  .rw[if_pos b]at h;omega
  .exact⟨a,od⟩
 .rw[if_pos a]at h;exact absurd h a
def Ju{w:cg}{t:Tr}{v:cm}(z:bI (· < w.heap.size) w t v)(B:dS t=0) :
 Calls prog 243 #[v] w λe w'=>e =.returned (.tuple #[.string ⟨(encTr t).toArray⟩,.i 0])/\cq w w' none:=by
 have⟨y,H⟩:=iV B;have q:=tX 1 t y od;have u:∃k n p s a l c,v=af k n p s a l c:=by cases z;exact⟨_,_,_,_,_,_,_,rfl⟩
 have⟨k,n,p,s,a,l,c,u⟩:=u;have d:∀o,bI (· < (w.alloc o).heap.size) (w.alloc o) t v:=λo=>(z.same (w':=w.alloc o) (λb _ f _=>World.cell?_alloc_lt _ _ _ f)).ae (λb _ f=>by simp;have : b<w.heap.size:=f;omega);have j:=Bj (d (.cells #[.i k,.i n,.i p,.string s,.slice a l c] 51)) od;have r:∀w',(w.alloc (.cells #[.i k,.i n,.i p,.string s,.slice a l c] 51)).grownBy w' none->Calls prog 250 #[.n0,v] w' (nJ w'.heap.size w' (.n0) (encTr t)):=by intro w' C;have I:Same (· < (w.alloc (.cells #[.i k,.i n,.i p,.string s,.slice a l c] 51)).heap.size) (w.alloc (.cells #[.i k,.i n,.i p,.string s,.slice a l c] 51)) w':=λb o f _=>Lf.Qr C b o f;have A:=((d _).same I).ae (ok':=(· < w'.heap.size)) (λb f _=>f);exact H5 (jn _) A 1 y [] (.n0) w' (Below.refl _ _) (jd4 _ _ _ _) ot
 rw[B]at j;rw[u]at j r|-;unfold af at j r|-;have F:=jh j;have G:=jh r;clear j r z d u B y H q;generalize encTr t=O at *;go_enter func243,ntmps243;go_wp2_with fail;refine F.mono ?_;rintro e Q ⟨rfl,g⟩;have⟨J,K,L,M,N⟩:=bE ((g.block w.heap.size oe oe).trans (xF _ _));have h:=jh g;clear g;go_wp2_with fail;refine (G _ h).mono ?_;rintro e R ⟨P,rfl,D,m⟩;have E:=aeo D;have x:=jh m.1;clear D m;go_wp2_with fail;go_ret2;refine⟨rfl,aJ (aK _) (aJ h ?_)⟩;exact x
def Ni{w:cg}{t:Tr}{v:cm}(m:bI (· < w.heap.size) w t v)(y:t.size<=4611686018427387904 - 1)(u:dS t≠0) :
 Calls prog 243 #[v] w λe w'=>e =.returned (.tuple #[.string ⟨#[]⟩,.i (dS t)])/\cq w w' none:=by
 have h:∃k n p s a l c,v=af k n p s a l c:=by cases m;exact⟨_,_,_,_,_,_,_,rfl⟩
 have⟨k,n,p,s,a,l,c,h⟩:=h;have d:∀o,bI (· < (w.alloc o).heap.size) (w.alloc o) t v:=λo=>(m.same (w':=w.alloc o) (λb _ q _=>World.cell?_alloc_lt _ _ _ q)).ae (λb _ q=>by simp;have : b<w.heap.size:=q;omega);have g:=Bj (d (.cells #[.i k,.i n,.i p,.string s,.slice a l c] 51)) od;rw[h]at g|-;unfold af at g|-;have r:=jh g;clear g m d h;generalize dS t=x at *;go_enter func243,ntmps243;go_wp2_with fail;refine r.mono ?_;rintro e z ⟨rfl,f⟩;have j:=jh f;clear f;go_wp2_with fail;go_ret2;exact⟨rfl,aJ (aK _) j⟩
def gM (C:List (Ty×Va)):List bd:=C.map λp=>tyD p.1++vaD p.2
abbrev aat (C:List (Ty×Va)):A1:=.one (.d (.s 9 (gM C)))
def nL(C:List (Ty×Va)):(gM C).length=C.length:=by simp[gM]
def KA(C:List (Ty×Va)):jl (gM C):=by simp only[jl,gM,List.all_map,ki,Function.comp];rintro⟨T,x⟩ _ y b;have⟨t,a⟩:=T;have⟨k,n,i,s,r,u,c⟩:=x;simp only[tyD,vaD,qe0,qe4,ke,qd7,or_false]at b;rcases b with rfl|rfl|rfl|rfl|rfl|rfl|rfl|rfl|rfl<;>rfl
def ofA:Option (List (Ty×Va))->AV
 | some C=>.rz [aat C,bA true]
 | none=>.rz [nilA,bA false]
def Pe.Holds.ac8{f:FuncId}{args:List A1}(h:Hd ⟨f,args,.rz [nilA,bA true]⟩):Hd ⟨f,args,ofA (some [])⟩:=h.conv (λ_ _ _ h=>h) λok w v h=>by
 have⟨d,e,c⟩:=h
 match d,c with
 | [u,v],⟨a,b,_⟩=>exact⟨_,e,gG (show fI ok w (.s 0 []) u from a),b,trivial⟩
def XT (l:ao) (m:Nat) (x:Va):Prop:=Bp 7 7 (vasD l) m=some (.of (.one (.e (vaD x) 0)))
def PT{l:ao}{m:Nat}{x:Va}(h:l[m]?=some x):XT l m x:=by unfold XT Bp;rw[vasD_map,qa5,h];cases x;rfl
def oeS (k:Nat) (l:ao) (ts:aw) (j:Nat):St:=[((0,1),.of (dZ ts)),((0,6),.of (.one (.g k 9 j))),((k+1,0),.kv 78 9 (gM ((ts.zip l).take j))),((0,17),.of (qi l)),((0,18),lW (vasD l).length),((0,19),.of (jA j))]
abbrev oeQ (k n:Nat) (C:List (Ty×Va)):St:=[((0,6),.of (.one (.g k 9 n))),((k+1,0),.kv 78 9 (gM C))]
section
variable {l:ao}{ts:aw}
def abA(w:l.length=ts.length)(M:l.length<=20000000){j k ex:Nat}{post:St}(hk:k=3000016\/k=3000032)(C:j<l.length)
 (hn:vO prog f47.ntmps ⟨gF f47,oeS 3000032 l ts (j+1),ex,post⟩):vO prog f47.ntmps ⟨gF f47,oeS k l ts j,ex,post⟩:=by
 have D:j<ts.length:=od
 have⟨t,a,B⟩:∃t a,ts[j] =.nd t a:=by cases ts[j];exact⟨_,_,rfl⟩
 have⟨g,h,f,q,o,p,c,A⟩:∃k n i z r t d,l[j] =.mk k n i z r t d:=by cases l[j];exact⟨_,_,_,_,_,_,_,rfl⟩
 have F:(ts.zip l).length=l.length:=ot
 have v:gM ((ts.zip l).take (j+1))=gM ((ts.zip l).take j)++[tyD (.nd t a)++vaD (.mk g h f q o p c)]:=by rw[qg0 od,List.getElem_zip,B,A];simp[gM]
 have u:(gM ((ts.zip l).take j)).length=j:=by rw[nL,qc2];exact jc6 od
 have G:=is_lt (a:=Int.ofNat j) (b:=((vasD l).length:Int)) On;have H:=PT (l:=l) (m:=j) (x:=.mk g h f q o p c) (by rw[qt C,A]);have I:=EK (s:=ts) (m:=j) (t:=t) (a:=a) (by rw[qt D,B]);have J:mD (lW (IntKind.i64.wrap (Int.ofNat j+1))) (jA (j+1)):=yY ZD;have K:rowsLe ((gM ((ts.zip l).take j)).take j++[tyD (.nd t a)++vaD (.mk g h f q o p c)]) (gM ((ts.zip l).take (j+1))):=by rw[v,ub od];exact rows_refl _
 have L:=iL (y:=144) (l:=j) (es:=gM ((ts.zip l).take j)) (rows:=[tyD (.nd t a)++vaD (.mk g h f q o p c)]) od oe (KA [(.nd t a,.mk g h f q o p c)]) ot ov;have E:=al G (al H (al I (al K (al L (al J al0)))));clear v u;rcases hk with rfl|rfl<;>exact LG [(20,bA true),(22,.one (.e (vaD (.mk g h f q o p c)) 0)),(27,.one (.e (tyD (.nd t a)) 0)),(2000032,aat ((ts.zip l).take (j+1))),(33,jA (j+1))] [] hn E
def Qv(a:l.length=ts.length)(b:l.length<=20000000):∀(i j:Nat),j+i=l.length->vO prog f47.ntmps ⟨gF f47,oeS 3000032 l ts j,2,oeQ 3000032 l.length (ts.zip l)⟩
 | 0,j,c=>by
  obtain rfl:j=l.length:=od
  have h:vO prog f47.ntmps ⟨gF f47,oeS 3000032 l ts l.length,2,oeQ 3000032 l.length ((ts.zip l).take l.length)⟩:=xQ (e:=1) [(20,bA false)] [] (ob:=[mD (aQ (decide (Int.ofNat l.length<((vasD l).length:Int)))) (bA false)]) (al (wH (by rw[qY];simp)) al0);rwa [ub (show (ts.zip l).length<=l.length by simp;omega)]at h
 | i+1,j,c=>abA a b (.inr rfl) od (Qv a b i (j+1) od)
def Fs{n:Nat}(hn:n=2\/ts=[])(c:l.length<=20000000):Hd ⟨47,[qi l,.one (.d (.s n (tysD ts)))],ofA (if l.length=ts.length then some (ts.zip l)else none)⟩:=by
 by_cases a:l.length=ts.length
 .rw[if_pos a];have j:jJ (!decide (((vasD l).length:Int)=((tysD ts).length:Int))) false:=eT (by rw[qY,eY];simp[a]);rcases l with _|⟨y,l⟩
  .obtain rfl:ts=[]:=jx (by simpa using a.symm);have g:vO prog f47.ntmps ⟨gF f47,[((0,6),.of nilA),((0,18),lW 0),((0,19),.of (jA 0))],2,[((0,6),.of nilA)]⟩:=xQ (e:=1) [] [] (ob:=[]) al0;have : Hd ⟨47,[qi [],.one (.d (.s n (tysD [])))],.rz [nilA,bA true]⟩:=Ce func47 [] [_] (by intro x b;rw[qu]at b;subst b;exact g) [⟨_,Hz gK⟩] (wI (S:=[((0,6),.of nilA),((0,18),lW 0),((0,19),.of (jA 0))]) (q:=gF f47=gF f47) rfl (ps:=[]) al0);exact this.ac8
  .obtain rfl:n=2:=hn.resolve_right (λh=>by rw[h]at a;simp at a);have f:=Hl gK (n:=(vasD (y::l)).length) (by simp[vasD]) US;have i:=abA (ts:=ts) (k:=3000016) a c (.inl rfl) oe (Qv a c l.length 1 ot);exact Ce func47 [(13,fA)] [_] (by intro x b;rw[qu]at b;subst b;exact i) [⟨_,f⟩] (jX (wI (S:=oeS 3000016 (y::l) ts 0) (q:=gF f47=gF f47) rfl (ps:=[jJ (!decide (((vasD (y::l)).length:Int)=((tysD ts).length:Int))) false]) (al j al0)) (r:=[(y::l).length=(gM (ts.zip (y::l))).length]) (al (by rw[nL];simp;simp at a;omega) al0))
 .rw[if_neg a];exact runT func47 [(13,bA true)] [] (ob:=[jJ (!decide (((vasD l).length:Int)=((tysD ts).length:Int))) true]) (al (eT (by rw[qY,eY];simp;omega)) al0)
def Z7{T:Ty}(d:okT T):Hd ⟨48,[qi l,tyA T],ofA (if l.length<=24 then some ((List.replicate l.length T).zip l)else none)⟩:=by
 by_cases h:l.length<=24
 .rw[if_pos h];have e:=qY l;have c:=Jr (T:=T) (n:=(vasD l).length) d od;have b:=Fs (l:=l) (ts:=List.replicate (vasD l).length T) (n:=2) (.inl rfl) od;rw[if_pos (by simp[e])]at b;rw[<-e];obtain⟨t,a⟩:=T;exact runT func48 [(8,fA)] [⟨_,c⟩,⟨_,b⟩] (ob:=[jJ (decide ((24:Int)<((vasD l).length:Int))) false]) (al (eT (xb od)) al0)
 .rw[if_neg h];obtain⟨t,a⟩:=T;exact runT func48 [(8,bA true)] [] (ob:=[jJ (decide ((24:Int)<((vasD l).length:Int))) true]) (al (eT (zj US)) al0)
end
structure IQ (T:Ty) (x:Va):Prop where
 len:(T.args.length:Int)=bT T.t
 side:T.t=12->x.n=0\/x.n=1
def Vr{T:Ty}{x:Va}(z:okT T)(v:IQ T x)(I:x.size<=20000000):Hd ⟨30,[tyA T,pF x],ofA (partsOf T x)⟩:=by
 have E:=kS x.args;have H:=eP x;have⟨len,side⟩:=v;have d:=λ{ts:aw} {n:Nat} F=>Fs (l:=x.args) (ts:=ts) (n:=n) F od;have f:=λ{T:Ty} h=>Z7 (l:=x.args) (T:=T) h;have r:∀{a b:Int},a≠b->jJ (decide (a=b)) false:=λh=>eT (xb h);unfold partsOf bS;simp only[]
 by_cases u:T.t=8
 .have d:=d (ts:=x.types) (n:=2) (.inl rfl);rw[if_pos u];split<;>rename_i c<;>first|rw[if_pos c]at d|rw[if_neg c]at d
  all_goals
   have⟨t,e⟩:=T;have⟨k,n,a,s,args,types,code⟩:=x;obtain rfl:t=8:=u;exact aF func30 [⟨_,d⟩]
 rw[if_neg u]
 by_cases q:T.t=9/\x.args.length=0
 .rw[if_pos q];have⟨t,e⟩:=T;have⟨k,n,a,s,args,types,code⟩:=x;have⟨q,h0⟩:=q;obtain rfl:t=9:=q;obtain rfl:args=[]:=jx h0;exact Holds.ac8 (aF func30 [])
 rw[if_neg q]
 by_cases g:T.t=10
 .rw[if_pos g];have⟨t,e⟩:=T;obtain rfl:t=10:=g;obtain⟨A,rfl⟩:∃A,e=[A]:=ja5.1 (show e.length=1 by simp[bT,Ty.t,Ty.args]at len;omega);have f:=f (T:=A) z.2.1;split<;>rename_i c<;>first|rw[if_pos c]at f|rw[if_neg c]at f
  all_goals
   have⟨y,w⟩:=A;have⟨k,n,a,s,args,types,code⟩:=x;exact aF func30 [⟨_,f⟩]
 rw[if_neg g]
 by_cases m:T.t=13
 .rw[if_pos m];have f:=f (T:=.nd 11 T.args) (by have⟨t,e⟩:=T;exact⟨⟨ov,ov⟩,z.2⟩);split<;>rename_i c<;>first|rw[if_pos c]at f|rw[if_neg c]at f
  all_goals
   have⟨t,e⟩:=T;have⟨k,n,a,s,args,types,code⟩:=x;obtain rfl:t=13:=m;exact aF func30 [⟨_,f⟩]
 rw[if_neg m]
 by_cases j:T.t=12
 .rw[if_pos j];have⟨t,e⟩:=T;obtain rfl:t=12:=j;obtain⟨A,B,rfl⟩:∃A B,e=[A,B]:=by
   have : e.length=2:=by simp[bT,Ty.t,Ty.args]at len;omega
   match e,this with|[A,B],_=>exact⟨A,B,rfl⟩
  have d:=λC=>d (ts:=[C]) (n:=2) (.inl rfl);have⟨y,w⟩:=A;have⟨Bt,D⟩:=B;split<;>rename_i c
  all_goals
   first|simp only[if_pos (show x.args.length=[_].length from c)]at d|simp only[if_neg (show ¬x.args.length=[_].length from c)]at d
   have⟨k,n,a,s,args,types,code⟩:=x;rcases (show n=0\/n=1 from side rfl)with rfl|rfl
   .have d:=d (.nd y w);exact aF func30 [⟨_,d⟩]
   .have d:=d (.nd Bt D);exact aF func30 [⟨_,d⟩]
 rw[if_neg j]
 by_cases o:T.t=14
 .have d:=d (ts:=[]) (n:=0) (.inr rfl);rw[if_pos o];split<;>rename_i c<;>first|rw[if_pos (show x.args.length=[].length from c)]at d|rw[if_neg (show ¬x.args.length=[].length from c)]at d
  all_goals
   have⟨t,e⟩:=T;have⟨k,n,a,s,args,types,code⟩:=x;obtain rfl:t=14:=o;exact aF func30 [⟨_,d⟩]
 rw[if_neg o];have d:=d (ts:=T.args) (n:=2) (.inl rfl);have i:T.t=9->jJ (decide (((vasD x.args).length:Int)=0)) false:=λh=>eT (xb (by rw[qY];simp only[h,true_and]at q;omega))
 by_cases p:T.t=9
 .replace i:=i p;split<;>rename_i c<;>first|rw[if_pos c]at d|rw[if_neg c]at d
  all_goals
   have⟨t,e⟩:=T;have⟨k,n,a,s,args,types,code⟩:=x;obtain rfl:t=9:=p;exact runT func30 [(22,fA)] [⟨_,d⟩] (al i al0)
 have G:=al (r u) (al (r p) (al (r g) (al (r m) (al (r j) (al (r o) al0)))));split<;>rename_i c<;>first|rw[if_pos c]at d|rw[if_neg c]at d
 all_goals
  have⟨t,e⟩:=T;have⟨k,n,a,s,args,types,code⟩:=x;exact runT func30 [(9,fA),(18,fA),(24,fA),(35,fA),(45,fA),(59,fA)] [⟨_,d⟩] G
