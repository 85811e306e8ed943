import Derived.Test.YtgfdimkbfnpepaaGreatKpZaj
namespace Go.Proofs.YtgfdimkbfnpepaaGreat
set_option linter.all false
open Go.Proofs.Tryz
open Pe
set_option maxRecDepth 100000
set_option maxHeartbeats 1000000
section
variable {n:Int}{types:List Ty}{rows:List (List Tr)}{dk dn dp:Int}{ds:ByteArray}{da:List Tr}{s:List Ty}
def MC(g:s.all zt=true)(m:s.length<=1000)(r:types.all zt=true):HI 69 46 n types rows dk dn dp ds da s bO:=by
 unfold HI;have j:=mf g
 cases i:sFq s [0,0]with
 | false =>
  have e:bO ⟨46,n,types,rows,.nd dk dn dp ds da⟩ s =.no 5:=by simp[bO,i]
  rw[e];exact aF func69 [⟨_,aN j i⟩,⟨_,ag 5⟩]
 | true =>
  obtain⟨d,a,u,rfl,c⟩:=iX i;obtain⟨f,b,h,rfl,l⟩:=iX c;have v:=dD g m;simp only[xf,qu]at g;obtain⟨o,p,q⟩:=g;have e:bO ⟨46,n,types,rows,.nd dk dn dp ds da⟩ ((.nd d a)::(.nd f b)::h)=fQ h [.nd 11 [(.nd d a),(.nd f b)]]:=by simp[bO,sFq,bB,Ty.t]
  rw[e];exact aF func69 [⟨_,aS (s:=((.nd d a)::(.nd f b)::h)) (k:=0) (ks:=[0]) j⟩,⟨_,pz 11 [(.nd d a),(.nd f b)]⟩,⟨_,dQ (s:=h) (top:=[.nd 11 [(.nd d a),(.nd f b)]])⟩]
def ME(c:s.all zt=true)(l:s.length<=1000)(p:types.all zt=true):HI 69 47 n types rows dk dn dp ds da s bO:=by
 unfold HI;have h:=mf c
 cases g:sFq s [11]with
 | false =>
  have e:bO ⟨47,n,types,rows,.nd dk dn dp ds da⟩ s =.no 5:=by simp[bO,g]
  rw[e];exact aF func69 [⟨_,aN h g⟩,⟨_,ag 5⟩]
 | true =>
  obtain⟨m,d,rfl,i⟩:=fT ov g;have q:=dD c l;simp only[xf,qu]at c;obtain⟨j,o⟩:=c;obtain⟨u0,a,f,b,rfl⟩:=vY j ov;have e:bO ⟨47,n,types,rows,.nd dk dn dp ds da⟩ ((.nd 11 [.nd u0 a,.nd f b])::d)=fQ d [(.nd u0 a),(.nd f b)]:=by simp[bO,sFq,bB,Ty.args,Ty.t]
  rw[e];exact aF func69 [⟨_,aS (s:=((.nd 11 [.nd u0 a,.nd f b])::d)) (k:=11) (ks:=[]) h⟩,⟨_,dQ (s:=d) (top:=[(.nd u0 a),(.nd f b)])⟩]
def MF(b:s.all zt=true)(l:s.length<=1000)(p:types.all zt=true):HI 69 48 n types rows dk dn dp ds da s bO:=by
 unfold HI;have f:=mf b
 cases d:sFq s [11]with
 | false =>
  have e:bO ⟨48,n,types,rows,.nd dk dn dp ds da⟩ s =.no 5:=by simp[bO,d]
  rw[e];exact aF func69 [⟨_,aN f d⟩,⟨_,ag 5⟩]
 | true =>
  obtain⟨m,c,rfl,h⟩:=fT ov d;have q:=dD b l;simp only[xf,qu]at b;obtain⟨j,o⟩:=b;obtain⟨u0,a,i,g,rfl⟩:=vY j ov;have e:bO ⟨48,n,types,rows,.nd dk dn dp ds da⟩ ((.nd 11 [.nd u0 a,.nd i g])::c)=fQ c [(.nd u0 a)]:=by simp[bO,sFq,bB,Ty.args,Ty.t]
  rw[e];exact aF func69 [⟨_,aS (s:=((.nd 11 [.nd u0 a,.nd i g])::c)) (k:=11) (ks:=[]) f⟩,⟨_,dQ (s:=c) (top:=[(.nd u0 a)])⟩]
def MG(b:s.all zt=true)(l:s.length<=1000)(p:types.all zt=true):HI 69 49 n types rows dk dn dp ds da s bO:=by
 unfold HI;have g:=mf b
 cases f:sFq s [11]with
 | false =>
  have e:bO ⟨49,n,types,rows,.nd dk dn dp ds da⟩ s =.no 5:=by simp[bO,f]
  rw[e];exact aF func69 [⟨_,aN g f⟩,⟨_,ag 5⟩]
 | true =>
  obtain⟨m,c,rfl,i⟩:=fT ov f;have q:=dD b l;simp only[xf,qu]at b;obtain⟨j,o⟩:=b;obtain⟨u0,h,d,a,rfl⟩:=vY j ov;have e:bO ⟨49,n,types,rows,.nd dk dn dp ds da⟩ ((.nd 11 [.nd u0 h,.nd d a])::c)=fQ c [(.nd d a)]:=by simp[bO,sFq,bB,Ty.args,Ty.t]
  rw[e];exact aF func69 [⟨_,aS (s:=((.nd 11 [.nd u0 h,.nd d a])::c)) (k:=11) (ks:=[]) g⟩,⟨_,dQ (s:=c) (top:=[(.nd d a)])⟩]
def MH(f:s.all zt=true)(m:s.length<=1000)(i:types.all zt=true)(o:types.length=1):HI 69 50 n types rows dk dn dp ds da s bO:=by
 unfold HI;obtain⟨c,d,rfl⟩:=GR o;have r:=mf i;have v:=dD i ot;clear i;have j:=mf f
 cases h:sFq s [0]with
 | false =>
  have e:bO ⟨50,n,[.nd c d],rows,.nd dk dn dp ds da⟩ s =.no 5:=by simp[bO,h]
  rw[e];exact aF func69 [⟨_,aN j h⟩,⟨_,ag 5⟩]
 | true =>
  obtain⟨b,a,g,rfl,l⟩:=iX h;have u:=dD f m;simp only[xf,qu]at f;obtain⟨p,q⟩:=f;have e:bO ⟨50,n,[.nd c d],rows,.nd dk dn dp ds da⟩ ((.nd b a)::g)=fQ g [.nd 12 [(.nd b a),(.nd c d)]]:=by simp[bO,sFq,bB,Ty.t]
  rw[e];exact aF func69 [⟨_,aS (s:=((.nd b a)::g)) (k:=0) (ks:=[]) j⟩,⟨_,pz 12 [(.nd b a),(.nd c d)]⟩,⟨_,dQ (s:=g) (top:=[.nd 12 [(.nd b a),(.nd c d)]])⟩]
def MI(f:s.all zt=true)(m:s.length<=1000)(i:types.all zt=true)(o:types.length=1):HI 69 51 n types rows dk dn dp ds da s bO:=by
 unfold HI;obtain⟨c,d,rfl⟩:=GR o;have r:=mf i;have v:=dD i ot;clear i;have j:=mf f
 cases h:sFq s [0]with
 | false =>
  have e:bO ⟨51,n,[.nd c d],rows,.nd dk dn dp ds da⟩ s =.no 5:=by simp[bO,h]
  rw[e];exact aF func69 [⟨_,aN j h⟩,⟨_,ag 5⟩]
 | true =>
  obtain⟨b,a,g,rfl,l⟩:=iX h;have u:=dD f m;simp only[xf,qu]at f;obtain⟨p,q⟩:=f;have e:bO ⟨51,n,[.nd c d],rows,.nd dk dn dp ds da⟩ ((.nd b a)::g)=fQ g [.nd 12 [(.nd c d),(.nd b a)]]:=by simp[bO,sFq,bB,Ty.t]
  rw[e];exact aF func69 [⟨_,aS (s:=((.nd b a)::g)) (k:=0) (ks:=[]) j⟩,⟨_,pz 12 [(.nd c d),(.nd b a)]⟩,⟨_,dQ (s:=g) (top:=[.nd 12 [(.nd c d),(.nd b a)]])⟩]
def MJ(c:s.all zt=true)(i:s.length<=1000)(m:types.all zt=true):HI 69 53 n types rows dk dn dp ds da s bO:=by
 unfold HI;have g:=mf c
 cases f:sFq s [0]with
 | false =>
  have e:bO ⟨53,n,types,rows,.nd dk dn dp ds da⟩ s =.no 5:=by simp[bO,f]
  rw[e];exact aF func69 [⟨_,aN g f⟩,⟨_,ag 5⟩]
 | true =>
  obtain⟨b,a,d,rfl,h⟩:=iX f;have o:=dD c i;simp only[xf,qu]at c;obtain⟨j,l⟩:=c;have e:bO ⟨53,n,types,rows,.nd dk dn dp ds da⟩ ((.nd b a)::d)=fQ d [.nd 9 [(.nd b a)]]:=by simp[bO,sFq,bB,Ty.t]
  rw[e];exact aF func69 [⟨_,aS (s:=((.nd b a)::d)) (k:=0) (ks:=[]) g⟩,⟨_,pz 9 [(.nd b a)]⟩,⟨_,dQ (s:=d) (top:=[.nd 9 [(.nd b a)]])⟩]
def MK(d:s.all zt=true)(g:s.length<=1000)(c:types.all zt=true)(f:types.length=1):HI 69 54 n types rows dk dn dp ds da s bO:=by
 unfold HI;obtain⟨a,b,rfl⟩:=GR f;have i:=mf c;have j:=dD c ot;clear c;have h:=mf d;have e:bO ⟨54,n,[.nd a b],rows,.nd dk dn dp ds da⟩ s=fQ s [.nd 9 [(.nd a b)]]:=by simp[bO,bB]
 rw[e];exact aF func69 [⟨_,pz 9 [(.nd a b)]⟩,⟨_,dQ (s:=s) (top:=[.nd 9 [(.nd a b)]])⟩]
def FP(d:s.all zt=true)(g:s.length<=1000)(c:types.all zt=true)(f:types.length=1):HI 70 56 n types rows dk dn dp ds da s aP:=by
 unfold HI;obtain⟨a,b,rfl⟩:=GR f;have i:=mf c;have j:=dD c ot;clear c;have h:=mf d;have e:aP ⟨56,n,[.nd a b],rows,.nd dk dn dp ds da⟩ s=fQ s [.nd 10 [(.nd a b)]]:=by simp[aP,bB]
 rw[e];exact aF func70 [⟨_,pz 10 [(.nd a b)]⟩,⟨_,dQ (s:=s) (top:=[.nd 10 [(.nd a b)]])⟩]
def FQ(i:s.all zt=true)(o:s.length<=1000)(u:types.all zt=true):HI 70 57 n types rows dk dn dp ds da s aP:=by
 unfold HI;have f:=mf i
 cases j:sFq s [0,10]with
 | false =>
  have e:aP ⟨57,n,types,rows,.nd dk dn dp ds da⟩ s =.no 5:=by simp[aP,j,bB,Ty.args]
  rw[e];exact aF func70 [⟨_,aN f j⟩,⟨_,ag 5⟩]
 | true =>
  obtain⟨g,c,v,rfl,d⟩:=iX j;obtain⟨p,b,rfl,l⟩:=fT ov d;have w:=dD i o;simp only[xf,qu]at i;obtain⟨q,m,r⟩:=i;obtain⟨u1,a,rfl⟩:=Bi m ov
  cases h:sameT (.nd g c) (.nd u1 a)with
  | false =>
   have e:aP ⟨57,n,types,rows,.nd dk dn dp ds da⟩ ((.nd g c)::(.nd 10 [.nd u1 a])::b) =.no 5:=by simp[aP,sFq,bB,Ty.args,Ty.t,h]
   rw[e];exact aF func70 [⟨_,aS (s:=((.nd g c)::(.nd 10 [.nd u1 a])::b)) (k:=0) (ks:=[10]) f⟩,⟨_,gu oE oR oE h⟩,⟨_,ag 5⟩]
  | true =>
   have e:aP ⟨57,n,types,rows,.nd dk dn dp ds da⟩ ((.nd g c)::(.nd 10 [.nd u1 a])::b)=fQ ((.nd 10 [.nd u1 a])::b) []:=by simp[aP,sFq,bB,Ty.args,Ty.t,h]
   rw[e];exact aF func70 [⟨_,aS (s:=((.nd g c)::(.nd 10 [.nd u1 a])::b)) (k:=0) (ks:=[10]) f⟩,⟨_,gu oE oR oE h⟩,⟨_,AO (s:=((.nd 10 [.nd u1 a])::b)) oE (by simp only[jn]at *;omega)⟩]
def FT(h:s.all zt=true)(j:s.length<=1000)(g:types.all zt=true)(i:types.length=2):HI 70 61 n types rows dk dn dp ds da s aP:=by
 unfold HI;obtain⟨a,b,c,d,rfl⟩:=Uk i;have l:=mf g;have m:=dD g ot;clear g;have k:=mf h
 cases f:oF (.nd a b)with
 | false =>
  have e:aP ⟨61,n,[.nd a b,.nd c d],rows,.nd dk dn dp ds da⟩ s =.no 5:=by simp[aP,f,bB]
  rw[e];exact aF func70 [⟨_,uQ oE oR f⟩,⟨_,ag 5⟩]
 | true =>
  have e:aP ⟨61,n,[.nd a b,.nd c d],rows,.nd dk dn dp ds da⟩ s=fQ s [.nd 13 [(.nd a b),(.nd c d)]]:=by simp[aP,f,bB]
  rw[e];exact aF func70 [⟨_,uQ oE oR f⟩,⟨_,pz 13 [(.nd a b),(.nd c d)]⟩,⟨_,dQ (s:=s) (top:=[.nd 13 [(.nd a b),(.nd c d)]])⟩]
def FU(m:s.all zt=true)(r:s.length<=1000)(x:types.all zt=true):HI 70 62 n types rows dk dn dp ds da s aP:=by
 unfold HI;have g:=mf m
 cases o:sFq s [0,13]with
 | false =>
  have e:aP ⟨62,n,types,rows,.nd dk dn dp ds da⟩ s =.no 5:=by simp[aP,o,bB,Ty.args]
  rw[e];exact aF func70 [⟨_,aN g o⟩,⟨_,ag 5⟩]
 | true =>
  obtain⟨h,d,y,rfl,j⟩:=iX o;obtain⟨u,c,rfl,p⟩:=fT ov j;have z:=dD m r;simp only[xf,qu]at m;obtain⟨v,q,w⟩:=m;obtain⟨u1,f,b,a,rfl⟩:=vY q ov
  cases i:sameT (.nd h d) (.nd u1 f)with
  | false =>
   have e:aP ⟨62,n,types,rows,.nd dk dn dp ds da⟩ ((.nd h d)::(.nd 13 [.nd u1 f,.nd b a])::c) =.no 5:=by simp[aP,sFq,bB,Ty.args,Ty.t,i]
   rw[e];exact aF func70 [⟨_,aS (s:=((.nd h d)::(.nd 13 [.nd u1 f,.nd b a])::c)) (k:=0) (ks:=[13]) g⟩,⟨_,gu oE oR oE i⟩,⟨_,ag 5⟩]
  | true =>
   cases l:A7 (.nd b a)with
   | false =>
    have e:aP ⟨62,n,types,rows,.nd dk dn dp ds da⟩ ((.nd h d)::(.nd 13 [.nd u1 f,.nd b a])::c) =.no 5:=by simp[aP,sFq,bB,Ty.args,Ty.t,i,l]
    rw[e];exact aF func70 [⟨_,aS (s:=((.nd h d)::(.nd 13 [.nd u1 f,.nd b a])::c)) (k:=0) (ks:=[13]) g⟩,⟨_,gu oE oR oE i⟩,⟨_,Ak oE oR l⟩,⟨_,ag 5⟩]
   | true =>
    have e:aP ⟨62,n,types,rows,.nd dk dn dp ds da⟩ ((.nd h d)::(.nd 13 [.nd u1 f,.nd b a])::c)=fQ c [.nd 9 [(.nd b a)]]:=by simp[aP,sFq,bB,Ty.args,Ty.t,i,l]
    rw[e];exact aF func70 [⟨_,aS (s:=((.nd h d)::(.nd 13 [.nd u1 f,.nd b a])::c)) (k:=0) (ks:=[13]) g⟩,⟨_,gu oE oR oE i⟩,⟨_,Ak oE oR l⟩,⟨_,pz 9 [(.nd b a)]⟩,⟨_,dQ (s:=c) (top:=[.nd 9 [(.nd b a)]])⟩]
def FV(p:s.all zt=true)(w:s.length<=1000)(B:types.all zt=true):HI 70 63 n types rows dk dn dp ds da s aP:=by
 unfold HI;have h:=mf p
 cases q:sFq s [0,9,13]with
 | false =>
  have e:aP ⟨63,n,types,rows,.nd dk dn dp ds da⟩ s =.no 5:=by simp[aP,q,bB,Ty.args]
  rw[e];exact aF func70 [⟨_,aN h q⟩,⟨_,ag 5⟩]
 | true =>
  obtain⟨i,f,C,rfl,l⟩:=iX q;obtain⟨x,D,rfl,m⟩:=fT ov l;obtain⟨y,d,rfl,r⟩:=fT ov m;have E:=dD p w;simp only[xf,qu]at p;obtain⟨z,u,v,A⟩:=p;obtain⟨u1,g,rfl⟩:=Bi u ov;obtain⟨u2,a,c,b,rfl⟩:=vY v ov
  cases j:sameT (.nd i f) (.nd u2 a)with
  | false =>
   have e:aP ⟨63,n,types,rows,.nd dk dn dp ds da⟩ ((.nd i f)::(.nd 9 [.nd u1 g])::(.nd 13 [.nd u2 a,.nd c b])::d) =.no 5:=by simp[aP,sFq,bB,Ty.args,Ty.t,j]
   rw[e];exact aF func70 [⟨_,aS (s:=((.nd i f)::(.nd 9 [.nd u1 g])::(.nd 13 [.nd u2 a,.nd c b])::d)) (k:=0) (ks:=[9,13]) h⟩,⟨_,gu oE oR oE j⟩,⟨_,ag 5⟩]
  | true =>
   cases o:sameT (.nd u1 g) (.nd c b)with
   | false =>
    have e:aP ⟨63,n,types,rows,.nd dk dn dp ds da⟩ ((.nd i f)::(.nd 9 [.nd u1 g])::(.nd 13 [.nd u2 a,.nd c b])::d) =.no 5:=by simp[aP,sFq,bB,Ty.args,Ty.t,j,o]
    rw[e];exact aF func70 [⟨_,aS (s:=((.nd i f)::(.nd 9 [.nd u1 g])::(.nd 13 [.nd u2 a,.nd c b])::d)) (k:=0) (ks:=[9,13]) h⟩,⟨_,gu oE oR oE j⟩,⟨_,gu oE oR oE o⟩,⟨_,ag 5⟩]
   | true =>
    have e:aP ⟨63,n,types,rows,.nd dk dn dp ds da⟩ ((.nd i f)::(.nd 9 [.nd u1 g])::(.nd 13 [.nd u2 a,.nd c b])::d)=fQ ((.nd 13 [.nd u2 a,.nd c b])::d) []:=by simp[aP,sFq,bB,Ty.args,Ty.t,j,o]
    rw[e];exact aF func70 [⟨_,aS (s:=((.nd i f)::(.nd 9 [.nd u1 g])::(.nd 13 [.nd u2 a,.nd c b])::d)) (k:=0) (ks:=[9,13]) h⟩,⟨_,gu oE oR oE j⟩,⟨_,gu oE oR oE o⟩,⟨_,AO (s:=((.nd 13 [.nd u2 a,.nd c b])::d)) oE (by simp only[jn]at *;omega)⟩]
def Pw(l:s.all zt=true)(p:s.length<=1000)(v:types.all zt=true):HI 74 73 n types rows dk dn dp ds da s dI:=by
 unfold HI;have f:=mf l
 cases m:sFq s [0,0]with
 | false =>
  have e:dI ⟨73,n,types,rows,.nd dk dn dp ds da⟩ s =.no 5:=by simp[dI,m,bB]
  rw[e];exact aF func74 [⟨_,aN f m⟩,⟨_,ag 5⟩]
 | true =>
  obtain⟨c,a,w,rfl,i⟩:=iX m;obtain⟨g,d,b,rfl,o⟩:=iX i;have x:=dD l p;simp only[xf,qu]at l;obtain⟨q,r,u⟩:=l
  cases h:sameT (.nd c a) (.nd g d)with
  | false =>
   have e:dI ⟨73,n,types,rows,.nd dk dn dp ds da⟩ ((.nd c a)::(.nd g d)::b) =.no 5:=by simp[dI,sFq,bB,Ty.t,h]
   rw[e];exact aF func74 [⟨_,aS (s:=((.nd c a)::(.nd g d)::b)) (k:=0) (ks:=[0]) f⟩,⟨_,gu oE oR oE h⟩,⟨_,ag 5⟩]
  | true =>
   cases j:oF (.nd c a)with
   | false =>
    have e:dI ⟨73,n,types,rows,.nd dk dn dp ds da⟩ ((.nd c a)::(.nd g d)::b) =.no 5:=by simp[dI,sFq,bB,Ty.t,h,j]
    rw[e];exact aF func74 [⟨_,aS (s:=((.nd c a)::(.nd g d)::b)) (k:=0) (ks:=[0]) f⟩,⟨_,gu oE oR oE h⟩,⟨_,uQ oE oR j⟩,⟨_,ag 5⟩]
   | true =>
    have e:dI ⟨73,n,types,rows,.nd dk dn dp ds da⟩ ((.nd c a)::(.nd g d)::b)=fQ b [.nd 3 []]:=by simp[dI,sFq,bB,Ty.t,h,j]
    rw[e];exact aF func74 [⟨_,aS (s:=((.nd c a)::(.nd g d)::b)) (k:=0) (ks:=[0]) f⟩,⟨_,gu oE oR oE h⟩,⟨_,uQ oE oR j⟩,⟨_,dA 3⟩,⟨_,dQ (s:=b) (top:=[.nd 3 []])⟩]
def Px(a:s.all zt=true)(h:s.length<=1000)(l:types.all zt=true):HI 74 74 n types rows dk dn dp ds da s dI:=by
 unfold HI;have d:=mf a
 cases c:sFq s [3]with
 | false =>
  have e:dI ⟨74,n,types,rows,.nd dk dn dp ds da⟩ s =.no 5:=by simp[dI,c,bB]
  rw[e];exact aF func74 [⟨_,aN d c⟩,⟨_,ag 5⟩]
 | true =>
  obtain⟨i,b,rfl,f⟩:=fT ov c;have m:=dD a h;simp only[xf,qu]at a;obtain⟨g,j⟩:=a;obtain rfl:=lZ g ov;have e:dI ⟨74,n,types,rows,.nd dk dn dp ds da⟩ ((.nd 3 [])::b)=fQ b [.nd 2 []]:=Ks
  rw[e];exact aF func74 [⟨_,aS (s:=((.nd 3 [])::b)) (k:=3) (ks:=[]) d⟩,⟨_,dA 2⟩,⟨_,dQ (s:=b) (top:=[.nd 2 []])⟩]
def Py(a:s.all zt=true)(h:s.length<=1000)(l:types.all zt=true):HI 74 75 n types rows dk dn dp ds da s dI:=by
 unfold HI;have d:=mf a
 cases c:sFq s [3]with
 | false =>
  have e:dI ⟨75,n,types,rows,.nd dk dn dp ds da⟩ s =.no 5:=by simp[dI,c,bB]
  rw[e];exact aF func74 [⟨_,aN d c⟩,⟨_,ag 5⟩]
 | true =>
  obtain⟨i,b,rfl,f⟩:=fT ov c;have m:=dD a h;simp only[xf,qu]at a;obtain⟨g,j⟩:=a;obtain rfl:=lZ g ov;have e:dI ⟨75,n,types,rows,.nd dk dn dp ds da⟩ ((.nd 3 [])::b)=fQ b [.nd 2 []]:=Ks
  rw[e];exact aF func74 [⟨_,aS (s:=((.nd 3 [])::b)) (k:=3) (ks:=[]) d⟩,⟨_,dA 2⟩,⟨_,dQ (s:=b) (top:=[.nd 2 []])⟩]
def Pz(a:s.all zt=true)(h:s.length<=1000)(l:types.all zt=true):HI 74 76 n types rows dk dn dp ds da s dI:=by
 unfold HI;have d:=mf a
 cases c:sFq s [3]with
 | false =>
  have e:dI ⟨76,n,types,rows,.nd dk dn dp ds da⟩ s =.no 5:=by simp[dI,c,bB]
  rw[e];exact aF func74 [⟨_,aN d c⟩,⟨_,ag 5⟩]
 | true =>
  obtain⟨i,b,rfl,f⟩:=fT ov c;have m:=dD a h;simp only[xf,qu]at a;obtain⟨g,j⟩:=a;obtain rfl:=lZ g ov;have e:dI ⟨76,n,types,rows,.nd dk dn dp ds da⟩ ((.nd 3 [])::b)=fQ b [.nd 2 []]:=Ks
  rw[e];exact aF func74 [⟨_,aS (s:=((.nd 3 [])::b)) (k:=3) (ks:=[]) d⟩,⟨_,dA 2⟩,⟨_,dQ (s:=b) (top:=[.nd 2 []])⟩]
def PD(a:s.all zt=true)(h:s.length<=1000)(l:types.all zt=true):HI 74 77 n types rows dk dn dp ds da s dI:=by
 unfold HI;have d:=mf a
 cases c:sFq s [2]with
 | false =>
  have e:dI ⟨77,n,types,rows,.nd dk dn dp ds da⟩ s =.no 5:=by simp[dI,c,bB]
  rw[e];exact aF func74 [⟨_,aN d c⟩,⟨_,ag 5⟩]
 | true =>
  obtain⟨i,b,rfl,f⟩:=fT ov c;have m:=dD a h;simp only[xf,qu]at a;obtain⟨g,j⟩:=a;obtain rfl:=lZ g ov;have e:dI ⟨77,n,types,rows,.nd dk dn dp ds da⟩ ((.nd 2 [])::b)=fQ b [.nd 2 []]:=Ks
  rw[e];exact aF func74 [⟨_,aS (s:=((.nd 2 [])::b)) (k:=2) (ks:=[]) d⟩,⟨_,dA 2⟩,⟨_,dQ (s:=b) (top:=[.nd 2 []])⟩]
def PE(b:s.all zt=true)(j:s.length<=1000)(p:types.all zt=true):HI 74 78 n types rows dk dn dp ds da s dI:=by
 unfold HI;have f:=mf b
 cases d:sFq s [2,2]with
 | false =>
  have e:dI ⟨78,n,types,rows,.nd dk dn dp ds da⟩ s =.no 5:=by simp[dI,d,bB]
  rw[e];exact aF func74 [⟨_,aN f d⟩,⟨_,ag 5⟩]
 | true =>
  obtain⟨l,q,rfl,a⟩:=fT ov d;obtain⟨m,c,rfl,g⟩:=fT ov a;have r:=dD b j;simp only[xf,qu]at b;obtain⟨h,i,o⟩:=b;obtain rfl:=lZ h ov;obtain rfl:=lZ i ov;have e:dI ⟨78,n,types,rows,.nd dk dn dp ds da⟩ ((.nd 2 [])::(.nd 2 [])::c)=fQ c [.nd 2 []]:=Ks
  rw[e];exact aF func74 [⟨_,aS (s:=((.nd 2 [])::(.nd 2 [])::c)) (k:=2) (ks:=[2]) f⟩,⟨_,dA 2⟩,⟨_,dQ (s:=c) (top:=[.nd 2 []])⟩]
def PG(b:s.all zt=true)(j:s.length<=1000)(p:types.all zt=true):HI 74 79 n types rows dk dn dp ds da s dI:=by
 unfold HI;have f:=mf b
 cases d:sFq s [2,2]with
 | false =>
  have e:dI ⟨79,n,types,rows,.nd dk dn dp ds da⟩ s =.no 5:=by simp[dI,d,bB]
  rw[e];exact aF func74 [⟨_,aN f d⟩,⟨_,ag 5⟩]
 | true =>
  obtain⟨l,q,rfl,a⟩:=fT ov d;obtain⟨m,c,rfl,g⟩:=fT ov a;have r:=dD b j;simp only[xf,qu]at b;obtain⟨h,i,o⟩:=b;obtain rfl:=lZ h ov;obtain rfl:=lZ i ov;have e:dI ⟨79,n,types,rows,.nd dk dn dp ds da⟩ ((.nd 2 [])::(.nd 2 [])::c)=fQ c [.nd 2 []]:=Ks
  rw[e];exact aF func74 [⟨_,aS (s:=((.nd 2 [])::(.nd 2 [])::c)) (k:=2) (ks:=[2]) f⟩,⟨_,dA 2⟩,⟨_,dQ (s:=c) (top:=[.nd 2 []])⟩]
def FW(a:s.all zt=true)(h:s.length<=1000)(l:types.all zt=true):HI 73 93 n types rows dk dn dp ds da s bJ:=by
 unfold HI;have d:=mf a
 cases c:sFq s [3]with
 | false =>
  have e:bJ ⟨93,n,types,rows,.nd dk dn dp ds da⟩ s =.no 5:=by simp[bJ,c]
  rw[e];exact aF func73 [⟨_,aN d c⟩,⟨_,H_two93⟩,⟨_,ag 5⟩]
 | true =>
  obtain⟨i,b,rfl,f⟩:=fT ov c;have m:=dD a h;simp only[xf,qu]at a;obtain⟨g,j⟩:=a;obtain rfl:=lZ g ov;have e:bJ ⟨93,n,types,rows,.nd dk dn dp ds da⟩ ((.nd 3 [])::b)=fQ b [.nd 4 []]:=by simp[bJ,sFq,Ty.t]
  rw[e];exact aF func73 [⟨_,aS (s:=((.nd 3 [])::b)) (k:=3) (ks:=[]) d⟩,⟨_,dA 4⟩,⟨_,dQ (s:=b) (top:=[.nd 4 []])⟩]
def FX(a:s.all zt=true)(h:s.length<=1000)(l:types.all zt=true):HI 73 94 n types rows dk dn dp ds da s bJ:=by
 unfold HI;have d:=mf a
 cases c:sFq s [3]with
 | false =>
  have e:bJ ⟨94,n,types,rows,.nd dk dn dp ds da⟩ s =.no 5:=by simp[bJ,c]
  rw[e];exact aF func73 [⟨_,aN d c⟩,⟨_,H_two94⟩,⟨_,ag 5⟩]
 | true =>
  obtain⟨i,b,rfl,f⟩:=fT ov c;have m:=dD a h;simp only[xf,qu]at a;obtain⟨g,j⟩:=a;obtain rfl:=lZ g ov;have e:bJ ⟨94,n,types,rows,.nd dk dn dp ds da⟩ ((.nd 3 [])::b)=fQ b [.nd 9 [.nd 4 []]]:=by simp[bJ,sFq,Ty.t]
  rw[e];exact aF func73 [⟨_,aS (s:=((.nd 3 [])::b)) (k:=3) (ks:=[]) d⟩,⟨_,dA 4⟩,⟨_,pz 9 [.nd 4 []]⟩,⟨_,dQ (s:=b) (top:=[.nd 9 [.nd 4 []]])⟩]
def FY(a:s.all zt=true)(h:s.length<=1000)(l:types.all zt=true):HI 73 95 n types rows dk dn dp ds da s bJ:=by
 unfold HI;have d:=mf a
 cases c:sFq s [4]with
 | false =>
  have e:bJ ⟨95,n,types,rows,.nd dk dn dp ds da⟩ s =.no 5:=by simp[bJ,c]
  rw[e];exact aF func73 [⟨_,aN d c⟩,⟨_,H_two95⟩,⟨_,ag 5⟩]
 | true =>
  obtain⟨i,b,rfl,f⟩:=fT ov c;have m:=dD a h;simp only[xf,qu]at a;obtain⟨g,j⟩:=a;obtain rfl:=lZ g ov;have e:bJ ⟨95,n,types,rows,.nd dk dn dp ds da⟩ ((.nd 4 [])::b)=fQ b [.nd 3 []]:=by simp[bJ,sFq,Ty.t]
  rw[e];exact aF func73 [⟨_,aS (s:=((.nd 4 [])::b)) (k:=4) (ks:=[]) d⟩,⟨_,dA 3⟩,⟨_,dQ (s:=b) (top:=[.nd 3 []])⟩]
def F3(h:s.all zt=true)(m:s.length<=1000)(r:types.all zt=true):HI 76 84 n types rows dk dn dp ds da s bF:=by
 unfold HI;have f:=mf h
 cases i:sFq s [0,4]with
 | false =>
  have e:bF ⟨84,n,types,rows,.nd dk dn dp ds da⟩ s =.no 5:=by simp[bF,i,bB,Ty.args]
  rw[e];exact aF func76 [⟨_,dA 4⟩,⟨_,aN f i⟩,⟨_,ag 5⟩]
 | true =>
  obtain⟨b,a,u,rfl,d⟩:=iX i;obtain⟨o,c,rfl,j⟩:=fT ov d;have v:=dD h m;simp only[xf,qu]at h;obtain⟨p,l,q⟩:=h;obtain rfl:=lZ l ov
  cases g:oF (.nd b a)with
  | false =>
   have e:bF ⟨84,n,types,rows,.nd dk dn dp ds da⟩ ((.nd b a)::(.nd 4 [])::c) =.no 5:=by simp[bF,sFq,bB,Ty.args,Ty.t,g]
   rw[e];exact aF func76 [⟨_,dA 4⟩,⟨_,aS (s:=((.nd b a)::(.nd 4 [])::c)) (k:=0) (ks:=[4]) f⟩,⟨_,uQ oE oR g⟩,⟨_,ag 5⟩]
  | true =>
   have e:bF ⟨84,n,types,rows,.nd dk dn dp ds da⟩ ((.nd b a)::(.nd 4 [])::c)=fQ c [.nd 9 [.nd 15 [(.nd b a)]]]:=by simp[bF,sFq,bB,Ty.t,g]
   rw[e];exact aF func76 [⟨_,dA 4⟩,⟨_,aS (s:=((.nd b a)::(.nd 4 [])::c)) (k:=0) (ks:=[4]) f⟩,⟨_,uQ oE oR g⟩,⟨_,pz 15 [(.nd b a)]⟩,⟨_,pz 9 [.nd 15 [(.nd b a)]]⟩,⟨_,dQ (s:=c) (top:=[.nd 9 [.nd 15 [(.nd b a)]]])⟩]
def F4(b:s.all zt=true)(i:s.length<=1000)(m:types.all zt=true):HI 76 85 n types rows dk dn dp ds da s bF:=by
 unfold HI;have f:=mf b
 cases d:sFq s [15]with
 | false =>
  have e:bF ⟨85,n,types,rows,.nd dk dn dp ds da⟩ s =.no 5:=by simp[bF,d,bB,Ty.args]
  rw[e];exact aF func76 [⟨_,dA 4⟩,⟨_,aN f d⟩,⟨_,ag 5⟩]
 | true =>
  obtain⟨j,c,rfl,g⟩:=fT ov d;have o:=dD b i;simp only[xf,qu]at b;obtain⟨h,l⟩:=b;obtain⟨u0,a,rfl⟩:=Bi h ov;have e:bF ⟨85,n,types,rows,.nd dk dn dp ds da⟩ ((.nd 15 [.nd u0 a])::c)=fQ ((.nd 15 [.nd u0 a])::c) [.nd 11 [.nd 7 [],.nd 11 [(.nd u0 a),.nd 4 []]]]:=by simp[bF,sFq,bB,Ty.args,Ty.t]
  rw[e];exact aF func76 [⟨_,dA 4⟩,⟨_,aS (s:=((.nd 15 [.nd u0 a])::c)) (k:=15) (ks:=[]) f⟩,⟨_,dA 7⟩,⟨_,pz 11 [(.nd u0 a),.nd 4 []]⟩,⟨_,pz 11 [.nd 7 [],.nd 11 [(.nd u0 a),.nd 4 []]]⟩,⟨_,dQ (s:=((.nd 15 [.nd u0 a])::c)) (top:=[.nd 11 [.nd 7 [],.nd 11 [(.nd u0 a),.nd 4 []]]])⟩]
def F5(i:s.all zt=true)(r:s.length<=1000)(x:types.all zt=true):HI 76 86 n types rows dk dn dp ds da s bF:=by
 unfold HI;have f:=mf i
 cases j:sFq s [15,11]with
 | false =>
  have e:bF ⟨86,n,types,rows,.nd dk dn dp ds da⟩ s =.no 5:=by simp[bF,j,bB,Ty.args]
  rw[e];exact aF func76 [⟨_,dA 4⟩,⟨_,aN f j⟩,⟨_,ag 5⟩]
 | true =>
  obtain⟨u,y,rfl,h⟩:=fT ov j;obtain⟨v,g,rfl,m⟩:=fT ov h;have z:=dD i r;simp only[xf,qu]at i;obtain⟨p,q,w⟩:=i;obtain⟨u0,a,rfl⟩:=Bi p ov;obtain⟨u1,c,l,d,rfl⟩:=vY q ov
  cases o:sFq [(.nd u1 c),(.nd l d)] [4,4]with
  | false =>
   have e:bF ⟨86,n,types,rows,.nd dk dn dp ds da⟩ ((.nd 15 [.nd u0 a])::(.nd 11 [.nd u1 c,.nd l d])::g) =.no 5:=by simp_all [bF,sFq,bB,Ty.args,Ty.t]
   rw[e];exact aF func76 [⟨_,dA 4⟩,⟨_,aS (s:=((.nd 15 [.nd u0 a])::(.nd 11 [.nd u1 c,.nd l d])::g)) (k:=15) (ks:=[11]) f⟩,⟨_,aN oE o⟩,⟨_,ag 5⟩]
  | true =>
   obtain⟨rfl,rfl⟩:=st2 ov ov o;have e:bF ⟨86,n,types,rows,.nd dk dn dp ds da⟩ ((.nd 15 [.nd u0 a])::(.nd 11 [.nd 4 c,.nd 4 d])::g)=fQ g [.nd 9 [.nd 11 [(.nd 15 [.nd u0 a]),(.nd 15 [.nd u0 a])]]]:=by simp[bF,sFq,bB,Ty.args,Ty.t]
   rw[e];exact aF func76 [⟨_,dA 4⟩,⟨_,aS (s:=((.nd 15 [.nd u0 a])::(.nd 11 [.nd 4 c,.nd 4 d])::g)) (k:=15) (ks:=[11]) f⟩,⟨_,aN (s:=[(.nd 4 c),(.nd 4 d)]) (k:=4) (ks:=[4]) (b:=true) oE (by simp[sFq,Ty.t])⟩,⟨_,pz 11 [(.nd 15 [.nd u0 a]),(.nd 15 [.nd u0 a])]⟩,⟨_,pz 9 [.nd 11 [(.nd 15 [.nd u0 a]),(.nd 15 [.nd u0 a])]]⟩,⟨_,dQ (s:=g) (top:=[.nd 9 [.nd 11 [(.nd 15 [.nd u0 a]),(.nd 15 [.nd u0 a])]]])⟩]
def F6(h:s.all zt=true)(p:s.length<=1000)(u:types.all zt=true):HI 76 87 n types rows dk dn dp ds da s bF:=by
 unfold HI;have d:=mf h
 cases i:sFq s [11]with
 | false =>
  have e:bF ⟨87,n,types,rows,.nd dk dn dp ds da⟩ s =.no 5:=by simp[bF,i,bB,Ty.args]
  rw[e];exact aF func76 [⟨_,dA 4⟩,⟨_,aN d i⟩,⟨_,ag 5⟩]
 | true =>
  obtain⟨q,f,rfl,l⟩:=fT ov i;have v:=dD h p;simp only[xf,qu]at h;obtain⟨o,r⟩:=h;obtain⟨u0,a,j,c,rfl⟩:=vY o ov
  cases m:sFq [(.nd u0 a),(.nd j c)] [15,15]with
  | false =>
   have e:bF ⟨87,n,types,rows,.nd dk dn dp ds da⟩ ((.nd 11 [.nd u0 a,.nd j c])::f) =.no 5:=by simp_all [bF,sFq,bB,Ty.args,Ty.t]
   rw[e];exact aF func76 [⟨_,dA 4⟩,⟨_,aS (s:=((.nd 11 [.nd u0 a,.nd j c])::f)) (k:=11) (ks:=[]) d⟩,⟨_,aN oE m⟩,⟨_,ag 5⟩]
  | true =>
   obtain⟨rfl,rfl⟩:=st2 ov ov m
   cases g:sameT (.nd 15 a) (.nd 15 c)with
   | false =>
    have e:bF ⟨87,n,types,rows,.nd dk dn dp ds da⟩ ((.nd 11 [.nd 15 a,.nd 15 c])::f) =.no 5:=by simp[bF,sFq,bB,Ty.args,Ty.t,g]
    rw[e];exact aF func76 [⟨_,dA 4⟩,⟨_,aS (s:=((.nd 11 [.nd 15 a,.nd 15 c])::f)) (k:=11) (ks:=[]) d⟩,⟨_,aN (s:=[(.nd 15 a),(.nd 15 c)]) (k:=15) (ks:=[15]) (b:=true) oE (by simp[sFq,Ty.t])⟩,⟨_,gu oE oR oE g⟩,⟨_,ag 5⟩]
   | true =>
    have e:bF ⟨87,n,types,rows,.nd dk dn dp ds da⟩ ((.nd 11 [.nd 15 a,.nd 15 c])::f)=fQ f [.nd 9 [(.nd 15 a)]]:=by simp[bF,sFq,bB,Ty.args,Ty.t,g]
    rw[e];exact aF func76 [⟨_,dA 4⟩,⟨_,aS (s:=((.nd 11 [.nd 15 a,.nd 15 c])::f)) (k:=11) (ks:=[]) d⟩,⟨_,aN (s:=[(.nd 15 a),(.nd 15 c)]) (k:=15) (ks:=[15]) (b:=true) oE (by simp[sFq,Ty.t])⟩,⟨_,gu oE oR oE g⟩,⟨_,pz 9 [(.nd 15 a)]⟩,⟨_,dQ (s:=f) (top:=[.nd 9 [(.nd 15 a)]])⟩]
def MQ(m:s.all zt=true)(v:s.length<=1000)(p:types.all zt=true)(w:types.length=1):HI 77 88 n types rows dk dn dp ds da s dO:=by
 unfold HI;obtain⟨i,j,rfl⟩:=GR w;have B:=mf p;have F:=dD p ot;clear p;have d:=mf m
 cases o:sFq s [0,5,7]with
 | false =>
  have e:dO ⟨88,n,[.nd i j],rows,.nd dk dn dp ds da⟩ s =.no 5:=by simp[dO,o,bB]
  rw[e];exact aF func77 [⟨_,aN d o⟩,⟨_,ag 5⟩]
 | true =>
  obtain⟨c,a,C,rfl,g⟩:=iX o;obtain⟨x,D,rfl,h⟩:=fT ov g;obtain⟨y,b,rfl,q⟩:=fT ov h;have E:=dD m v;simp only[xf,qu]at m;obtain⟨z,r,u,A⟩:=m;obtain rfl:=lZ r ov;obtain rfl:=lZ u ov
  cases f:sameT (.nd c a) (.nd i j)with
  | false =>
   have e:dO ⟨88,n,[.nd i j],rows,.nd dk dn dp ds da⟩ ((.nd c a)::(.nd 5 [])::(.nd 7 [])::b) =.no 5:=by simp[dO,sFq,bB,Ty.t,f]
   rw[e];exact aF func77 [⟨_,aS (s:=((.nd c a)::(.nd 5 [])::(.nd 7 [])::b)) (k:=0) (ks:=[5,7]) d⟩,⟨_,gu oE oR oE f⟩,⟨_,ag 5⟩]
  | true =>
   cases l:storeT (.nd c a)with
   | false =>
    have e:dO ⟨88,n,[.nd i j],rows,.nd dk dn dp ds da⟩ ((.nd c a)::(.nd 5 [])::(.nd 7 [])::b) =.no 5:=by simp[dO,sFq,bB,Ty.t,f,l]
    rw[e];exact aF func77 [⟨_,aS (s:=((.nd c a)::(.nd 5 [])::(.nd 7 [])::b)) (k:=0) (ks:=[5,7]) d⟩,⟨_,gu oE oR oE f⟩,⟨_,FO oE oR l⟩,⟨_,ag 5⟩]
   | true =>
    have e:dO ⟨88,n,[.nd i j],rows,.nd dk dn dp ds da⟩ ((.nd c a)::(.nd 5 [])::(.nd 7 [])::b)=fQ b [.nd 8 []]:=by simp[dO,sFq,bB,Ty.t,f,l]
    rw[e];exact aF func77 [⟨_,aS (s:=((.nd c a)::(.nd 5 [])::(.nd 7 [])::b)) (k:=0) (ks:=[5,7]) d⟩,⟨_,gu oE oR oE f⟩,⟨_,FO oE oR l⟩,⟨_,dA 8⟩,⟨_,dQ (s:=b) (top:=[.nd 8 []])⟩]
def MR(a:s.all zt=true)(c:s.length<=1000)(b:types.all zt=true):HI 77 89 n types rows dk dn dp ds da s dO:=by
 unfold HI;have d:=mf a;have e:dO ⟨89,n,types,rows,.nd dk dn dp ds da⟩ s=fQ s [.nd 7 []]:=by simp[dO,bB]
 rw[e];exact aF func77 [⟨_,dA 7⟩,⟨_,dQ (s:=s) (top:=[.nd 7 []])⟩]
def MS(a:s.all zt=true)(c:s.length<=1000)(b:types.all zt=true):HI 77 90 n types rows dk dn dp ds da s dO:=by
 unfold HI;have d:=mf a;have e:dO ⟨90,n,types,rows,.nd dk dn dp ds da⟩ s=fQ s [.nd 7 []]:=by simp[dO,bB]
 rw[e];exact aF func77 [⟨_,dA 7⟩,⟨_,dQ (s:=s) (top:=[.nd 7 []])⟩]
def MU(a:s.all zt=true)(c:s.length<=1000)(b:types.all zt=true):HI 77 91 n types rows dk dn dp ds da s dO:=by
 unfold HI;have d:=mf a;have e:dO ⟨91,n,types,rows,.nd dk dn dp ds da⟩ s=fQ s [.nd 5 []]:=by simp[dO,bB]
 rw[e];exact aF func77 [⟨_,dA 5⟩,⟨_,dQ (s:=s) (top:=[.nd 5 []])⟩]
def MV(a:s.all zt=true)(c:s.length<=1000)(b:types.all zt=true):HI 77 92 n types rows dk dn dp ds da s dO:=by
 unfold HI;have d:=mf a;have e:dO ⟨92,n,types,rows,.nd dk dn dp ds da⟩ s=fQ s [.nd 5 []]:=by simp[dO,bB]
 rw[e];exact aF func77 [⟨_,dA 5⟩,⟨_,dQ (s:=s) (top:=[.nd 5 []])⟩]
def MX(b:s.all zt=true)(j:s.length<=1000)(p:types.all zt=true):HI 75 80 n types rows dk dn dp ds da s cZ:=by
 unfold HI;have f:=mf b
 cases d:sFq s [6,6]with
 | false =>
  have e:cZ ⟨80,n,types,rows,.nd dk dn dp ds da⟩ s =.no 5:=by simp[cZ,d,bB]
  rw[e];exact aF func75 [⟨_,aN f d⟩,⟨_,ag 5⟩]
 | true =>
  obtain⟨l,q,rfl,a⟩:=fT ov d;obtain⟨m,c,rfl,g⟩:=fT ov a;have r:=dD b j;simp only[xf,qu]at b;obtain⟨h,i,o⟩:=b;obtain rfl:=lZ h ov;obtain rfl:=lZ i ov;have e:cZ ⟨80,n,types,rows,.nd dk dn dp ds da⟩ ((.nd 6 [])::(.nd 6 [])::c)=fQ c [.nd 6 []]:=by simp[cZ,sFq,bB,Ty.t]
  rw[e];exact aF func75 [⟨_,aS (s:=((.nd 6 [])::(.nd 6 [])::c)) (k:=6) (ks:=[6]) f⟩,⟨_,dA 6⟩,⟨_,dQ (s:=c) (top:=[.nd 6 []])⟩]
def MZ(g:s.all zt=true)(j:s.length<=1000)(o:types.all zt=true):HI 75 81 n types rows dk dn dp ds da s cZ:=by
 unfold HI;have c:=mf g
 cases h:sFq s [0]with
 | false =>
  have e:cZ ⟨81,n,types,rows,.nd dk dn dp ds da⟩ s =.no 5:=by simp[cZ,h,bB]
  rw[e];exact aF func75 [⟨_,aN c h⟩,⟨_,ag 5⟩]
 | true =>
  obtain⟨d,b,a,rfl,i⟩:=iX h;have p:=dD g j;simp only[xf,qu]at g;obtain⟨l,m⟩:=g
  cases f:eB (.nd d b)with
  | false =>
   have e:cZ ⟨81,n,types,rows,.nd dk dn dp ds da⟩ ((.nd d b)::a) =.no 5:=by simp[cZ,sFq,bB,Ty.t,f]
   rw[e];exact aF func75 [⟨_,aS (s:=((.nd d b)::a)) (k:=0) (ks:=[]) c⟩,⟨_,pG oE oR f⟩,⟨_,ag 5⟩]
  | true =>
   have e:cZ ⟨81,n,types,rows,.nd dk dn dp ds da⟩ ((.nd d b)::a)=fQ a [.nd 6 []]:=by simp[cZ,sFq,bB,Ty.t,f]
   rw[e];exact aF func75 [⟨_,aS (s:=((.nd d b)::a)) (k:=0) (ks:=[]) c⟩,⟨_,pG oE oR f⟩,⟨_,dA 6⟩,⟨_,dQ (s:=a) (top:=[.nd 6 []])⟩]
def M0(g:s.all zt=true)(m:s.length<=1000)(i:types.all zt=true)(o:types.length=1):HI 75 82 n types rows dk dn dp ds da s cZ:=by
 unfold HI;obtain⟨a,b,rfl⟩:=GR o;have r:=mf i;have v:=dD i ot;clear i;have d:=mf g
 cases h:sFq s [6]with
 | false =>
  have e:cZ ⟨82,n,[.nd a b],rows,.nd dk dn dp ds da⟩ s =.no 5:=by simp[cZ,h,bB]
  rw[e];exact aF func75 [⟨_,aN d h⟩,⟨_,ag 5⟩]
 | true =>
  obtain⟨p,c,rfl,j⟩:=fT ov h;have u:=dD g m;simp only[xf,qu]at g;obtain⟨l,q⟩:=g;obtain rfl:=lZ l ov
  cases f:eB (.nd a b)with
  | false =>
   have e:cZ ⟨82,n,[.nd a b],rows,.nd dk dn dp ds da⟩ ((.nd 6 [])::c) =.no 5:=by simp[cZ,sFq,bB,Ty.t,f]
   rw[e];exact aF func75 [⟨_,aS (s:=((.nd 6 [])::c)) (k:=6) (ks:=[]) d⟩,⟨_,pG oE oR f⟩,⟨_,ag 5⟩]
  | true =>
   have e:cZ ⟨82,n,[.nd a b],rows,.nd dk dn dp ds da⟩ ((.nd 6 [])::c)=fQ c [.nd 9 [(.nd a b)]]:=by simp[cZ,sFq,bB,Ty.t,f]
   rw[e];exact aF func75 [⟨_,aS (s:=((.nd 6 [])::c)) (k:=6) (ks:=[]) d⟩,⟨_,pG oE oR f⟩,⟨_,pz 9 [(.nd a b)]⟩,⟨_,dQ (s:=c) (top:=[.nd 9 [(.nd a b)]])⟩]
def ML(a:s.all zt=true)(i:s.length<=1000)(m:types.all zt=true):HI 68 40 n types rows dk dn dp ds da s dG:=by
 unfold HI;have d:=mf a
 cases c:sFq s [0]with
 | false =>
  have e:dG ⟨40,n,types,rows,.nd dk dn dp ds da⟩ s =.no 5:=by simp[dG,c,bB]
  rw[e];exact aF func68 [⟨_,aN d c⟩,⟨_,ag 5⟩]
 | true =>
  obtain⟨h,f,b,rfl,g⟩:=iX c;have o:=dD a i;simp only[xf,qu]at a;obtain⟨j,l⟩:=a;have e:dG ⟨40,n,types,rows,.nd dk dn dp ds da⟩ ((.nd h f)::b)=fQ b []:=by simp[dG,sFq,Ty.t]
  rw[e];exact aF func68 [⟨_,aS (s:=((.nd h f)::b)) (k:=0) (ks:=[]) d⟩,⟨_,AO (s:=b) oE (by simp only[jn]at *;omega)⟩]
def MN(d:s.all zt=true)(m:s.length<=1000)(r:types.all zt=true):HI 68 42 n types rows dk dn dp ds da s dG:=by
 unfold HI;have j:=mf d
 cases i:sFq s [0,0]with
 | false =>
  have e:dG ⟨42,n,types,rows,.nd dk dn dp ds da⟩ s =.no 5:=by simp[dG,i,bB]
  rw[e];exact aF func68 [⟨_,aN j i⟩,⟨_,ag 5⟩]
 | true =>
  obtain⟨g,b,u,rfl,a⟩:=iX i;obtain⟨h,c,f,rfl,l⟩:=iX a;have v:=dD d m;simp only[xf,qu]at d;obtain⟨o,p,q⟩:=d;have e:dG ⟨42,n,types,rows,.nd dk dn dp ds da⟩ ((.nd g b)::(.nd h c)::f)=fQ f [(.nd h c),(.nd g b)]:=by simp[dG,sFq,bB,Ty.t]
  rw[e];exact aF func68 [⟨_,aS (s:=((.nd g b)::(.nd h c)::f)) (k:=0) (ks:=[0]) j⟩,⟨_,dQ (s:=f) (top:=[(.nd h c),(.nd g b)])⟩]
def I8{row:List Tr->List Ty->iF}(l:s.all zt=true)(q:s.length<=1000)(v:types.all zt=true):Hd ⟨72,[uq 67 n types rows dk dn dp ds da,dZ s],iH (bP row ⟨67,n,types,rows,.nd dk dn dp ds da⟩ s)⟩:=by
 have h:=mf l
 cases m:sFq s [0,14]with
 | false =>
  have e:bP row ⟨67,n,types,rows,.nd dk dn dp ds da⟩ s =.no 5:=by simp[bP,m,bB,Ty.args]
  rw[e];exact aF func72 [⟨_,aN h m⟩,⟨_,ag 5⟩]
 | true =>
  obtain⟨i,d,w,rfl,g⟩:=iX m;obtain⟨r,b,rfl,o⟩:=fT ov g;have x:=dD l q;simp only[xf,qu]at l;obtain⟨u,p,gr⟩:=l;obtain⟨u1,f,c,a,rfl⟩:=vY p ov
  cases j:sameT (.nd i d) (.nd u1 f)with
  | false =>
   have e:bP row ⟨67,n,types,rows,.nd dk dn dp ds da⟩ ((.nd i d)::(.nd 14 [.nd u1 f,.nd c a])::b) =.no 5:=by simp[bP,sFq,bB,Ty.args,Ty.t,j]
   rw[e];exact aF func72 [⟨_,aS (s:=((.nd i d)::(.nd 14 [.nd u1 f,.nd c a])::b)) (k:=0) (ks:=[14]) h⟩,⟨_,gu oE oR oE j⟩,⟨_,ag 5⟩]
  | true =>
   have e:bP row ⟨67,n,types,rows,.nd dk dn dp ds da⟩ ((.nd i d)::(.nd 14 [.nd u1 f,.nd c a])::b)=fQ b [(.nd c a)]:=by simp[bP,sFq,bB,Ty.args,Ty.t,j]
   rw[e];exact aF func72 [⟨_,aS (s:=((.nd i d)::(.nd 14 [.nd u1 f,.nd c a])::b)) (k:=0) (ks:=[14]) h⟩,⟨_,gu oE oR oE j⟩,⟨_,dQ (s:=b) (top:=[(.nd c a)])⟩]
end
def wayA:iF->A1
 | .no e=>.agg [.d (.s 0 []),.d (.v (.bool false)),.d (.v (.i e))]
 | .ok f ts=>.agg [.d (.s 2 (tysD ts)),.d (.v (.bool f)),.d (.v (.i 0))]
def SA (e:Int):Prop:=e=1\/e=4\/e=5\/e=7
def yI (r:iF):Prop:=(∀e,r =.no e->SA e)/\∀f ts,r =.ok f ts->ts.all zt=true/\ts.length<=1001
def KY(r:iF):Hd ⟨148,ledA r,.of (wayA r)⟩:=by
 cases r with
 | no e=>exact aF func148 []
 | ok f a=>exact aF func148 []
def Pk{a b:iF}(j:yI a)(k:yI b):Hd ⟨147,[wayA a,wayA b],iH (meetF a b)⟩:=by
 cases a with
 | no e =>
  have d:=ag e;rcases j.1 e rfl with rfl|rfl|rfl|rfl
  all_goals
   cases b with
   | no c=>exact aF func147 [⟨_,d⟩]
   | ok g y=>exact aF func147 [⟨_,d⟩]
 | ok f x =>
  cases b with
  | no e =>
   have d:=ag e;rcases k.1 e rfl with rfl|rfl|rfl|rfl
   all_goals exact aF func147 [⟨_,d⟩]
  | ok g y =>
   obtain⟨i,m⟩:=j.2 f x rfl;obtain⟨l,n⟩:=k.2 g y rfl
   cases f with
   | true=>exact aF func147 []
   | false =>
    cases g with
    | true=>exact aF func147 []
    | false =>
     have h:=YZ (x:=x) (y:=y) (mf i) (mf l) (.inl rfl) (.inl rfl) (by have:=sz_len i;omega)
     cases e:sameTs x y with
     | true =>
      rw[e]at h;have c:meetF (.ok false x) (.ok false y) =.ok false x:=by simp[meetF,e]
      rw[c];exact aF func147 [⟨_,h⟩]
     | false =>
      rw[e]at h;have c:meetF (.ok false x) (.ok false y) =.no 5:=by simp[meetF,e]
      rw[c];exact aF func147 [⟨_,h⟩,⟨_,ag 5⟩]
def yI.put{s:List Ty}(b:s.all zt=true)(a:s.length<=1001):yI (fQ s []) :=
 ⟨λe h=>by simp[fQ]at h,λf c h=>by simp only[fQ,iF.ok.injEq,qf0]at h;obtain⟨_,rfl⟩:=h;exact⟨b,a⟩⟩
section
variable {p n:Int}{types:List Ty}{rows:List (List Tr)}{dk dn dp:Int}{ds:ByteArray}{da:List Tr}{row:List Tr->List Ty->iF}{M:Nat}
structure xg (row:List Tr->List Ty->iF) (rows:List (List Tr)) (M:Nat):Prop where
 ok:∀l∈rows,okNs l
 run:∀l∈rows,∀s:List Ty,s.all zt=true->s.length<=M+1->Hd ⟨25,[CW l,dZ s],iH (row l s)⟩
 led:∀l∈rows,∀s:List Ty,s.all zt=true->s.length<=M+1->yI (row l s)
 top:M<=1000
def wW{s x y:List Ty}{k m:Nat}{e f:List Tr}(h:xg row [e,f] M)(o:s.all zt=true)(z:x.all zt=true)(A:y.all zt=true)(hk:k=2\/x=[])(F:m=2\/y=[])(w:x.length+s.length<=M+1)(i:y.length+s.length<=M+1) :
 Hd ⟨107,[uq p n types [e,f] dk dn dp ds da,dZ s,.one (.d (.s k (tysD x))),.one (.d (.s m (tysD y)))],iH (iC row ⟨p,n,types,[e,f],.nd dk dn dp ds da⟩ s x y)⟩:=by
 have j:(x++s).all zt=true:=by simp[z,o]
 have l:(y++s).all zt=true:=by simp[A,o]
 have H:=h.top;have D:=h.run e ot (x++s) j (by simpa using w);have E:=h.run f ot (y++s) l (by simpa using i);have B:=h.led e ot (x++s) j (by simpa using w);have C:=h.led f ot (y++s) l (by simpa using i);have g:iC row ⟨p,n,types,[e,f],.nd dk dn dp ds da⟩ s x y=meetF (row e (x++s)) (row f (y++s)):=rfl;rw[g];clear g;have v:=Pk B C;have q:=lg (m:=k) (n:=2) (mf z) (mf o) hk (.inl rfl) od;have r:=lg (m:=m) (n:=2) (mf A) (mf o) F (.inl rfl) od;have t:=KY (row e (x++s));have u:=KY (row f (y++s));generalize row e (x++s)=a at *;generalize row f (y++s)=b at *;generalize G:meetF a b=c at *;cases a<;>cases b<;>cases c<;>exact aF func107 [⟨_,q⟩,⟨_,D⟩,⟨_,t⟩,⟨_,r⟩,⟨_,E⟩,⟨_,u⟩,⟨_,v⟩]
def Yx{a b:iF}(c:yI a)(d:yI b):yI (meetF a b):=by
 cases a with
 | no e=>exact c
 | ok f x =>
  cases b with
  | no e=>exact d
  | ok g y =>
   simp only[meetF];split
   .exact d
   .split
    .exact c
    .exact⟨λe h=>by simp only[iF.no.injEq]at h;subst h;exact .inr (.inr (.inl rfl)),λf i h=>by simp at h⟩
def uR{x y z:List Ty}{b:List Tr}(hR:xg row [b] M)(s:x.all zt=true)(l:y.all zt=true)(hz:okTs z)(q:x.length<=M+1)(i:y.length<=1001)(u:z.length<=1001) :
 Hd ⟨108,[uq p n types [b] dk dn dp ds da,dZ x,dZ y,dZ z],iH (dM row ⟨p,n,types,[b],.nd dk dn dp ds da⟩ x y z)⟩:=by
 have A:=hR.top;have o:=hR.run b ot x s q;have m:=hR.led b ot x s q;have d:dM row ⟨p,n,types,[b],.nd dk dn dp ds da⟩ x y z=(match meetF (row b x) (fQ y [])with | .no e=>.no e | .ok _ _=>fQ z []):=rfl;rw[d];clear d;have j:=Pk m (yI.put l i);have r:=AO (mf l) od;have k:=AO hz od;have g:=KY (row b x);have h:=KY (fQ y []);have t:=(Yx m (yI.put l i)).1;generalize row b x=a at *;generalize v:meetF a (fQ y [])=c at *
 cases c with
 | no e =>
  have w:=ag e;rcases t e rfl with rfl|rfl|rfl|rfl
  all_goals cases a<;>exact aF func108 [⟨_,o⟩,⟨_,g⟩,⟨_,r⟩,⟨_,h⟩,⟨_,j⟩,⟨_,w⟩]
 | ok f B=>cases a<;>exact aF func108 [⟨_,o⟩,⟨_,g⟩,⟨_,r⟩,⟨_,h⟩,⟨_,j⟩,⟨_,k⟩]
def SH{d:Int}{c s:List Ty}{b:List Tr}(hR:xg row [b] M)(m:zt (.nd d c)=true)(l:s.all zt=true)(k:s.length<=M+1) :
 Hd ⟨109,[uq p n types [b] dk dn dp ds da,tyA (.nd d c),dZ s],iH (l7 row ⟨p,n,types,[b],.nd dk dn dp ds da⟩ (.nd d c) s)⟩:=by
 have i:=hR.run b ot s l k;have j:=hR.led b ot s l k;have g:l7 row ⟨p,n,types,[b],.nd dk dn dp ds da⟩ (.nd d c) s=(match row b s with | .no e=>.no e | .ok f h=>if f=true then .no 1 else fQ h [.nd d c]):=rfl;rw[g];clear g;generalize row b s=a at *
 cases a with
 | no e =>
  have o:=ag e;rcases j.1 e rfl with rfl|rfl|rfl|rfl
  all_goals exact aF func109 [⟨_,i⟩,⟨_,o⟩]
 | ok f h =>
  obtain⟨gt,lt⟩:=j.2 f h rfl
  cases f with
  | true=>exact aF func109 [⟨_,i⟩,⟨_,ag 1⟩]
  | false=>exact aF func109 [⟨_,i⟩,⟨_,vS (s:=h) (top:=[.nd d c]) (mf gt) ⟨oM m,trivial⟩ oB⟩]
end
section
variable {n:Int}{types:List Ty}{rows:List (List Tr)}{dk dn dp:Int}{ds:ByteArray}{da:List Tr}{row:List Tr->List Ty->iF}{s:List Ty}{M:Nat}
def wZ{p k:Int}(l:p=52/\k=12\/p=55/\k=9\/p=58/\k=10\/p=64/\k=2)(a:s.all zt=true)(q:s.length<=M){b f:List Tr}(hR:xg row [b,f] M) :
 Hd ⟨71,[uq p n types [b,f] dk dn dp ds da,dZ s],iH (eG row ⟨p,n,types,[b,f],.nd dk dn dp ds da⟩ s)⟩:=by
 have o:=mf a
 cases j:sFq s [k]with
 | false =>
  have e:eG row ⟨p,n,types,[b,f],.nd dk dn dp ds da⟩ s =.no 5:=by rcases l with⟨rfl,rfl⟩|⟨rfl,rfl⟩|⟨rfl,rfl⟩|⟨rfl,rfl⟩<;>simp[eG,j]
  rw[e];have i:=aN o j;rcases l with⟨rfl,rfl⟩|⟨rfl,rfl⟩|⟨rfl,rfl⟩|⟨rfl,rfl⟩<;>exact aF func71 [⟨_,i⟩,⟨_,ag 5⟩]
 | true =>
  have i:=aN o j;obtain⟨w,r,rfl,_⟩:=fT od j;simp only[xf,qu]at a;simp only[jn]at q;have g:=wF a.1;rcases l with⟨rfl,rfl⟩|⟨rfl,rfl⟩|⟨rfl,rfl⟩|⟨rfl,rfl⟩
  .obtain⟨u,c,v,d,rfl⟩:=vY a.1 ov;simp only[xf,jh3,qu,and_true]at g;have h:=wW (p:=52) (n:=n) (types:=types) (dk:=dk) (dn:=dn) (dp:=dp) (ds:=ds) (da:=da) (k:=2) (m:=2) (x:=[.nd u c]) (y:=[.nd v d]) hR a.2 (by simp[g]) (by simp[g]) (.inl rfl) (.inl rfl) oB oB;rw[show eG row ⟨52,n,types,[b,f],.nd dk dn dp ds da⟩ (.nd 12 [.nd u c,.nd v d]::r)=iC row ⟨52,n,types,[b,f],.nd dk dn dp ds da⟩ r [.nd u c] [.nd v d] by simp[eG,sFq,bB,Ty.args,Ty.t]];generalize iC row _ _ _ _=c at *;cases c<;>exact aF func71 [⟨_,i⟩,⟨_,h⟩]
  .obtain⟨u,c,rfl⟩:=Bi a.1 ov;simp only[xf,jh3,qu,and_true]at g;have h:=wW (p:=55) (n:=n) (types:=types) (dk:=dk) (dn:=dn) (dp:=dp) (ds:=ds) (da:=da) (k:=0) (m:=2) (x:=[]) (y:=[.nd u c]) hR a.2 rfl (by simp[g]) (.inr rfl) (.inl rfl) oB oB;rw[show eG row ⟨55,n,types,[b,f],.nd dk dn dp ds da⟩ (.nd 9 [.nd u c]::r)=iC row ⟨55,n,types,[b,f],.nd dk dn dp ds da⟩ r [] [.nd u c] by simp[eG,sFq,bB,Ty.args,Ty.t]];generalize iC row _ _ _ _=c at *;cases c<;>exact aF func71 [⟨_,i⟩,⟨_,h⟩]
  .obtain⟨u,c,rfl⟩:=Bi a.1 ov;simp only[xf,jh3,qu,and_true]at g;have h:=wW (p:=58) (n:=n) (types:=types) (dk:=dk) (dn:=dn) (dp:=dp) (ds:=ds) (da:=da) (k:=2) (m:=0) (x:=[.nd u c,.nd 10 [.nd u c]]) (y:=[]) hR a.2 (by simp[g,a.1]) rfl (.inl rfl) (.inr rfl) oB oB;rw[show eG row ⟨58,n,types,[b,f],.nd dk dn dp ds da⟩ (.nd 10 [.nd u c]::r)=iC row ⟨58,n,types,[b,f],.nd dk dn dp ds da⟩ r [.nd u c,.nd 10 [.nd u c]] [] by simp[eG,sFq,bB,Ty.args,Ty.t]];generalize iC row _ _ _ _=c at *;cases c<;>exact aF func71 [⟨_,i⟩,⟨_,h⟩]
  .obtain rfl:=lZ a.1 ov;have h:=wW (p:=64) (n:=n) (types:=types) (dk:=dk) (dn:=dn) (dp:=dp) (ds:=ds) (da:=da) (k:=0) (m:=0) (x:=[]) (y:=[]) hR a.2 rfl rfl (.inr rfl) (.inr rfl) oB oB;rw[show eG row ⟨64,n,types,[b,f],.nd dk dn dp ds da⟩ (.nd 2 []::r)=iC row ⟨64,n,types,[b,f],.nd dk dn dp ds da⟩ r [] [] by simp[eG,sFq,Ty.t]];generalize iC row _ _ _ _=c at *;cases c<;>exact aF func71 [⟨_,i⟩,⟨_,h⟩]
def I5(a:s.all zt=true)(q:s.length<=M){b:List Tr}(hR:xg row [b] M) :
 Hd ⟨72,[uq 60 n types [b] dk dn dp ds da,dZ s],iH (bP row ⟨60,n,types,[b],.nd dk dn dp ds da⟩ s)⟩:=by
 have g:=mf a;have A:=hR.top
 cases e:sFq s [10]with
 | true =>
  have k:=aN g e;obtain⟨w,r,rfl,_⟩:=fT ov e;simp only[xf,qu]at a;simp only[jn]at q;have h:=wF a.1;obtain⟨u,c,rfl⟩:=Bi a.1 ov;simp only[xf,jh3,qu,and_true]at h;have i:=lg (m:=2) (n:=2) (x:=[.nd u c]) (y:=r) ⟨oM h,trivial⟩ (mf a.2) (.inl rfl) (.inl rfl) oB;have j:=uR (p:=60) (n:=n) (types:=types) (dk:=dk) (dn:=dn) (dp:=dp) (ds:=ds) (da:=da) (x:=[.nd u c]++r) (y:=r) (z:=r) hR (by simp[h,a.2]) a.2 (mf a.2) oB od od;rw[show bP row ⟨60,n,types,[b],.nd dk dn dp ds da⟩ (.nd 10 [.nd u c]::r)=dM row ⟨60,n,types,[b],.nd dk dn dp ds da⟩ ([.nd u c]++r) r r by simp[bP,sFq,bB,Ty.args,Ty.t]];generalize dM row _ _ _ _=c at *;cases c<;>exact aF func72 [⟨_,k⟩,⟨_,i⟩,⟨_,j⟩]
 | false =>
  have o:=aN g e
  cases f:sFq s [13]with
  | true =>
   have k:=aN g f;obtain⟨w,r,rfl,_⟩:=fT ov f;simp only[xf,qu]at a;simp only[jn]at q;have l:=yV a.1;obtain⟨u,c,v,d,rfl⟩:=vY a.1 ov;have i:=lg (m:=2) (n:=2) (x:=[.nd 11 [.nd u c,.nd v d]]) (y:=r) ⟨oM l,trivial⟩ (mf a.2) (.inl rfl) (.inl rfl) oB;have j:=uR (p:=60) (n:=n) (types:=types) (dk:=dk) (dn:=dn) (dp:=dp) (ds:=ds) (da:=da) (x:=[.nd 11 [.nd u c,.nd v d]]++r) (y:=r) (z:=r) hR (by simp[l,a.2]) a.2 (mf a.2) oB od od;rw[show bP row ⟨60,n,types,[b],.nd dk dn dp ds da⟩ (.nd 13 [.nd u c,.nd v d]::r)=dM row ⟨60,n,types,[b],.nd dk dn dp ds da⟩ ([.nd 11 [.nd u c,.nd v d]]++r) r r by simp[bP,sFq,bB,Ty.args,Ty.t]];generalize dM row _ _ _ _=c at *;cases c<;>exact aF func72 [⟨_,o⟩,⟨_,k⟩,⟨_,pz 11 [.nd u c,.nd v d]⟩,⟨_,i⟩,⟨_,j⟩]
  | false =>
   rw[show bP row ⟨60,n,types,[b],.nd dk dn dp ds da⟩ s =.no 5 by simp[bP,e,f]];exact aF func72 [⟨_,o⟩,⟨_,aN g f⟩,⟨_,ag 5⟩]
def I6(b:s.all zt=true)(j:s.length<=M){a:List Tr}(hR:xg row [a] M) :
 Hd ⟨72,[uq 65 n types [a] dk dn dp ds da,dZ s],iH (bP row ⟨65,n,types,[a],.nd dk dn dp ds da⟩ s)⟩:=by
 have g:=mf b;have k:=hR.top
 cases d:sFq s [2]with
 | true =>
  have i:=aN g d;have f:=b;obtain⟨e,r,rfl,_⟩:=fT ov d;simp only[xf,qu]at b;simp only[jn]at j;have h:=uR (p:=65) (n:=n) (types:=types) (dk:=dk) (dn:=dn) (dp:=dp) (ds:=ds) (da:=da) (x:=r) (y:=.nd 2 e::r) (z:=r) hR b.2 f (mf b.2) od oB od;rw[show bP row ⟨65,n,types,[a],.nd dk dn dp ds da⟩ (.nd 2 e::r)=dM row ⟨65,n,types,[a],.nd dk dn dp ds da⟩ r (.nd 2 e::r) r by simp[bP,sFq,Ty.t]];generalize dM row _ _ _ _=c at *;cases c<;>exact aF func72 [⟨_,i⟩,⟨_,h⟩]
 | false =>
  rw[show bP row ⟨65,n,types,[a],.nd dk dn dp ds da⟩ s =.no 5 by simp[bP,d]];exact aF func72 [⟨_,aN g d⟩,⟨_,ag 5⟩]
def I7(q:s.all zt=true)(u:s.length<=M){g:List Tr}(hR:xg row [g] M)(i:types.all zt=true)(r:types.length=2) :
 Hd ⟨72,[uq 66 n types [g] dk dn dp ds da,dZ s],iH (bP row ⟨66,n,types,[g],.nd dk dn dp ds da⟩ s)⟩:=by
 have k:=mf q;have t:=hR.top;have j:=mf i;obtain⟨a,d,b,e,rfl⟩:=Uk r;have f:=KZ (hR.ok g ot);simp only[xf,jh3,qu,and_true]at i
 cases h:mintsTs g with
 | true =>
  rw[h]at f;rw[show bP row ⟨66,n,[.nd a d,.nd b e],[g],.nd dk dn dp ds da⟩ s =.no 5 by simp[bP,rowAt,h]];exact aF func72 [⟨_,f⟩,⟨_,ag 5⟩]
 | false =>
  rw[h]at f;have l:=lg (m:=2) (n:=2) (x:=[.nd 14 [.nd a d,.nd b e]]) (y:=s) ⟨⟨⟨ov,ov⟩,j⟩,trivial⟩ k (.inl rfl) (.inl rfl) oB;have o:=uR (p:=66) (n:=n) (types:=[.nd a d,.nd b e]) (dk:=dk) (dn:=dn) (dp:=dp) (ds:=ds) (da:=da) (x:=[.nd a d]) (y:=[.nd b e]) (z:=[.nd 14 [.nd a d,.nd b e]]++s) hR (by simp[i]) (by simp[i]) (show okTs (.nd 14 [.nd a d,.nd b e]::s) from ⟨⟨⟨ov,ov⟩,j⟩,k⟩) ot ot oB;rw[show bP row ⟨66,n,[.nd a d,.nd b e],[g],.nd dk dn dp ds da⟩ s=dM row ⟨66,n,[.nd a d,.nd b e],[g],.nd dk dn dp ds da⟩ [.nd a d] [.nd b e] ([.nd 14 [.nd a d,.nd b e]]++s) by simp[bP,rowAt,h]];generalize dM row _ _ _ _=c at *;cases c<;>exact aF func72 [⟨_,f⟩,⟨_,pz 14 [.nd a d,.nd b e]⟩,⟨_,l⟩,⟨_,o⟩]
def I9(d:s.all zt=true)(j:s.length<=M){a:List Tr}(hR:xg row [a] M) :
 Hd ⟨72,[uq 68 n types [a] dk dn dp ds da,dZ s],iH (bP row ⟨68,n,types,[a],.nd dk dn dp ds da⟩ s)⟩:=by
 have f:=mf d
 cases b:sFq s [0]with
 | true =>
  have i:=aN f b;obtain⟨g,e,r,rfl,_⟩:=iX b;simp only[xf,qu]at d;simp only[jn]at j;have h:=SH (p:=68) (n:=n) (types:=types) (dk:=dk) (dn:=dn) (dp:=dp) (ds:=ds) (da:=da) hR d.1 d.2 od;rw[show bP row ⟨68,n,types,[a],.nd dk dn dp ds da⟩ (.nd g e::r)=l7 row ⟨68,n,types,[a],.nd dk dn dp ds da⟩ (.nd g e) r by simp[bP,sFq,bB,Ty.args,Ty.t]];generalize l7 row _ _ _=c at *;cases c<;>exact aF func72 [⟨_,i⟩,⟨_,h⟩]
 | false =>
  rw[show bP row ⟨68,n,types,[a],.nd dk dn dp ds da⟩ s =.no 5 by simp[bP,b]];exact aF func72 [⟨_,aN f b⟩,⟨_,ag 5⟩]
def FR(o:s.all zt=true)(j:s.length<=1000):HI 70 59 n types rows dk dn dp ds da s aP:=by
 unfold HI;have b:=mf o;have fin:∀{k:Int},k=6\/k=10\/k=13->sFq s [k]=true->∃t a r,s =.nd t a::r/\aP ⟨59,n,types,rows,.nd dk dn dp ds da⟩ s=fQ r [.nd 4 []]:=λm h=>by obtain⟨a,r,rfl,_⟩:=fT od h;refine⟨_,a,r,rfl,?_⟩;rcases m with rfl|rfl|rfl<;>simp[aP,sFq,Ty.t]
 cases f:sFq s [6]with
 | true =>
  have c:=aN b f;obtain⟨t,a,r,rfl,e⟩:=fin (.inl rfl) f;rw[e];exact aF func70 [⟨_,c⟩,⟨_,dA 4⟩,⟨_,vS (s:=r) (top:=[.nd 4 []]) b.2 ⟨⟨⟨ov,ov⟩,trivial⟩,trivial⟩ (by simp at j|-;omega)⟩]
 | false =>
  have c:=aN b f
  cases g:sFq s [10]with
  | true =>
   have d:=aN b g;obtain⟨t,a,r,rfl,e⟩:=fin (.inr (.inl rfl)) g;rw[e];exact aF func70 [⟨_,c⟩,⟨_,d⟩,⟨_,dA 4⟩,⟨_,vS (s:=r) (top:=[.nd 4 []]) b.2 ⟨⟨⟨ov,ov⟩,trivial⟩,trivial⟩ (by simp at j|-;omega)⟩]
  | false =>
   have d:=aN b g
   cases i:sFq s [13]with
   | true =>
    have l:=aN b i;obtain⟨t,a,r,rfl,e⟩:=fin (.inr (.inr rfl)) i;rw[e];exact aF func70 [⟨_,c⟩,⟨_,d⟩,⟨_,l⟩,⟨_,dA 4⟩,⟨_,vS (s:=r) (top:=[.nd 4 []]) b.2 ⟨⟨⟨ov,ov⟩,trivial⟩,trivial⟩ (by simp at j|-;omega)⟩]
   | false =>
    rw[show aP ⟨59,n,types,rows,.nd dk dn dp ds da⟩ s =.no 5 by simp[aP,f,g,i]];exact aF func70 [⟨_,c⟩,⟨_,d⟩,⟨_,aN b i⟩,⟨_,ag 5⟩]
def Zl{A A' B:A1}{ok:Nat->Prop}{w:World}{v:Value}(h:∀u,gm (λ_=>none) ok w A u->gm (λ_=>none) ok w A' u)(k:iZ (λ_=>none) ok w (.rz [A,B]) v):iZ (λ_=>none) ok w (.rz [A',B]) v:=by
 obtain⟨d,e,c⟩:=k
 match d,c with
 | [x,y],⟨a,b,_⟩=>exact⟨_,e,h x a,b,trivial⟩
def M3(j:s.all zt=true)(o:s.length<=1000):HI 75 83 n types rows dk dn dp ds da s cZ:=by
 unfold HI;have f:=mf j
 cases c:sFq s [0]with
 | false =>
  rw[show cZ ⟨83,n,types,rows,.nd dk dn dp ds da⟩ s =.no 5 by simp[cZ,c]];exact aF func75 [⟨_,aN f c⟩,⟨_,ag 5⟩]
 | true =>
  have i:=aN f c;have t:=dD j o;obtain⟨g,b,r,rfl,_⟩:=iX c
  cases a:eB (.nd g b)with
  | false =>
   rw[show cZ ⟨83,n,types,rows,.nd dk dn dp ds da⟩ (.nd g b::r) =.no 5 by simp[cZ,bB,a]];exact aF func75 [⟨_,i⟩,⟨_,pG f.1 oR a⟩,⟨_,ag 5⟩]
  | true =>
   rw[show cZ ⟨83,n,types,rows,.nd dk dn dp ds da⟩ (.nd g b::r) =.ok true [] by simp[cZ,sFq,bB,a]];have h:Hd ⟨75,[uq 83 n types rows dk dn dp ds da,dZ (.nd g b::r)],.rz [.agg [.d (.s 0 []),.d (.v (.bool true))],iA 0]⟩:=aF func75 [⟨_,i⟩,⟨_,pG f.1 oR a⟩];exact h.conv (λ_ _ _ h=>h) (λq w v k=>Zl (A:=.agg [.d (.s 0 []),.d (.v (.bool true))]) (A':=.agg [.d (.s 2 (tysD [])),.d (.v (.bool true))]) (λu ⟨p,e,m⟩=>by
    match p,m with
    | [x,y],⟨a,l,_⟩=>exact⟨_,e,gG a,l,trivial⟩) k)
def Td{T:Ty}{t:Tr}(r:okT T)(s:okN t)(hz:t.size<=4611686018427387903):Hd ⟨113,[tyA T,ndA t],.rz [.agg [.d .t,.d .t,.d .t,.d .t,.d .t,.d .t,.d .t],iA (if (jf T t).isSome=true then 0 else 1)]⟩:=by
 have j:∀{ok:Nat->Prop} {w:World} {k l m n o p q:X} {v:Value},gm (λ_=>none) ok w (.agg [k,l,m,n,o,p,q]) v->[k,l,m,n,o,p,q].all X.plain=true->gm (λ_=>none) ok w anyA v:=λ⟨f,e,h⟩ c=>by
  simp only[xf,jh3,qu,Bool.and_true]at c
  match f,h with
  | [E,F,G,H,I,J,K],⟨u,y,z,A,B,C,D,_⟩=>exact⟨_,e,.t _ (jE u c.1),.t _ (jE y c.2.1),.t _ (jE z c.2.2.1),.t _ (jE A c.2.2.2.1),.t _ (jE B c.2.2.2.2.1),.t _ (jE C c.2.2.2.2.2.1),.t _ (jE D c.2.2.2.2.2.2),trivial⟩
 refine (WI r s hz).conv (λ_ _ _ h=>h) (λok w v h=>?_)
 cases c:jf T t with
 | none =>
  rw[c]at h;obtain⟨f,e,h⟩:=h
  match f,h with
  | [a,b],⟨g,i,_⟩=>exact⟨_,e,j g rfl,i,trivial⟩
 | some x =>
  rw[c]at h;obtain⟨f,e,h⟩:=h
  match f,h with
  | [a,b],⟨g,i,_⟩=>exact⟨_,e,j g rfl,i,trivial⟩
def MW(j:s.all zt=true)(o:s.length<=1000)(h:types.all zt=true)(k:types.length=1)(i:okN (.nd dk dn dp ds da))(l:(Tr.nd dk dn dp ds da).size<=4611686018427387903):HI 75 45 n types rows dk dn dp ds da s cZ:=by
 unfold HI;have m:=mf j;have f:=mf h;have p:=dD h od;obtain⟨a,b,rfl⟩:=GR k
 cases d:eB (.nd a b)with
 | false =>
  rw[show cZ ⟨45,n,[.nd a b],rows,.nd dk dn dp ds da⟩ s =.no 5 by simp[cZ,bB,d]];exact aF func75 [⟨_,pG f.1 oR d⟩,⟨_,ag 5⟩]
 | true =>
  have e:=Td f.1 i l;have g:=pG f.1 oR d
  cases c:(jf (.nd a b) (.nd dk dn dp ds da)).isSome with
  | false =>
   rw[c]at e;rw[show cZ ⟨45,n,[.nd a b],rows,.nd dk dn dp ds da⟩ s =.no 5 by simp only[Option.isSome_eq_false_iff,qh4]at c;simp[cZ,bB,c]];exact aF func75 [⟨_,g⟩,⟨_,e⟩,⟨_,ag 5⟩]
  | true =>
   rw[c]at e;rw[show cZ ⟨45,n,[.nd a b],rows,.nd dk dn dp ds da⟩ s=fQ s [.nd a b] by simp[cZ,bB,d,c]];exact aF func75 [⟨_,g⟩,⟨_,e⟩,⟨_,vS (s:=s) (top:=[.nd a b]) m f oB⟩]
end
def KW(a:Int)(b:List Ty)(c:Int)(ra:List Ty):Hd ⟨149,[tyA (.nd a b),tyA (.nd c ra)],.of (tyA (Jt (.nd a b) (.nd c ra)))⟩ :=
 aF func149 [⟨_,pz 11 [.nd a b,.nd c ra]⟩,⟨_,pz 9 [.nd 11 [.nd a b,.nd c ra]]⟩]
def H_w3:Hd ⟨150,[iA 3],aQ true⟩:=aF func150 []
def H_w4:Hd ⟨150,[iA 4],aQ true⟩:=aF func150 []
def H_w5:Hd ⟨150,[iA 5],aQ false⟩:=aF func150 []
def Ya{a:Int}(b:a≠3)(c:a≠4):Hd ⟨150,[iA a],aQ false⟩ :=
 runT func150 [(4,fA),(7,fA)] [] (ob:=[nq a 3,nq a 4]) (by simp[oL b,oL c])
def recA:Option Ty->AV
 | some T=>.rz [tyA T,bA true]
 | none=>.rz [.agg [.d (.v (.i 0)),.d (.s 0 [])],bA false]
def Xy (p a b:Int):HL:=[⟨_,dA 4⟩,⟨_,dA 5⟩] ++
 (if a=5/\b=5 then (if p=69 then []else if p=70 then [⟨_,pz 9 [.nd 5 []]⟩]else if p=72 then [⟨_,KW 4 [] 5 []⟩]else [⟨_,H_w5⟩])
 else if p=71/\(a=5/\b=4\/a=4/\b=5)then []
 else if p=72/\a=5/\b=4 then [⟨_,KW 5 [] 5 []⟩]
 else if a=5 then [⟨_,H_w5⟩]
 else (if a=3 then [⟨_,H_w3⟩]else [⟨_,H_w4⟩])++(if b=5 then [⟨_,H_w5⟩]else (if b=3 then [⟨_,H_w3⟩]else [⟨_,H_w4⟩]) ++
  (if p=72 then (if a=4/\b=4 then [⟨_,KW 4 [] 4 []⟩]else [⟨_,dA 3⟩,⟨_,KW 3 [] 4 []⟩])else if p≠70/\a=4/\b=4 then []else [⟨_,dA 3⟩])))
def U0{p a b:Int}(h:asked (evF prog f111 (f111.body.getD .skip) [] [] ((Xy p a b).map (·.1)) [iA p,iA a,iA b])=some (recA (IP p a b),[],((Xy p a b).map (·.1)).map (λs=>s.args=s.args),[])):Hd ⟨111,[iA p,iA a,iA b],recA (IP p a b)⟩:=aF func111 (Xy p a b) h
def IZ{p a b:Int}(h:p=69\/p=70\/p=71\/p=72):Hd ⟨111,[iA p,iA a,iA b],recA (IP p a b)⟩:=by
 by_cases g:a=3\/a=4\/a=5
 .by_cases i:b=3\/b=4\/b=5
  .rcases h with rfl|rfl|rfl|rfl<;>rcases g with rfl|rfl|rfl<;>rcases i with rfl|rfl|rfl<;>exact U0 oA
  .have n:b≠3:=λe=>i (.inl e);have k:b≠4:=λe=>i (.inr (.inl e));have o:b≠5:=λe=>i (.inr (.inr e));rw[show IP p a b=none by unfold IP zC;simp[n,k,o]];have c:=oL k;have d:=oL o;have f:=Ya n k;rcases g with rfl|rfl|rfl
   .rcases h with rfl|rfl|rfl|rfl<;>exact aF func111 [⟨_,dA 4⟩,⟨_,dA 5⟩,⟨_,H_w3⟩,⟨_,f⟩]
   .rcases h with rfl|rfl|rfl|rfl
    rotate_left 2
    .exact runT func111 [(18,fA),(57,fA)] [⟨_,dA 4⟩,⟨_,dA 5⟩,⟨_,H_w4⟩,⟨_,f⟩] (ob:=[nq b 4,nq b 5]) (by simp[c,d])
    all_goals exact runT func111 [(18,fA)] [⟨_,dA 4⟩,⟨_,dA 5⟩,⟨_,H_w4⟩,⟨_,f⟩] (ob:=[nq b 4]) (by simp[c])
   .rcases h with rfl|rfl|rfl|rfl
    rotate_left 2
    .exact runT func111 [(24,fA),(50,fA)] [⟨_,dA 4⟩,⟨_,dA 5⟩,⟨_,H_w5⟩] (ob:=[nq b 5,nq b 4]) (by simp[c,d])
    .exact runT func111 [(24,fA),(80,fA)] [⟨_,dA 4⟩,⟨_,dA 5⟩,⟨_,H_w5⟩] (ob:=[nq b 5,nq b 4]) (by simp[c,d])
    all_goals exact runT func111 [(24,fA)] [⟨_,dA 4⟩,⟨_,dA 5⟩,⟨_,H_w5⟩] (ob:=[nq b 5]) (by simp[d])
 .have l:a≠3:=λe=>g (.inl e);have j:a≠4:=λe=>g (.inr (.inl e));have m:a≠5:=λe=>g (.inr (.inr e));rw[show IP p a b=none by unfold IP zC;simp[l,j,m]];have c:=oL j;have d:=oL m;have f:=Ya l j;rcases h with rfl|rfl|rfl|rfl
  rotate_left 2
  .exact runT func111 [(15,fA),(21,fA),(47,fA),(54,fA)] [⟨_,dA 4⟩,⟨_,dA 5⟩,⟨_,f⟩] (ob:=[nq a 4,nq a 5,nq a 5,nq a 4]) (by simp[c,d])
  .exact runT func111 [(15,fA),(21,fA),(76,fA)] [⟨_,dA 4⟩,⟨_,dA 5⟩,⟨_,f⟩] (ob:=[nq a 4,nq a 5,nq a 5]) (by simp[c,d])
  all_goals exact runT func111 [(15,fA),(21,fA)] [⟨_,dA 4⟩,⟨_,dA 5⟩,⟨_,f⟩] (ob:=[nq a 4,nq a 5]) (by simp[c,d])
def xZ{p a b:Int}{T:Ty}(h:IP p a b=some T):okT T/\∃t l,T =.nd t l:=by
 unfold IP at h
 repeat' split at h
 all_goals first
  | (cases h;done)
  | (simp only[qk]at h;subst h;exact⟨by simp[okT,okTs,Jt,bD],_,_,rfl⟩)
section
variable {n:Int}{types:List Ty}{rows:List (List Tr)}{dk dn dp:Int}{ds:ByteArray}{da:List Tr}{s:List Ty}
def xe{p:Int}(c:p=69\/p=70\/p=71\/p=72)(x:s.all zt=true)(y:s.length<=1000):Hd ⟨73,[uq p n types rows dk dn dp ds da,dZ s],iH (bJ ⟨p,n,types,rows,.nd dk dn dp ds da⟩ s)⟩:=by
 have o:=mf x;have k:Hd ⟨110,[iA p],aQ true⟩:=by
  rcases c with rfl|rfl|rfl|rfl
  .exact H_two69
  .exact H_two70
  .exact H_two71
  .exact H_two72
 cases d:sFq s [0,0]with
 | false =>
  have e:bJ ⟨p,n,types,rows,.nd dk dn dp ds da⟩ s =.no 5:=by rcases c with rfl|rfl|rfl|rfl<;>simp[bJ,d]
  rw[e];have f:=aN o d;rcases c with rfl|rfl|rfl|rfl<;>exact aF func73 [⟨_,k⟩,⟨_,f⟩,⟨_,ag 5⟩]
 | true =>
  have f:=aN o d;obtain⟨h,q,z,rfl,v⟩:=iX d;obtain⟨i,u,r,rfl,_⟩:=iX v;have g:=IZ (a:=h) (b:=i) c
  cases e:IP p h i with
  | none =>
   rw[e]at g;have j:bJ ⟨p,n,types,rows,.nd dk dn dp ds da⟩ (.nd h q :: .nd i u::r) =.no 5:=by rcases c with rfl|rfl|rfl|rfl<;>simp[bJ,sFq,bB,Ty.t,e]
   rw[j];rcases c with rfl|rfl|rfl|rfl<;>exact aF func73 [⟨_,k⟩,⟨_,f⟩,⟨_,g⟩,⟨_,ag 5⟩]
  | some T =>
   rw[e]at g;obtain⟨w,t,l,rfl⟩:=xZ e;have j:bJ ⟨p,n,types,rows,.nd dk dn dp ds da⟩ (.nd h q :: .nd i u::r)=fQ r [.nd t l]:=by rcases c with rfl|rfl|rfl|rfl<;>simp[bJ,sFq,bB,Ty.t,e]
   rw[j];have m:=vS (s:=r) (top:=[.nd t l]) o.2.2 ⟨w,trivial⟩ (by simp only[jn,xT]at *;omega);rcases c with rfl|rfl|rfl|rfl<;>exact aF func73 [⟨_,k⟩,⟨_,f⟩,⟨_,g⟩,⟨_,m⟩]
end
section
variable {n:Int}{types:List Ty}{rows:List (List Tr)}{dk dn dp:Int}{ds:ByteArray}{da:List Tr}{s:List Ty}
def MM(z:0<=n)(r:s.all zt=true)(x:s.length<=1000):HI 68 41 n types rows dk dn dp ds da s dG:=by
 unfold HI;have v:=mf r;have D:=dD r x
 by_cases g:1<=n
 .by_cases i:n<=((tysD s).length:Int)
  .have o:=i;rw[eY]at o;obtain⟨m,rfl⟩:∃m:Nat,n=Int.ofNat (m+1):=⟨n.toNat - 1,oB⟩;have w:m<s.length:=by simp at o;omega
   obtain⟨t,a,q⟩:∃t a,s[m]?=some (.nd t a):=by rw[qt w];cases s[m];exact⟨_,_,rfl⟩
   have d:=qa1 q;have l:=okTs_at.1 v _ d;have B:=jS d;have A:=EK q;have f:bB s m =.nd t a:=by unfold bB;rw[q];rfl
   have u:=is_le g;have y:=is_le i;have C:=yY (zF (a:=Int.ofNat (m+1) - 1) (b:=Int.ofNat m) ot ot oB);have k:(Int.ofNat (m+1)).toNat - 1=m:=ot
   cases j:A7 (.nd t a)with
   | true =>
    have e:dG ⟨41,Int.ofNat (m+1),types,rows,.nd dk dn dp ds da⟩ s=fQ s [.nd t a]:=by unfold dG;rw[if_neg ot,if_pos ⟨rfl,g,o,by rw[k,f];exact j⟩,k,f]
    rw[e];exact runT func68 [(27,bA true),(34,bA true),(40,jA m),(41,.one (.e (tyD (.nd t a)) 0)),(49,jA m),(50,.one (.e (tyD (.nd t a)) 0))] [⟨_,Ak l od j⟩,⟨_,vS (s:=s) (top:=[.nd t a]) v ⟨l,trivial⟩ oB⟩]
     (ob:=[mD (aQ (decide (1<=Int.ofNat (m+1)))) (bA true),mD (aQ (decide (Int.ofNat (m+1)<=((tysD s).length:Int)))) (bA true),mD (lW (IntKind.i64.wrap (Int.ofNat (m+1) - 1))) (jA m),OQ s m t a,mD (lW (IntKind.i64.wrap (Int.ofNat (m+1) - 1))) (jA m),OQ s m t a]) (by
     intro p c;simp only[xb,qf1,or_false]at c;rcases c with rfl|rfl|rfl|rfl|rfl|rfl<;>assumption)
   | false =>
    have e:dG ⟨41,Int.ofNat (m+1),types,rows,.nd dk dn dp ds da⟩ s =.no 5:=by unfold dG;rw[if_neg ot,if_neg (by rw[k,f,j];simp),if_neg ot,if_neg ot,if_neg ot]
    rw[e];exact runT func68 [(27,bA true),(34,bA true),(40,jA m),(41,.one (.e (tyD (.nd t a)) 0))] [⟨_,Ak l od j⟩,⟨_,ag 5⟩]
     (ob:=[mD (aQ (decide (1<=Int.ofNat (m+1)))) (bA true),mD (aQ (decide (Int.ofNat (m+1)<=((tysD s).length:Int)))) (bA true),mD (lW (IntKind.i64.wrap (Int.ofNat (m+1) - 1))) (jA m),OQ s m t a]) (by
     intro p c;simp only[xb,qf1,or_false]at c;rcases c with rfl|rfl|rfl|rfl<;>assumption)
  .have e:dG ⟨41,n,types,rows,.nd dk dn dp ds da⟩ s =.no 5:=by
    rw[eY]at i;unfold dG;rw[if_neg ot,if_neg (by rintro⟨_,_,h,_⟩;exact i h),if_neg ot,if_neg ot,if_neg ot]
   rw[e];have u:=is_le g;have y:=QA i;exact runT func68 [(27,bA true),(34,bA false)] [⟨_,ag 5⟩] (ob:=[mD (aQ (decide (1<=n))) (bA true),mD (aQ (decide (n<=((tysD s).length:Int)))) (bA false)]) (by intro p c;simp only[xb,qf1,or_false]at c;rcases c with rfl|rfl<;>assumption)
 .have e:dG ⟨41,n,types,rows,.nd dk dn dp ds da⟩ s =.no 5:=by
   unfold dG;rw[if_neg ot,if_neg (by rintro⟨_,h,_⟩;exact g h),if_neg ot,if_neg ot,if_neg ot]
  rw[e];have u:=QA g;exact runT func68 [(27,bA false)] [⟨_,ag 5⟩] (ob:=[mD (aQ (decide (1<=n))) (bA false)]) (by intro p c;simp only[xb,qf1,or_false]at c;subst c;assumption)
def uD{a b:List Ty}(d:okTs a)(e:okTs b):okTs (a++b):=okTs_at.2 λT c=>by
 rcases qa0.1 c with h|h
 .exact okTs_at.1 d T h
 .exact okTs_at.1 e T h
def jD{a:List Ty}(c:okTs a)(k:Nat):okTs (a.drop k):=okTs_at.2 λT b=>okTs_at.1 c T (ja3 b)
def nW{a:List Ty}(c:okTs a)(k:Nat):okTs (a.take k):=okTs_at.2 λT b=>okTs_at.1 c T (qf2 b)
def MO(u:0<=n)(o:s.all zt=true)(w:s.length<=1000):HI 68 43 n types rows dk dn dp ds da s dG:=by
 unfold HI;have d:=mf o
 by_cases b:n<((tysD s).length:Int)
 .have f:=b;rw[eY]at f;obtain⟨m,rfl⟩:∃m:Nat,n=Int.ofNat m:=⟨n.toNat,oB⟩;have l:m<s.length:=by simpa using f
  obtain⟨t,a,g⟩:∃t a,s[m]?=some (.nd t a):=by rw[qt l];cases s[m];exact⟨_,_,rfl⟩
  have k:=okTs_at.1 d _ (qa1 g);have v:=EK g;have i:bB s m =.nd t a:=by unfold bB;rw[g];rfl
  have x:=is_lt b;have z:mD (lW (IntKind.i64.wrap (Int.ofNat m+1))) (jA (m+1)):=yY (zF ot oB oB);have q:=Qf (s:=s) (m:=m) od;have r:=Qg (s:=s) (m:=m+1) od;have j:(Int.ofNat m).toNat=m:=ot
  have e:dG ⟨43,Int.ofNat m,types,rows,.nd dk dn dp ds da⟩ s=fQ (s.take m++s.drop (m+1)) [.nd t a]:=by unfold dG;rw[if_neg ot,if_neg ot,if_neg ot,if_pos ⟨rfl,f⟩,j,i]
  rw[e];exact runT func68 [(86,bA true),(91,dZ (s.take m)),(95,jA (m+1)),(96,dZ (s.drop (m+1))),(102,.one (.e (tyD (.nd t a)) 0))] [⟨_,lg (m:=2) (n:=2) (nW d m) (jD d (m+1)) (.inl rfl) (.inl rfl) oB⟩,⟨_,vS (s:=s.take m++s.drop (m+1)) (top:=[.nd t a]) (uD (nW d m) (jD d (m+1))) ⟨k,trivial⟩ oB⟩]
   (ob:=[mD (aQ (decide (Int.ofNat m<((tysD s).length:Int)))) (bA true),qA 2 (tysD s) (some 0) (some (some m))=some (.of (dZ (s.take m))),mD (lW (IntKind.i64.wrap (Int.ofNat m+1))) (jA (m+1)),qA 2 (tysD s) (some (m+1)) (some none)=some (.of (dZ (s.drop (m+1)))),OQ s m t a]) (by
   intro p c;simp only[xb,qf1,or_false]at c;rcases c with rfl|rfl|rfl|rfl|rfl<;>assumption)
 .have e:dG ⟨43,n,types,rows,.nd dk dn dp ds da⟩ s =.no 5:=by
   rw[eY]at b;unfold dG;rw[if_neg ot,if_neg ot,if_neg ot,if_neg (by rintro⟨_,h⟩;exact b h),if_neg ot]
  rw[e];have y:=wH b;exact runT func68 [(86,bA false)] [⟨_,ag 5⟩] (ob:=[mD (aQ (decide (n<((tysD s).length:Int)))) (bA false)]) (by intro p c;simp only[xb,qf1,or_false]at c;subst c;assumption)
def MP(o:0<=n)(g:s.all zt=true)(r:s.length<=1000):HI 68 44 n types rows dk dn dp ds da s dG:=by
 unfold HI;have c:=mf g
 by_cases a:n<((tysD s).length:Int)
 .have d:=a;rw[eY]at d;obtain⟨m,rfl⟩:∃m:Nat,n=Int.ofNat m:=⟨n.toNat,oB⟩;have q:m<s.length:=by simpa using d
  have t:=is_lt a;have v:mD (lW (IntKind.i64.wrap (Int.ofNat m+1))) (jA (m+1)):=yY (zF ot oB oB);have i:=Qf (s:=s) (m:=1) od;have j:=Qg (s:=s) (m:=m+1) od;have k:=TU (s:=s) (l:=1) (m:=m+1) od od;have f:(Int.ofNat m).toNat=m:=ot
  have e:dG ⟨44,Int.ofNat m,types,rows,.nd dk dn dp ds da⟩ s=fQ (s.take 1++s.drop (m+1)) ((s.take (m+1)).drop 1):=by unfold dG;rw[if_neg ot,if_neg ot,if_neg ot,if_neg ot,if_pos ⟨rfl,d⟩,f,List.drop_take];simp
  rw[e];exact runT func68 [(117,bA true),(120,dZ (s.take 1)),(124,jA (m+1)),(125,dZ (s.drop (m+1))),(131,jA (m+1)),(132,dZ ((s.take (m+1)).drop 1))] [⟨_,lg (m:=2) (n:=2) (nW c 1) (jD c (m+1)) (.inl rfl) (.inl rfl) oB⟩,⟨_,vS (s:=s.take 1++s.drop (m+1)) (top:=(s.take (m+1)).drop 1) (uD (nW c 1) (jD c (m+1))) (jD (nW c (m+1)) 1) oB⟩]
   (ob:=[mD (aQ (decide (Int.ofNat m<((tysD s).length:Int)))) (bA true),qA 2 (tysD s) (some 0) (some (some 1))=some (.of (dZ (s.take 1))),mD (lW (IntKind.i64.wrap (Int.ofNat m+1))) (jA (m+1)),qA 2 (tysD s) (some (m+1)) (some none)=some (.of (dZ (s.drop (m+1)))),mD (lW (IntKind.i64.wrap (Int.ofNat m+1))) (jA (m+1)),qA 2 (tysD s) (some 1) (some (some (m+1)))=some (.of (dZ ((s.take (m+1)).drop 1)))]) (by
   intro p b;simp only[xb,qf1,or_false]at b;rcases b with rfl|rfl|rfl|rfl|rfl|rfl<;>assumption)
 .have e:dG ⟨44,n,types,rows,.nd dk dn dp ds da⟩ s =.no 5:=by
   rw[eY]at a;unfold dG;rw[if_neg ot,if_neg ot,if_neg ot,if_neg ot,if_neg (by rintro⟨_,h⟩;exact a h)]
  rw[e];have u:=wH a;exact runT func68 [(117,bA false)] [⟨_,ag 5⟩] (ob:=[mD (aQ (decide (n<((tysD s).length:Int)))) (bA false)]) (by intro p b;simp only[xb,qf1,or_false]at b;subst b;assumption)
def FZ{p:Int}(h:p<40\/95<p):Hd ⟨77,[uq p n types rows dk dn dp ds da,dZ s],iH (dO ⟨p,n,types,rows,.nd dk dn dp ds da⟩ s)⟩:=by
 have e:dO ⟨p,n,types,rows,.nd dk dn dp ds da⟩ s =.no 5:=by unfold dO;rw[if_neg oB,if_neg oB,if_neg oB]
 rw[e];have b:=oL (a:=p) (k:=88) od;have c:=oL (a:=p) (k:=89) od;have d:=oL (a:=p) (k:=90) od;have f:=oL (a:=p) (k:=91) od;have g:=oL (a:=p) (k:=92) od;exact runT func77 [(9,fA),(39,fA),(43,fA),(54,fA),(58,fA)] [⟨_,ag 5⟩] (ob:=[nq p 88,nq p 89,nq p 90,nq p 91,nq p 92]) (by simp[b,c,d,f,g])
end
