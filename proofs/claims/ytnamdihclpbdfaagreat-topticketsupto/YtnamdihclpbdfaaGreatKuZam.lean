import Derived.Test.YtnamdihclpbdfaaGreatKuZal
namespace Go.Proofs.YtnamdihclpbdfaaGreat
set_option linter.all false
open Go.Proofs.Tryz
open Pe
set_option maxRecDepth 100000
set_option maxHeartbeats 1000000
section
variable {n:Int}{types:aw}{rows:List aE}{dk dn dp:Int}{ds:bp}{da:aE}{s:aw}
def MC(g:s.all ai)(hn:s.length<=1000)(p:types.all ai):HI 118 46 n types rows dk dn dp ds da s bO:=by
 unfold HI;have j:=ay g
 cases i:standF s [0,0]with
 | false =>
  have e:bO ⟨46,n,types,rows,.nd dk dn dp ds da⟩ s =.no 5:=by simp[bO,i]
  rw[e];exact aF func118 [⟨_,aN j i⟩,⟨_,ag 5⟩]
 | true =>
  obtain⟨d,a,q,rfl,c⟩:=iX i;obtain⟨f,b,h,rfl,l⟩:=iX c;have r:=dD g hn;simp only[xj,qt]at g;have⟨m,g1,o⟩:=g;have e:bO ⟨46,n,types,rows,.nd dk dn dp ds da⟩ ((.nd d a)::(.nd f b)::h)=bB h [.nd 11 [(.nd d a),(.nd f b)]]:=vq
  rw[e];exact aF func118 [⟨_,aS (s:=((.nd d a)::(.nd f b)::h)) (k:=0) (ks:=[0]) j⟩,⟨_,nR 11 [(.nd d a),(.nd f b)]⟩,⟨_,dQ (s:=h) (top:=[.nd 11 [(.nd d a),(.nd f b)]])⟩]
def ME(c:s.all ai)(hn:s.length<=1000)(o:types.all ai):HI 118 47 n types rows dk dn dp ds da s bO:=by
 unfold HI;have h:=ay c
 cases g:standF s [11]with
 | false =>
  have e:bO ⟨47,n,types,rows,.nd dk dn dp ds da⟩ s =.no 5:=by simp[bO,g]
  rw[e];exact aF func118 [⟨_,aN h g⟩,⟨_,ag 5⟩]
 | true =>
  obtain⟨l,d,rfl,i⟩:=fT ot g;have p:=dD c hn;simp only[xj,qt]at c;have⟨j,m⟩:=c;obtain⟨u0,a,f,b,rfl⟩:=vY j ot;have e:bO ⟨47,n,types,rows,.nd dk dn dp ds da⟩ ((.nd 11 [.nd u0 a,.nd f b])::d)=bB d [(.nd u0 a),(.nd f b)]:=by simp[bO,standF,aJ,Ty.args,Ty.t]
  rw[e];exact aF func118 [⟨_,aS (s:=((.nd 11 [.nd u0 a,.nd f b])::d)) (k:=11) (ks:=[]) h⟩,⟨_,dQ (s:=d) (top:=[(.nd u0 a),(.nd f b)])⟩]
def MF(b:s.all ai)(hn:s.length<=1000)(o:types.all ai):HI 118 48 n types rows dk dn dp ds da s bO:=by
 unfold HI;have f:=ay b
 cases d:standF s [11]with
 | false =>
  have e:bO ⟨48,n,types,rows,.nd dk dn dp ds da⟩ s =.no 5:=by simp[bO,d]
  rw[e];exact aF func118 [⟨_,aN f d⟩,⟨_,ag 5⟩]
 | true =>
  obtain⟨l,c,rfl,h⟩:=fT ot d;have p:=dD b hn;simp only[xj,qt]at b;have⟨j,m⟩:=b;obtain⟨u0,a,i,g,rfl⟩:=vY j ot;have e:bO ⟨48,n,types,rows,.nd dk dn dp ds da⟩ ((.nd 11 [.nd u0 a,.nd i g])::c)=bB c [(.nd u0 a)]:=by simp[bO,standF,aJ,Ty.args,Ty.t]
  rw[e];exact aF func118 [⟨_,aS (s:=((.nd 11 [.nd u0 a,.nd i g])::c)) (k:=11) (ks:=[]) f⟩,⟨_,dQ (s:=c) (top:=[(.nd u0 a)])⟩]
def MG(b:s.all ai)(hn:s.length<=1000)(o:types.all ai):HI 118 49 n types rows dk dn dp ds da s bO:=by
 unfold HI;have g:=ay b
 cases f:standF s [11]with
 | false =>
  have e:bO ⟨49,n,types,rows,.nd dk dn dp ds da⟩ s =.no 5:=by simp[bO,f]
  rw[e];exact aF func118 [⟨_,aN g f⟩,⟨_,ag 5⟩]
 | true =>
  obtain⟨l,c,rfl,i⟩:=fT ot f;have p:=dD b hn;simp only[xj,qt]at b;have⟨j,m⟩:=b;obtain⟨u0,h,d,a,rfl⟩:=vY j ot;have e:bO ⟨49,n,types,rows,.nd dk dn dp ds da⟩ ((.nd 11 [.nd u0 h,.nd d a])::c)=bB c [(.nd d a)]:=by simp[bO,standF,aJ,Ty.args,Ty.t]
  rw[e];exact aF func118 [⟨_,aS (s:=((.nd 11 [.nd u0 h,.nd d a])::c)) (k:=11) (ks:=[]) g⟩,⟨_,dQ (s:=c) (top:=[(.nd d a)])⟩]
def MH(f:s.all ai)(hn:s.length<=1000)(i:types.all ai)(m:types.length=1):HI 118 50 n types rows dk dn dp ds da s bO:=by
 unfold HI;obtain⟨c,d,rfl⟩:=GR m;have q:=ay i;have u:=dD i oe;clear i;have j:=ay f
 cases h:standF s [0]with
 | false =>
  have e:bO ⟨50,n,[.nd c d],rows,.nd dk dn dp ds da⟩ s =.no 5:=by simp[bO,h]
  rw[e];exact aF func118 [⟨_,aN j h⟩,⟨_,ag 5⟩]
 | true =>
  obtain⟨b,a,g,rfl,l⟩:=iX h;have r:=dD f hn;simp only[xj,qt]at f;have⟨o,p⟩:=f;have e:bO ⟨50,n,[.nd c d],rows,.nd dk dn dp ds da⟩ ((.nd b a)::g)=bB g [.nd 12 [(.nd b a),(.nd c d)]]:=vq
  rw[e];exact aF func118 [⟨_,aS (s:=((.nd b a)::g)) (k:=0) (ks:=[]) j⟩,⟨_,nR 12 [(.nd b a),(.nd c d)]⟩,⟨_,dQ (s:=g) (top:=[.nd 12 [(.nd b a),(.nd c d)]])⟩]
def MI(f:s.all ai)(hn:s.length<=1000)(i:types.all ai)(m:types.length=1):HI 118 51 n types rows dk dn dp ds da s bO:=by
 unfold HI;obtain⟨c,d,rfl⟩:=GR m;have q:=ay i;have u:=dD i oe;clear i;have j:=ay f
 cases h:standF s [0]with
 | false =>
  have e:bO ⟨51,n,[.nd c d],rows,.nd dk dn dp ds da⟩ s =.no 5:=by simp[bO,h]
  rw[e];exact aF func118 [⟨_,aN j h⟩,⟨_,ag 5⟩]
 | true =>
  obtain⟨b,a,g,rfl,l⟩:=iX h;have r:=dD f hn;simp only[xj,qt]at f;have⟨o,p⟩:=f;have e:bO ⟨51,n,[.nd c d],rows,.nd dk dn dp ds da⟩ ((.nd b a)::g)=bB g [.nd 12 [(.nd c d),(.nd b a)]]:=vq
  rw[e];exact aF func118 [⟨_,aS (s:=((.nd b a)::g)) (k:=0) (ks:=[]) j⟩,⟨_,nR 12 [(.nd c d),(.nd b a)]⟩,⟨_,dQ (s:=g) (top:=[.nd 12 [(.nd c d),(.nd b a)]])⟩]
def MJ(c:s.all ai)(hn:s.length<=1000)(l:types.all ai):HI 118 53 n types rows dk dn dp ds da s bO:=by
 unfold HI;have g:=ay c
 cases f:standF s [0]with
 | false =>
  have e:bO ⟨53,n,types,rows,.nd dk dn dp ds da⟩ s =.no 5:=by simp[bO,f]
  rw[e];exact aF func118 [⟨_,aN g f⟩,⟨_,ag 5⟩]
 | true =>
  obtain⟨b,a,d,rfl,h⟩:=iX f;have m:=dD c hn;simp only[xj,qt]at c;have⟨i,j⟩:=c;have e:bO ⟨53,n,types,rows,.nd dk dn dp ds da⟩ ((.nd b a)::d)=bB d [.nd 9 [(.nd b a)]]:=vq
  rw[e];exact aF func118 [⟨_,aS (s:=((.nd b a)::d)) (k:=0) (ks:=[]) g⟩,⟨_,nR 9 [(.nd b a)]⟩,⟨_,dQ (s:=d) (top:=[.nd 9 [(.nd b a)]])⟩]
def MK(d:s.all ai)(hn:s.length<=1000)(c:types.all ai)(f:types.length=1):HI 118 54 n types rows dk dn dp ds da s bO:=by
 unfold HI;obtain⟨a,b,rfl⟩:=GR f;have h:=ay c;have i:=dD c oe;clear c;have g:=ay d;have e:bO ⟨54,n,[.nd a b],rows,.nd dk dn dp ds da⟩ s=bB s [.nd 9 [(.nd a b)]]:=by simp[bO,aJ]
 rw[e];exact aF func118 [⟨_,nR 9 [(.nd a b)]⟩,⟨_,dQ (s:=s) (top:=[.nd 9 [(.nd a b)]])⟩]
def FP(d:s.all ai)(hn:s.length<=1000)(c:types.all ai)(f:types.length=1):HI 119 56 n types rows dk dn dp ds da s aP:=by
 unfold HI;obtain⟨a,b,rfl⟩:=GR f;have h:=ay c;have i:=dD c oe;clear c;have g:=ay d;have e:aP ⟨56,n,[.nd a b],rows,.nd dk dn dp ds da⟩ s=bB s [.nd 10 [(.nd a b)]]:=by simp[aP,aJ]
 rw[e];exact aF func119 [⟨_,nR 10 [(.nd a b)]⟩,⟨_,dQ (s:=s) (top:=[.nd 10 [(.nd a b)]])⟩]
def FQ(i:s.all ai)(hn:s.length<=1000)(q:types.all ai):HI 119 57 n types rows dk dn dp ds da s aP:=by
 unfold HI;have f:=ay i
 cases j:standF s [0,10]with
 | false =>
  have e:aP ⟨57,n,types,rows,.nd dk dn dp ds da⟩ s =.no 5:=by simp[aP,j,aJ,Ty.args]
  rw[e];exact aF func119 [⟨_,aN f j⟩,⟨_,ag 5⟩]
 | true =>
  obtain⟨g,c,r,rfl,d⟩:=iX j;obtain⟨m,b,rfl,l⟩:=fT ot d;have u:=dD i hn;simp only[xj,qt]at i;have⟨o,g1,p⟩:=i;obtain⟨u1,a,rfl⟩:=Bi g1 ot
  cases h:sameT (.nd g c) (.nd u1 a)with
  | false =>
   have e:aP ⟨57,n,types,rows,.nd dk dn dp ds da⟩ ((.nd g c)::(.nd 10 [.nd u1 a])::b) =.no 5:=by simp[aP,standF,aJ,Ty.args,Ty.t,h]
   rw[e];exact aF func119 [⟨_,aS (s:=((.nd g c)::(.nd 10 [.nd u1 a])::b)) (k:=0) (ks:=[10]) f⟩,⟨_,gu oB oE oB h⟩,⟨_,ag 5⟩]
  | true =>
   have e:aP ⟨57,n,types,rows,.nd dk dn dp ds da⟩ ((.nd g c)::(.nd 10 [.nd u1 a])::b)=bB ((.nd 10 [.nd u1 a])::b) []:=by simp[aP,standF,aJ,Ty.args,Ty.t,h]
   rw[e];exact aF func119 [⟨_,aS (s:=((.nd g c)::(.nd 10 [.nd u1 a])::b)) (k:=0) (ks:=[10]) f⟩,⟨_,gu oB oE oB h⟩,⟨_,AO (s:=((.nd 10 [.nd u1 a])::b)) oB (by simp only[js]at *;omega)⟩]
def FT(h:s.all ai)(hn:s.length<=1000)(g:types.all ai)(i:types.length=2):HI 119 61 n types rows dk dn dp ds da s aP:=by
 unfold HI;obtain⟨a,b,c,d,rfl⟩:=Uk i;have k:=ay g;have l:=dD g oe;clear g;have j:=ay h
 cases f:oF (.nd a b)with
 | false =>
  have e:aP ⟨61,n,[.nd a b,.nd c d],rows,.nd dk dn dp ds da⟩ s =.no 5:=by simp[aP,f,aJ]
  rw[e];exact aF func119 [⟨_,uQ oB oE f⟩,⟨_,ag 5⟩]
 | true =>
  have e:aP ⟨61,n,[.nd a b,.nd c d],rows,.nd dk dn dp ds da⟩ s=bB s [.nd 13 [(.nd a b),(.nd c d)]]:=by simp[aP,f,aJ]
  rw[e];exact aF func119 [⟨_,uQ oB oE f⟩,⟨_,nR 13 [(.nd a b),(.nd c d)]⟩,⟨_,dQ (s:=s) (top:=[.nd 13 [(.nd a b),(.nd c d)]])⟩]
def FU(m:s.all ai)(hn:s.length<=1000)(v:types.all ai):HI 119 62 n types rows dk dn dp ds da s aP:=by
 unfold HI;have g:=ay m
 cases o:standF s [0,13]with
 | false =>
  have e:aP ⟨62,n,types,rows,.nd dk dn dp ds da⟩ s =.no 5:=by simp[aP,o,aJ,Ty.args]
  rw[e];exact aF func119 [⟨_,aN g o⟩,⟨_,ag 5⟩]
 | true =>
  obtain⟨h,d,w,rfl,j⟩:=iX o;obtain⟨q,c,rfl,p⟩:=fT ot j;have x:=dD m hn;simp only[xj,qt]at m;have⟨r,g1,u⟩:=m;obtain⟨u1,f,b,a,rfl⟩:=vY g1 ot
  cases i:sameT (.nd h d) (.nd u1 f)with
  | false =>
   have e:aP ⟨62,n,types,rows,.nd dk dn dp ds da⟩ ((.nd h d)::(.nd 13 [.nd u1 f,.nd b a])::c) =.no 5:=by simp[aP,standF,aJ,Ty.args,Ty.t,i]
   rw[e];exact aF func119 [⟨_,aS (s:=((.nd h d)::(.nd 13 [.nd u1 f,.nd b a])::c)) (k:=0) (ks:=[13]) g⟩,⟨_,gu oB oE oB i⟩,⟨_,ag 5⟩]
  | true =>
   cases l:A7 (.nd b a)with
   | false =>
    have e:aP ⟨62,n,types,rows,.nd dk dn dp ds da⟩ ((.nd h d)::(.nd 13 [.nd u1 f,.nd b a])::c) =.no 5:=by simp[aP,standF,aJ,Ty.args,Ty.t,i,l]
    rw[e];exact aF func119 [⟨_,aS (s:=((.nd h d)::(.nd 13 [.nd u1 f,.nd b a])::c)) (k:=0) (ks:=[13]) g⟩,⟨_,gu oB oE oB i⟩,⟨_,Ak oB oE l⟩,⟨_,ag 5⟩]
   | true =>
    have e:aP ⟨62,n,types,rows,.nd dk dn dp ds da⟩ ((.nd h d)::(.nd 13 [.nd u1 f,.nd b a])::c)=bB c [.nd 9 [(.nd b a)]]:=by simp[aP,standF,aJ,Ty.args,Ty.t,i,l]
    rw[e];exact aF func119 [⟨_,aS (s:=((.nd h d)::(.nd 13 [.nd u1 f,.nd b a])::c)) (k:=0) (ks:=[13]) g⟩,⟨_,gu oB oE oB i⟩,⟨_,Ak oB oE l⟩,⟨_,nR 9 [(.nd b a)]⟩,⟨_,dQ (s:=c) (top:=[.nd 9 [(.nd b a)]])⟩]
def FV(p:s.all ai)(hn:s.length<=1000)(y:types.all ai):HI 119 63 n types rows dk dn dp ds da s aP:=by
 unfold HI;have h:=ay p
 cases q:standF s [0,9,13]with
 | false =>
  have e:aP ⟨63,n,types,rows,.nd dk dn dp ds da⟩ s =.no 5:=by simp[aP,q,aJ,Ty.args]
  rw[e];exact aF func119 [⟨_,aN h q⟩,⟨_,ag 5⟩]
 | true =>
  obtain⟨i,f,z,rfl,l⟩:=iX q;obtain⟨u,A,rfl,m⟩:=fT ot l;obtain⟨v,d,rfl,r⟩:=fT ot m;have B:=dD p hn;simp only[xj,qt]at p;have⟨w,g1,g2,x⟩:=p;obtain⟨u1,g,rfl⟩:=Bi g1 ot;obtain⟨u2,a,c,b,rfl⟩:=vY g2 ot
  cases j:sameT (.nd i f) (.nd u2 a)with
  | false =>
   have e:aP ⟨63,n,types,rows,.nd dk dn dp ds da⟩ ((.nd i f)::(.nd 9 [.nd u1 g])::(.nd 13 [.nd u2 a,.nd c b])::d) =.no 5:=by simp[aP,standF,aJ,Ty.args,Ty.t,j]
   rw[e];exact aF func119 [⟨_,aS (s:=((.nd i f)::(.nd 9 [.nd u1 g])::(.nd 13 [.nd u2 a,.nd c b])::d)) (k:=0) (ks:=[9,13]) h⟩,⟨_,gu oB oE oB j⟩,⟨_,ag 5⟩]
  | true =>
   cases o:sameT (.nd u1 g) (.nd c b)with
   | false =>
    have e:aP ⟨63,n,types,rows,.nd dk dn dp ds da⟩ ((.nd i f)::(.nd 9 [.nd u1 g])::(.nd 13 [.nd u2 a,.nd c b])::d) =.no 5:=by simp[aP,standF,aJ,Ty.args,Ty.t,j,o]
    rw[e];exact aF func119 [⟨_,aS (s:=((.nd i f)::(.nd 9 [.nd u1 g])::(.nd 13 [.nd u2 a,.nd c b])::d)) (k:=0) (ks:=[9,13]) h⟩,⟨_,gu oB oE oB j⟩,⟨_,gu oB oE oB o⟩,⟨_,ag 5⟩]
   | true =>
    have e:aP ⟨63,n,types,rows,.nd dk dn dp ds da⟩ ((.nd i f)::(.nd 9 [.nd u1 g])::(.nd 13 [.nd u2 a,.nd c b])::d)=bB ((.nd 13 [.nd u2 a,.nd c b])::d) []:=by simp[aP,standF,aJ,Ty.args,Ty.t,j,o]
    rw[e];exact aF func119 [⟨_,aS (s:=((.nd i f)::(.nd 9 [.nd u1 g])::(.nd 13 [.nd u2 a,.nd c b])::d)) (k:=0) (ks:=[9,13]) h⟩,⟨_,gu oB oE oB j⟩,⟨_,gu oB oE oB o⟩,⟨_,AO (s:=((.nd 13 [.nd u2 a,.nd c b])::d)) oB (by simp only[js]at *;omega)⟩]
def Pw(l:s.all ai)(hn:s.length<=1000)(r:types.all ai):HI 123 73 n types rows dk dn dp ds da s dI:=by
 unfold HI;have f:=ay l
 cases m:standF s [0,0]with
 | false =>
  have e:dI ⟨73,n,types,rows,.nd dk dn dp ds da⟩ s =.no 5:=by simp[dI,m,aJ]
  rw[e];exact aF func123 [⟨_,aN f m⟩,⟨_,ag 5⟩]
 | true =>
  obtain⟨c,a,u,rfl,i⟩:=iX m;obtain⟨g,d,b,rfl,o⟩:=iX i;have v:=dD l hn;simp only[xj,qt]at l;have⟨p,g1,q⟩:=l
  cases h:sameT (.nd c a) (.nd g d)with
  | false =>
   have e:dI ⟨73,n,types,rows,.nd dk dn dp ds da⟩ ((.nd c a)::(.nd g d)::b) =.no 5:=by simp[dI,standF,aJ,Ty.t,h]
   rw[e];exact aF func123 [⟨_,aS (s:=((.nd c a)::(.nd g d)::b)) (k:=0) (ks:=[0]) f⟩,⟨_,gu oB oE oB h⟩,⟨_,ag 5⟩]
  | true =>
   cases j:oF (.nd c a)with
   | false =>
    have e:dI ⟨73,n,types,rows,.nd dk dn dp ds da⟩ ((.nd c a)::(.nd g d)::b) =.no 5:=by simp[dI,standF,aJ,Ty.t,h,j]
    rw[e];exact aF func123 [⟨_,aS (s:=((.nd c a)::(.nd g d)::b)) (k:=0) (ks:=[0]) f⟩,⟨_,gu oB oE oB h⟩,⟨_,uQ oB oE j⟩,⟨_,ag 5⟩]
   | true =>
    have e:dI ⟨73,n,types,rows,.nd dk dn dp ds da⟩ ((.nd c a)::(.nd g d)::b)=bB b [.nd 3 []]:=by simp[dI,standF,aJ,Ty.t,h,j]
    rw[e];exact aF func123 [⟨_,aS (s:=((.nd c a)::(.nd g d)::b)) (k:=0) (ks:=[0]) f⟩,⟨_,gu oB oE oB h⟩,⟨_,uQ oB oE j⟩,⟨_,dA 3⟩,⟨_,dQ (s:=b) (top:=[.nd 3 []])⟩]
def Px(a:s.all ai)(hn:s.length<=1000)(j:types.all ai):HI 123 74 n types rows dk dn dp ds da s dI:=by
 unfold HI;have d:=ay a
 cases c:standF s [3]with
 | false =>
  have e:dI ⟨74,n,types,rows,.nd dk dn dp ds da⟩ s =.no 5:=by simp[dI,c,aJ]
  rw[e];exact aF func123 [⟨_,aN d c⟩,⟨_,ag 5⟩]
 | true =>
  obtain⟨h,b,rfl,f⟩:=fT ot c;have l:=dD a hn;simp only[xj,qt]at a;have⟨g,i⟩:=a;obtain rfl:=lZ g ot;have e:dI ⟨74,n,types,rows,.nd dk dn dp ds da⟩ ((.nd 3 [])::b)=bB b [.nd 2 []]:=Kd
  rw[e];exact aF func123 [⟨_,aS (s:=((.nd 3 [])::b)) (k:=3) (ks:=[]) d⟩,⟨_,dA 2⟩,⟨_,dQ (s:=b) (top:=[.nd 2 []])⟩]
def Py(a:s.all ai)(hn:s.length<=1000)(j:types.all ai):HI 123 75 n types rows dk dn dp ds da s dI:=by
 unfold HI;have d:=ay a
 cases c:standF s [3]with
 | false =>
  have e:dI ⟨75,n,types,rows,.nd dk dn dp ds da⟩ s =.no 5:=by simp[dI,c,aJ]
  rw[e];exact aF func123 [⟨_,aN d c⟩,⟨_,ag 5⟩]
 | true =>
  obtain⟨h,b,rfl,f⟩:=fT ot c;have l:=dD a hn;simp only[xj,qt]at a;have⟨g,i⟩:=a;obtain rfl:=lZ g ot;have e:dI ⟨75,n,types,rows,.nd dk dn dp ds da⟩ ((.nd 3 [])::b)=bB b [.nd 2 []]:=Kd
  rw[e];exact aF func123 [⟨_,aS (s:=((.nd 3 [])::b)) (k:=3) (ks:=[]) d⟩,⟨_,dA 2⟩,⟨_,dQ (s:=b) (top:=[.nd 2 []])⟩]
def Pz(a:s.all ai)(hn:s.length<=1000)(j:types.all ai):HI 123 76 n types rows dk dn dp ds da s dI:=by
 unfold HI;have d:=ay a
 cases c:standF s [3]with
 | false =>
  have e:dI ⟨76,n,types,rows,.nd dk dn dp ds da⟩ s =.no 5:=by simp[dI,c,aJ]
  rw[e];exact aF func123 [⟨_,aN d c⟩,⟨_,ag 5⟩]
 | true =>
  obtain⟨h,b,rfl,f⟩:=fT ot c;have l:=dD a hn;simp only[xj,qt]at a;have⟨g,i⟩:=a;obtain rfl:=lZ g ot;have e:dI ⟨76,n,types,rows,.nd dk dn dp ds da⟩ ((.nd 3 [])::b)=bB b [.nd 2 []]:=Kd
  rw[e];exact aF func123 [⟨_,aS (s:=((.nd 3 [])::b)) (k:=3) (ks:=[]) d⟩,⟨_,dA 2⟩,⟨_,dQ (s:=b) (top:=[.nd 2 []])⟩]
def PD(a:s.all ai)(hn:s.length<=1000)(j:types.all ai):HI 123 77 n types rows dk dn dp ds da s dI:=by
 unfold HI;have d:=ay a
 cases c:standF s [2]with
 | false =>
  have e:dI ⟨77,n,types,rows,.nd dk dn dp ds da⟩ s =.no 5:=by simp[dI,c,aJ]
  rw[e];exact aF func123 [⟨_,aN d c⟩,⟨_,ag 5⟩]
 | true =>
  obtain⟨h,b,rfl,f⟩:=fT ot c;have l:=dD a hn;simp only[xj,qt]at a;have⟨g,i⟩:=a;obtain rfl:=lZ g ot;have e:dI ⟨77,n,types,rows,.nd dk dn dp ds da⟩ ((.nd 2 [])::b)=bB b [.nd 2 []]:=Kd
  rw[e];exact aF func123 [⟨_,aS (s:=((.nd 2 [])::b)) (k:=2) (ks:=[]) d⟩,⟨_,dA 2⟩,⟨_,dQ (s:=b) (top:=[.nd 2 []])⟩]
def PE(b:s.all ai)(hn:s.length<=1000)(m:types.all ai):HI 123 78 n types rows dk dn dp ds da s dI:=by
 unfold HI;have f:=ay b
 cases d:standF s [2,2]with
 | false =>
  have e:dI ⟨78,n,types,rows,.nd dk dn dp ds da⟩ s =.no 5:=by simp[dI,d,aJ]
  rw[e];exact aF func123 [⟨_,aN f d⟩,⟨_,ag 5⟩]
 | true =>
  obtain⟨i,o,rfl,a⟩:=fT ot d;obtain⟨j,c,rfl,g⟩:=fT ot a;have p:=dD b hn;simp only[xj,qt]at b;have⟨h,g1,l⟩:=b;obtain rfl:=lZ h ot;obtain rfl:=lZ g1 ot;have e:dI ⟨78,n,types,rows,.nd dk dn dp ds da⟩ ((.nd 2 [])::(.nd 2 [])::c)=bB c [.nd 2 []]:=Kd
  rw[e];exact aF func123 [⟨_,aS (s:=((.nd 2 [])::(.nd 2 [])::c)) (k:=2) (ks:=[2]) f⟩,⟨_,dA 2⟩,⟨_,dQ (s:=c) (top:=[.nd 2 []])⟩]
def PG(b:s.all ai)(hn:s.length<=1000)(m:types.all ai):HI 123 79 n types rows dk dn dp ds da s dI:=by
 unfold HI;have f:=ay b
 cases d:standF s [2,2]with
 | false =>
  have e:dI ⟨79,n,types,rows,.nd dk dn dp ds da⟩ s =.no 5:=by simp[dI,d,aJ]
  rw[e];exact aF func123 [⟨_,aN f d⟩,⟨_,ag 5⟩]
 | true =>
  obtain⟨i,o,rfl,a⟩:=fT ot d;obtain⟨j,c,rfl,g⟩:=fT ot a;have p:=dD b hn;simp only[xj,qt]at b;have⟨h,g1,l⟩:=b;obtain rfl:=lZ h ot;obtain rfl:=lZ g1 ot;have e:dI ⟨79,n,types,rows,.nd dk dn dp ds da⟩ ((.nd 2 [])::(.nd 2 [])::c)=bB c [.nd 2 []]:=Kd
  rw[e];exact aF func123 [⟨_,aS (s:=((.nd 2 [])::(.nd 2 [])::c)) (k:=2) (ks:=[2]) f⟩,⟨_,dA 2⟩,⟨_,dQ (s:=c) (top:=[.nd 2 []])⟩]
def FW(a:s.all ai)(hn:s.length<=1000)(j:types.all ai):HI 122 93 n types rows dk dn dp ds da s bJ:=by
 unfold HI;have d:=ay a
 cases c:standF s [3]with
 | false =>
  have e:bJ ⟨93,n,types,rows,.nd dk dn dp ds da⟩ s =.no 5:=by simp[bJ,c]
  rw[e];exact aF func122 [⟨_,aN d c⟩,⟨_,H_two93⟩,⟨_,ag 5⟩]
 | true =>
  obtain⟨h,b,rfl,f⟩:=fT ot c;have l:=dD a hn;simp only[xj,qt]at a;have⟨g,i⟩:=a;obtain rfl:=lZ g ot;have e:bJ ⟨93,n,types,rows,.nd dk dn dp ds da⟩ ((.nd 3 [])::b)=bB b [.nd 4 []]:=by simp[bJ,standF,Ty.t]
  rw[e];exact aF func122 [⟨_,aS (s:=((.nd 3 [])::b)) (k:=3) (ks:=[]) d⟩,⟨_,dA 4⟩,⟨_,dQ (s:=b) (top:=[.nd 4 []])⟩]
def FX(a:s.all ai)(hn:s.length<=1000)(j:types.all ai):HI 122 94 n types rows dk dn dp ds da s bJ:=by
 unfold HI;have d:=ay a
 cases c:standF s [3]with
 | false =>
  have e:bJ ⟨94,n,types,rows,.nd dk dn dp ds da⟩ s =.no 5:=by simp[bJ,c]
  rw[e];exact aF func122 [⟨_,aN d c⟩,⟨_,H_two94⟩,⟨_,ag 5⟩]
 | true =>
  obtain⟨h,b,rfl,f⟩:=fT ot c;have l:=dD a hn;simp only[xj,qt]at a;have⟨g,i⟩:=a;obtain rfl:=lZ g ot;have e:bJ ⟨94,n,types,rows,.nd dk dn dp ds da⟩ ((.nd 3 [])::b)=bB b [.nd 9 [.nd 4 []]]:=by simp[bJ,standF,Ty.t]
  rw[e];exact aF func122 [⟨_,aS (s:=((.nd 3 [])::b)) (k:=3) (ks:=[]) d⟩,⟨_,dA 4⟩,⟨_,nR 9 [.nd 4 []]⟩,⟨_,dQ (s:=b) (top:=[.nd 9 [.nd 4 []]])⟩]
def FY(a:s.all ai)(hn:s.length<=1000)(j:types.all ai):HI 122 95 n types rows dk dn dp ds da s bJ:=by
 unfold HI;have d:=ay a
 cases c:standF s [4]with
 | false =>
  have e:bJ ⟨95,n,types,rows,.nd dk dn dp ds da⟩ s =.no 5:=by simp[bJ,c]
  rw[e];exact aF func122 [⟨_,aN d c⟩,⟨_,H_two95⟩,⟨_,ag 5⟩]
 | true =>
  obtain⟨h,b,rfl,f⟩:=fT ot c;have l:=dD a hn;simp only[xj,qt]at a;have⟨g,i⟩:=a;obtain rfl:=lZ g ot;have e:bJ ⟨95,n,types,rows,.nd dk dn dp ds da⟩ ((.nd 4 [])::b)=bB b [.nd 3 []]:=by simp[bJ,standF,Ty.t]
  rw[e];exact aF func122 [⟨_,aS (s:=((.nd 4 [])::b)) (k:=4) (ks:=[]) d⟩,⟨_,dA 3⟩,⟨_,dQ (s:=b) (top:=[.nd 3 []])⟩]
def F3(h:s.all ai)(hn:s.length<=1000)(p:types.all ai):HI 125 84 n types rows dk dn dp ds da s bF:=by
 unfold HI;have f:=ay h
 cases i:standF s [0,4]with
 | false =>
  have e:bF ⟨84,n,types,rows,.nd dk dn dp ds da⟩ s =.no 5:=by simp[bF,i,aJ,Ty.args]
  rw[e];exact aF func125 [⟨_,dA 4⟩,⟨_,aN f i⟩,⟨_,ag 5⟩]
 | true =>
  obtain⟨b,a,q,rfl,d⟩:=iX i;obtain⟨l,c,rfl,j⟩:=fT ot d;have r:=dD h hn;simp only[xj,qt]at h;have⟨m,g1,o⟩:=h;obtain rfl:=lZ g1 ot
  cases g:oF (.nd b a)with
  | false =>
   have e:bF ⟨84,n,types,rows,.nd dk dn dp ds da⟩ ((.nd b a)::(.nd 4 [])::c) =.no 5:=by simp[bF,standF,aJ,Ty.args,Ty.t,g]
   rw[e];exact aF func125 [⟨_,dA 4⟩,⟨_,aS (s:=((.nd b a)::(.nd 4 [])::c)) (k:=0) (ks:=[4]) f⟩,⟨_,uQ oB oE g⟩,⟨_,ag 5⟩]
  | true =>
   have e:bF ⟨84,n,types,rows,.nd dk dn dp ds da⟩ ((.nd b a)::(.nd 4 [])::c)=bB c [.nd 9 [.nd 15 [(.nd b a)]]]:=by simp[bF,standF,aJ,Ty.t,g]
   rw[e];exact aF func125 [⟨_,dA 4⟩,⟨_,aS (s:=((.nd b a)::(.nd 4 [])::c)) (k:=0) (ks:=[4]) f⟩,⟨_,uQ oB oE g⟩,⟨_,nR 15 [(.nd b a)]⟩,⟨_,nR 9 [.nd 15 [(.nd b a)]]⟩,⟨_,dQ (s:=c) (top:=[.nd 9 [.nd 15 [(.nd b a)]]])⟩]
def F4(b:s.all ai)(hn:s.length<=1000)(l:types.all ai):HI 125 85 n types rows dk dn dp ds da s bF:=by
 unfold HI;have f:=ay b
 cases d:standF s [15]with
 | false =>
  have e:bF ⟨85,n,types,rows,.nd dk dn dp ds da⟩ s =.no 5:=by simp[bF,d,aJ,Ty.args]
  rw[e];exact aF func125 [⟨_,dA 4⟩,⟨_,aN f d⟩,⟨_,ag 5⟩]
 | true =>
  obtain⟨i,c,rfl,g⟩:=fT ot d;have m:=dD b hn;simp only[xj,qt]at b;have⟨h,j⟩:=b;obtain⟨u0,a,rfl⟩:=Bi h ot;have e:bF ⟨85,n,types,rows,.nd dk dn dp ds da⟩ ((.nd 15 [.nd u0 a])::c)=bB ((.nd 15 [.nd u0 a])::c) [.nd 11 [.nd 7 [],.nd 11 [(.nd u0 a),.nd 4 []]]]:=by simp[bF,standF,aJ,Ty.args,Ty.t]
  rw[e];exact aF func125 [⟨_,dA 4⟩,⟨_,aS (s:=((.nd 15 [.nd u0 a])::c)) (k:=15) (ks:=[]) f⟩,⟨_,dA 7⟩,⟨_,nR 11 [(.nd u0 a),.nd 4 []]⟩,⟨_,nR 11 [.nd 7 [],.nd 11 [(.nd u0 a),.nd 4 []]]⟩,⟨_,dQ (s:=((.nd 15 [.nd u0 a])::c)) (top:=[.nd 11 [.nd 7 [],.nd 11 [(.nd u0 a),.nd 4 []]]])⟩]
def F5(i:s.all ai)(hn:s.length<=1000)(v:types.all ai):HI 125 86 n types rows dk dn dp ds da s bF:=by
 unfold HI;have f:=ay i
 cases j:standF s [15,11]with
 | false =>
  have e:bF ⟨86,n,types,rows,.nd dk dn dp ds da⟩ s =.no 5:=by simp[bF,j,aJ,Ty.args]
  rw[e];exact aF func125 [⟨_,dA 4⟩,⟨_,aN f j⟩,⟨_,ag 5⟩]
 | true =>
  obtain⟨q,w,rfl,h⟩:=fT ot j;obtain⟨r,g,rfl,m⟩:=fT ot h;have x:=dD i hn;simp only[xj,qt]at i;have⟨p,g1,u⟩:=i;obtain⟨u0,a,rfl⟩:=Bi p ot;obtain⟨u1,c,l,d,rfl⟩:=vY g1 ot
  cases o:standF [(.nd u1 c),(.nd l d)] [4,4]with
  | false =>
   have e:bF ⟨86,n,types,rows,.nd dk dn dp ds da⟩ ((.nd 15 [.nd u0 a])::(.nd 11 [.nd u1 c,.nd l d])::g) =.no 5:=by simp_all [bF,standF,aJ,Ty.args,Ty.t]
   rw[e];exact aF func125 [⟨_,dA 4⟩,⟨_,aS (s:=((.nd 15 [.nd u0 a])::(.nd 11 [.nd u1 c,.nd l d])::g)) (k:=15) (ks:=[11]) f⟩,⟨_,aN oB o⟩,⟨_,ag 5⟩]
  | true =>
   obtain⟨rfl,rfl⟩:=st2 ot ot o;have e:bF ⟨86,n,types,rows,.nd dk dn dp ds da⟩ ((.nd 15 [.nd u0 a])::(.nd 11 [.nd 4 c,.nd 4 d])::g)=bB g [.nd 9 [.nd 11 [(.nd 15 [.nd u0 a]),(.nd 15 [.nd u0 a])]]]:=by simp[bF,standF,aJ,Ty.args,Ty.t]
   rw[e];exact aF func125 [⟨_,dA 4⟩,⟨_,aS (s:=((.nd 15 [.nd u0 a])::(.nd 11 [.nd 4 c,.nd 4 d])::g)) (k:=15) (ks:=[11]) f⟩,⟨_,aN (s:=[(.nd 4 c),(.nd 4 d)]) (k:=4) (ks:=[4]) (b:=true) oB (by simp[standF,Ty.t])⟩,⟨_,nR 11 [(.nd 15 [.nd u0 a]),(.nd 15 [.nd u0 a])]⟩,⟨_,nR 9 [.nd 11 [(.nd 15 [.nd u0 a]),(.nd 15 [.nd u0 a])]]⟩,⟨_,dQ (s:=g) (top:=[.nd 9 [.nd 11 [(.nd 15 [.nd u0 a]),(.nd 15 [.nd u0 a])]]])⟩]
def F6(h:s.all ai)(hn:s.length<=1000)(r:types.all ai):HI 125 87 n types rows dk dn dp ds da s bF:=by
 unfold HI;have d:=ay h
 cases i:standF s [11]with
 | false =>
  have e:bF ⟨87,n,types,rows,.nd dk dn dp ds da⟩ s =.no 5:=by simp[bF,i,aJ,Ty.args]
  rw[e];exact aF func125 [⟨_,dA 4⟩,⟨_,aN d i⟩,⟨_,ag 5⟩]
 | true =>
  obtain⟨p,f,rfl,l⟩:=fT ot i;have u:=dD h hn;simp only[xj,qt]at h;have⟨o,q⟩:=h;obtain⟨u0,a,j,c,rfl⟩:=vY o ot
  cases m:standF [(.nd u0 a),(.nd j c)] [15,15]with
  | false =>
   have e:bF ⟨87,n,types,rows,.nd dk dn dp ds da⟩ ((.nd 11 [.nd u0 a,.nd j c])::f) =.no 5:=by simp_all [bF,standF,aJ,Ty.args,Ty.t]
   rw[e];exact aF func125 [⟨_,dA 4⟩,⟨_,aS (s:=((.nd 11 [.nd u0 a,.nd j c])::f)) (k:=11) (ks:=[]) d⟩,⟨_,aN oB m⟩,⟨_,ag 5⟩]
  | true =>
   obtain⟨rfl,rfl⟩:=st2 ot ot m
   cases g:sameT (.nd 15 a) (.nd 15 c)with
   | false =>
    have e:bF ⟨87,n,types,rows,.nd dk dn dp ds da⟩ ((.nd 11 [.nd 15 a,.nd 15 c])::f) =.no 5:=by simp[bF,standF,aJ,Ty.args,Ty.t,g]
    rw[e];exact aF func125 [⟨_,dA 4⟩,⟨_,aS (s:=((.nd 11 [.nd 15 a,.nd 15 c])::f)) (k:=11) (ks:=[]) d⟩,⟨_,aN (s:=[(.nd 15 a),(.nd 15 c)]) (k:=15) (ks:=[15]) (b:=true) oB (by simp[standF,Ty.t])⟩,⟨_,gu oB oE oB g⟩,⟨_,ag 5⟩]
   | true =>
    have e:bF ⟨87,n,types,rows,.nd dk dn dp ds da⟩ ((.nd 11 [.nd 15 a,.nd 15 c])::f)=bB f [.nd 9 [(.nd 15 a)]]:=by simp[bF,standF,aJ,Ty.args,Ty.t,g]
    rw[e];exact aF func125 [⟨_,dA 4⟩,⟨_,aS (s:=((.nd 11 [.nd 15 a,.nd 15 c])::f)) (k:=11) (ks:=[]) d⟩,⟨_,aN (s:=[(.nd 15 a),(.nd 15 c)]) (k:=15) (ks:=[15]) (b:=true) oB (by simp[standF,Ty.t])⟩,⟨_,gu oB oE oB g⟩,⟨_,nR 9 [(.nd 15 a)]⟩,⟨_,dQ (s:=f) (top:=[.nd 9 [(.nd 15 a)]])⟩]
def MQ(m:s.all ai)(hn:s.length<=1000)(p:types.all ai)(r:types.length=1):HI 126 88 n types rows dk dn dp ds da s dO:=by
 unfold HI;obtain⟨i,j,rfl⟩:=GR r;have y:=ay p;have C:=dD p oe;clear p;have d:=ay m
 cases o:standF s [0,5,7]with
 | false =>
  have e:dO ⟨88,n,[.nd i j],rows,.nd dk dn dp ds da⟩ s =.no 5:=by simp[dO,o,aJ]
  rw[e];exact aF func126 [⟨_,aN d o⟩,⟨_,ag 5⟩]
 | true =>
  obtain⟨c,a,z,rfl,g⟩:=iX o;obtain⟨u,A,rfl,h⟩:=fT ot g;obtain⟨v,b,rfl,q⟩:=fT ot h;have B:=dD m hn;simp only[xj,qt]at m;have⟨w,g1,g2,x⟩:=m;obtain rfl:=lZ g1 ot;obtain rfl:=lZ g2 ot
  cases f:sameT (.nd c a) (.nd i j)with
  | false =>
   have e:dO ⟨88,n,[.nd i j],rows,.nd dk dn dp ds da⟩ ((.nd c a)::(.nd 5 [])::(.nd 7 [])::b) =.no 5:=by simp[dO,standF,aJ,Ty.t,f]
   rw[e];exact aF func126 [⟨_,aS (s:=((.nd c a)::(.nd 5 [])::(.nd 7 [])::b)) (k:=0) (ks:=[5,7]) d⟩,⟨_,gu oB oE oB f⟩,⟨_,ag 5⟩]
  | true =>
   cases l:storeT (.nd c a)with
   | false =>
    have e:dO ⟨88,n,[.nd i j],rows,.nd dk dn dp ds da⟩ ((.nd c a)::(.nd 5 [])::(.nd 7 [])::b) =.no 5:=by simp[dO,standF,aJ,Ty.t,f,l]
    rw[e];exact aF func126 [⟨_,aS (s:=((.nd c a)::(.nd 5 [])::(.nd 7 [])::b)) (k:=0) (ks:=[5,7]) d⟩,⟨_,gu oB oE oB f⟩,⟨_,FO oB oE l⟩,⟨_,ag 5⟩]
   | true =>
    have e:dO ⟨88,n,[.nd i j],rows,.nd dk dn dp ds da⟩ ((.nd c a)::(.nd 5 [])::(.nd 7 [])::b)=bB b [.nd 8 []]:=by simp[dO,standF,aJ,Ty.t,f,l]
    rw[e];exact aF func126 [⟨_,aS (s:=((.nd c a)::(.nd 5 [])::(.nd 7 [])::b)) (k:=0) (ks:=[5,7]) d⟩,⟨_,gu oB oE oB f⟩,⟨_,FO oB oE l⟩,⟨_,dA 8⟩,⟨_,dQ (s:=b) (top:=[.nd 8 []])⟩]
def MR(a:s.all ai)(hn:s.length<=1000)(b:types.all ai):HI 126 89 n types rows dk dn dp ds da s dO:=by
 unfold HI;have c:=ay a;have e:dO ⟨89,n,types,rows,.nd dk dn dp ds da⟩ s=bB s [.nd 7 []]:=by simp[dO,aJ]
 rw[e];exact aF func126 [⟨_,dA 7⟩,⟨_,dQ (s:=s) (top:=[.nd 7 []])⟩]
def MS(a:s.all ai)(hn:s.length<=1000)(b:types.all ai):HI 126 90 n types rows dk dn dp ds da s dO:=by
 unfold HI;have c:=ay a;have e:dO ⟨90,n,types,rows,.nd dk dn dp ds da⟩ s=bB s [.nd 7 []]:=by simp[dO,aJ]
 rw[e];exact aF func126 [⟨_,dA 7⟩,⟨_,dQ (s:=s) (top:=[.nd 7 []])⟩]
def MU(a:s.all ai)(hn:s.length<=1000)(b:types.all ai):HI 126 91 n types rows dk dn dp ds da s dO:=by
 unfold HI;have c:=ay a;have e:dO ⟨91,n,types,rows,.nd dk dn dp ds da⟩ s=bB s [.nd 5 []]:=by simp[dO,aJ]
 rw[e];exact aF func126 [⟨_,dA 5⟩,⟨_,dQ (s:=s) (top:=[.nd 5 []])⟩]
def MV(a:s.all ai)(hn:s.length<=1000)(b:types.all ai):HI 126 92 n types rows dk dn dp ds da s dO:=by
 unfold HI;have c:=ay a;have e:dO ⟨92,n,types,rows,.nd dk dn dp ds da⟩ s=bB s [.nd 5 []]:=by simp[dO,aJ]
 rw[e];exact aF func126 [⟨_,dA 5⟩,⟨_,dQ (s:=s) (top:=[.nd 5 []])⟩]
def MX(b:s.all ai)(hn:s.length<=1000)(m:types.all ai):HI 124 80 n types rows dk dn dp ds da s cZ:=by
 unfold HI;have f:=ay b
 cases d:standF s [6,6]with
 | false =>
  have e:cZ ⟨80,n,types,rows,.nd dk dn dp ds da⟩ s =.no 5:=by simp[cZ,d,aJ]
  rw[e];exact aF func124 [⟨_,aN f d⟩,⟨_,ag 5⟩]
 | true =>
  obtain⟨i,o,rfl,a⟩:=fT ot d;obtain⟨j,c,rfl,g⟩:=fT ot a;have p:=dD b hn;simp only[xj,qt]at b;have⟨h,g1,l⟩:=b;obtain rfl:=lZ h ot;obtain rfl:=lZ g1 ot;have e:cZ ⟨80,n,types,rows,.nd dk dn dp ds da⟩ ((.nd 6 [])::(.nd 6 [])::c)=bB c [.nd 6 []]:=by simp[cZ,standF,aJ,Ty.t]
  rw[e];exact aF func124 [⟨_,aS (s:=((.nd 6 [])::(.nd 6 [])::c)) (k:=6) (ks:=[6]) f⟩,⟨_,dA 6⟩,⟨_,dQ (s:=c) (top:=[.nd 6 []])⟩]
def MZ(g:s.all ai)(hn:s.length<=1000)(m:types.all ai):HI 124 81 n types rows dk dn dp ds da s cZ:=by
 unfold HI;have c:=ay g
 cases h:standF s [0]with
 | false =>
  have e:cZ ⟨81,n,types,rows,.nd dk dn dp ds da⟩ s =.no 5:=by simp[cZ,h,aJ]
  rw[e];exact aF func124 [⟨_,aN c h⟩,⟨_,ag 5⟩]
 | true =>
  obtain⟨d,b,a,rfl,i⟩:=iX h;have o:=dD g hn;simp only[xj,qt]at g;have⟨j,l⟩:=g
  cases f:eB (.nd d b)with
  | false =>
   have e:cZ ⟨81,n,types,rows,.nd dk dn dp ds da⟩ ((.nd d b)::a) =.no 5:=by simp[cZ,standF,aJ,Ty.t,f]
   rw[e];exact aF func124 [⟨_,aS (s:=((.nd d b)::a)) (k:=0) (ks:=[]) c⟩,⟨_,pG oB oE f⟩,⟨_,ag 5⟩]
  | true =>
   have e:cZ ⟨81,n,types,rows,.nd dk dn dp ds da⟩ ((.nd d b)::a)=bB a [.nd 6 []]:=by simp[cZ,standF,aJ,Ty.t,f]
   rw[e];exact aF func124 [⟨_,aS (s:=((.nd d b)::a)) (k:=0) (ks:=[]) c⟩,⟨_,pG oB oE f⟩,⟨_,dA 6⟩,⟨_,dQ (s:=a) (top:=[.nd 6 []])⟩]
def M0(g:s.all ai)(hn:s.length<=1000)(i:types.all ai)(m:types.length=1):HI 124 82 n types rows dk dn dp ds da s cZ:=by
 unfold HI;obtain⟨a,b,rfl⟩:=GR m;have q:=ay i;have u:=dD i oe;clear i;have d:=ay g
 cases h:standF s [6]with
 | false =>
  have e:cZ ⟨82,n,[.nd a b],rows,.nd dk dn dp ds da⟩ s =.no 5:=by simp[cZ,h,aJ]
  rw[e];exact aF func124 [⟨_,aN d h⟩,⟨_,ag 5⟩]
 | true =>
  obtain⟨o,c,rfl,j⟩:=fT ot h;have r:=dD g hn;simp only[xj,qt]at g;have⟨l,p⟩:=g;obtain rfl:=lZ l ot
  cases f:eB (.nd a b)with
  | false =>
   have e:cZ ⟨82,n,[.nd a b],rows,.nd dk dn dp ds da⟩ ((.nd 6 [])::c) =.no 5:=by simp[cZ,standF,aJ,Ty.t,f]
   rw[e];exact aF func124 [⟨_,aS (s:=((.nd 6 [])::c)) (k:=6) (ks:=[]) d⟩,⟨_,pG oB oE f⟩,⟨_,ag 5⟩]
  | true =>
   have e:cZ ⟨82,n,[.nd a b],rows,.nd dk dn dp ds da⟩ ((.nd 6 [])::c)=bB c [.nd 9 [(.nd a b)]]:=by simp[cZ,standF,aJ,Ty.t,f]
   rw[e];exact aF func124 [⟨_,aS (s:=((.nd 6 [])::c)) (k:=6) (ks:=[]) d⟩,⟨_,pG oB oE f⟩,⟨_,nR 9 [(.nd a b)]⟩,⟨_,dQ (s:=c) (top:=[.nd 9 [(.nd a b)]])⟩]
def ML(a:s.all ai)(hn:s.length<=1000)(l:types.all ai):HI 117 40 n types rows dk dn dp ds da s dG:=by
 unfold HI;have d:=ay a
 cases c:standF s [0]with
 | false =>
  have e:dG ⟨40,n,types,rows,.nd dk dn dp ds da⟩ s =.no 5:=by simp[dG,c,aJ]
  rw[e];exact aF func117 [⟨_,aN d c⟩,⟨_,ag 5⟩]
 | true =>
  obtain⟨h,f,b,rfl,g⟩:=iX c;have m:=dD a hn;simp only[xj,qt]at a;have⟨i,j⟩:=a;have e:dG ⟨40,n,types,rows,.nd dk dn dp ds da⟩ ((.nd h f)::b)=bB b []:=by simp[dG,standF,Ty.t]
  rw[e];exact aF func117 [⟨_,aS (s:=((.nd h f)::b)) (k:=0) (ks:=[]) d⟩,⟨_,AO (s:=b) oB (by simp only[js]at *;omega)⟩]
def MN(d:s.all ai)(hn:s.length<=1000)(p:types.all ai):HI 117 42 n types rows dk dn dp ds da s dG:=by
 unfold HI;have j:=ay d
 cases i:standF s [0,0]with
 | false =>
  have e:dG ⟨42,n,types,rows,.nd dk dn dp ds da⟩ s =.no 5:=by simp[dG,i,aJ]
  rw[e];exact aF func117 [⟨_,aN j i⟩,⟨_,ag 5⟩]
 | true =>
  obtain⟨g,b,q,rfl,a⟩:=iX i;obtain⟨h,c,f,rfl,l⟩:=iX a;have r:=dD d hn;simp only[xj,qt]at d;have⟨m,g1,o⟩:=d;have e:dG ⟨42,n,types,rows,.nd dk dn dp ds da⟩ ((.nd g b)::(.nd h c)::f)=bB f [(.nd h c),(.nd g b)]:=by simp[dG,standF,aJ,Ty.t]
  rw[e];exact aF func117 [⟨_,aS (s:=((.nd g b)::(.nd h c)::f)) (k:=0) (ks:=[0]) j⟩,⟨_,dQ (s:=f) (top:=[(.nd h c),(.nd g b)])⟩]
def I8{row:aE->aw->iF}(l:s.all ai)(hn:s.length<=1000)(q:types.all ai):Hd ⟨121,[uq 67 n types rows dk dn dp ds da,dZ s],iH (bP row ⟨67,n,types,rows,.nd dk dn dp ds da⟩ s)⟩:=by
 have h:=ay l
 cases h0:standF s [0,14]with
 | false =>
  have e:bP row ⟨67,n,types,rows,.nd dk dn dp ds da⟩ s =.no 5:=by simp[bP,h0,aJ,Ty.args]
  rw[e];exact aF func121 [⟨_,aN h h0⟩,⟨_,ag 5⟩]
 | true =>
  obtain⟨i,d,r,rfl,g⟩:=iX h0;obtain⟨o,b,rfl,m⟩:=fT ot g;have zs:=dD l hn;simp only[xj,qt]at l;have⟨p,g1,gr⟩:=l;obtain⟨u1,f,c,a,rfl⟩:=vY g1 ot
  cases j:sameT (.nd i d) (.nd u1 f)with
  | false =>
   have e:bP row ⟨67,n,types,rows,.nd dk dn dp ds da⟩ ((.nd i d)::(.nd 14 [.nd u1 f,.nd c a])::b) =.no 5:=by simp[bP,standF,aJ,Ty.args,Ty.t,j]
   rw[e];exact aF func121 [⟨_,aS (s:=((.nd i d)::(.nd 14 [.nd u1 f,.nd c a])::b)) (k:=0) (ks:=[14]) h⟩,⟨_,gu oB oE oB j⟩,⟨_,ag 5⟩]
  | true =>
   have e:bP row ⟨67,n,types,rows,.nd dk dn dp ds da⟩ ((.nd i d)::(.nd 14 [.nd u1 f,.nd c a])::b)=bB b [(.nd c a)]:=by simp[bP,standF,aJ,Ty.args,Ty.t,j]
   rw[e];exact aF func121 [⟨_,aS (s:=((.nd i d)::(.nd 14 [.nd u1 f,.nd c a])::b)) (k:=0) (ks:=[14]) h⟩,⟨_,gu oB oE oB j⟩,⟨_,dQ (s:=b) (top:=[(.nd c a)])⟩]
end
def wayA:iF->A1
 | .no e=>.agg [.d (.s 0 []),.d (.v (.bool false)),.d (.v (.i e))]
 | .ok f ts=>.agg [.d (.s 2 (tysD ts)),.d (.v (.bool f)),.d (.v (.i 0))]
def SA (e:Int):Prop:=e=1\/e=4\/e=5\/e=7
def yI (r:iF):Prop:=(∀e,r =.no e->SA e)/\∀f ts,r =.ok f ts->ts.all ai/\ts.length<=1001
def KY(r:iF):Hd ⟨164,ledA r,.of (wayA r)⟩:=by
 cases r with
 | no e=>exact aF func164 []
 | ok f a=>exact aF func164 []
def Pk{a b:iF}(i:yI a)(hb:yI b):Hd ⟨163,[wayA a,wayA b],iH (meetF a b)⟩:=by
 cases a with
 | no e =>
  have d:=ag e;rcases i.1 e rfl with rfl|rfl|rfl|rfl
  all_goals
   cases b with
   | no c=>exact aF func163 [⟨_,d⟩]
   | ok g y=>exact aF func163 [⟨_,d⟩]
 | ok f x =>
  cases b with
  | no e =>
   have d:=ag e;rcases hb.1 e rfl with rfl|rfl|rfl|rfl
   all_goals exact aF func163 [⟨_,d⟩]
  | ok g y =>
   have⟨j,l⟩:=i.2 f x rfl;have⟨k,m⟩:=hb.2 g y rfl
   cases f with
   | true=>exact aF func163 []
   | false =>
    cases g with
    | true=>exact aF func163 []
    | false =>
     have h:=YZ (x:=x) (y:=y) (by have:=sz_len j;omega)
     cases e:sameTs x y with
     | true =>
      rw[e]at h;have c:meetF (.ok false x) (.ok false y) =.ok false x:=by simp[meetF,e]
      rw[c];exact aF func163 [⟨_,h⟩]
     | false =>
      rw[e]at h;have c:meetF (.ok false x) (.ok false y) =.no 5:=by simp[meetF,e]
      rw[c];exact aF func163 [⟨_,h⟩,⟨_,ag 5⟩]
def yI.put{s:aw}(b:s.all ai)(a:s.length<=1001):yI (bB s []) :=
 ⟨λe h=>by simp[bB]at h,λf c h=>by simp only[bB,iF.ok.injEq,qe5]at h;obtain⟨_,rfl⟩:=h;exact⟨b,a⟩⟩
section
variable {p n:Int}{types:aw}{rows:List aE}{dk dn dp:Int}{ds:bp}{da:aE}{row:aE->aw->iF}{M:Nat}
structure xg (row:aE->aw->iF) (rows:List aE) (M:Nat):Prop where
 ok:∀l∈rows,okNs l
 run:∀l∈rows,∀s:aw,s.all ai->s.length<=M+1->Hd ⟨72,[CW l,dZ s],iH (row l s)⟩
 led:∀l∈rows,∀s:aw,s.all ai->s.length<=M+1->yI (row l s)
 top:M<=1000
 sz:∀l∈rows,sizes l<=4611686018427387904
def wW{s x y:aw}{k m:Nat}{e f:aE}(h:xg row [e,f] M)(w:s.all ai)(E:x.all ai)(F:y.all ai)(hk:k=2\/x=[])(hm:m=2\/y=[])(v:x.length+s.length<=M+1)(i:y.length+s.length<=M+1) :
 Hd ⟨148,[uq p n types [e,f] dk dn dp ds da,dZ s,.one (.d (.s k (tysD x))),.one (.d (.s m (tysD y)))],iH (iC row ⟨p,n,types,[e,f],.nd dk dn dp ds da⟩ s x y)⟩:=by
 have j:(x++s).all ai:=by simp[E,w]
 have l:(y++s).all ai:=by simp[F,w]
 have G:=h.top;have B:=h.run e oe (x++s) j (by simpa using v);have C:=h.run f oe (y++s) l (by simpa using i);have z:=h.led e oe (x++s) j (by simpa using v);have A:=h.led f oe (y++s) l (by simpa using i);have g:iC row ⟨p,n,types,[e,f],.nd dk dn dp ds da⟩ s x y=meetF (row e (x++s)) (row f (y++s)):=rfl;rw[g];clear g;have u:=Pk z A;have o:=lg (x:=x) (y:=s) (m:=k) (n:=2) hk (.inl rfl) od;have q:=lg (x:=y) (y:=s) (m:=m) (n:=2) hm (.inl rfl) od;have r:=KY (row e (x++s));have t:=KY (row f (y++s));generalize row e (x++s)=a at *;generalize row f (y++s)=b at *;generalize D:meetF a b=c at *;cases a<;>cases b<;>cases c<;>exact aF func148 [⟨_,o⟩,⟨_,B⟩,⟨_,r⟩,⟨_,q⟩,⟨_,C⟩,⟨_,t⟩,⟨_,u⟩]
def Yx{a b:iF}(c:yI a)(hb:yI b):yI (meetF a b):=by
 cases a with
 | no e=>exact c
 | ok f x =>
  cases b with
  | no e=>exact hb
  | ok g y =>
   simp only[meetF];split
   .exact hb
   .split
    .exact c
    .exact⟨λe h=>by simp only[iF.no.injEq]at h;subst h;exact .inr (.inr (.inl rfl)),λf d h=>by simp at h⟩
def uR{x y z:aw}{b:aE}(k:xg row [b] M)(s:x.all ai)(m:y.all ai)(A:okTs z)(q:x.length<=M+1)(i:y.length<=1001)(u:z.length<=1001) :
 Hd ⟨149,[uq p n types [b] dk dn dp ds da,dZ x,dZ y,dZ z],iH (dM row ⟨p,n,types,[b],.nd dk dn dp ds da⟩ x y z)⟩:=by
 have B:=k.top;have h0:=k.run b oe x s q;have o:=k.led b oe x s q;have d:dM row ⟨p,n,types,[b],.nd dk dn dp ds da⟩ x y z=(match meetF (row b x) (bB y [])with | .no e=>.no e | .ok _ _=>bB z []):=rfl;rw[d];clear d;have j:=Pk o (yI.put m i);have r:=AO (ay m) od;have l:=AO A od;have g:=KY (row b x);have h:=KY (bB y []);have t:=(Yx o (yI.put m i)).1;generalize row b x=a at *;generalize v:meetF a (bB y [])=c at *
 cases c with
 | no e =>
  have w:=ag e;rcases t e rfl with rfl|rfl|rfl|rfl
  all_goals cases a<;>exact aF func149 [⟨_,h0⟩,⟨_,g⟩,⟨_,r⟩,⟨_,h⟩,⟨_,j⟩,⟨_,w⟩]
 | ok f C=>cases a<;>exact aF func149 [⟨_,h0⟩,⟨_,g⟩,⟨_,r⟩,⟨_,h⟩,⟨_,j⟩,⟨_,l⟩]
def SH{d:Int}{c s:aw}{b:aE}(j:xg row [b] M)(m:ai (.nd d c))(l:s.all ai)(k:s.length<=M+1) :
 Hd ⟨150,[uq p n types [b] dk dn dp ds da,tyA (.nd d c),dZ s],iH (l7 row ⟨p,n,types,[b],.nd dk dn dp ds da⟩ (.nd d c) s)⟩:=by
 have h0:=j.run b oe s l k;have i:=j.led b oe s l k;have g:l7 row ⟨p,n,types,[b],.nd dk dn dp ds da⟩ (.nd d c) s=(match row b s with | .no e=>.no e | .ok f h=>if f then .no 1 else bB h [.nd d c]):=rfl;rw[g];clear g;generalize row b s=a at *
 cases a with
 | no e =>
  have o:=ag e;rcases i.1 e rfl with rfl|rfl|rfl|rfl
  all_goals exact aF func150 [⟨_,h0⟩,⟨_,o⟩]
 | ok f h =>
  have⟨gt,lt⟩:=i.2 f h rfl
  cases f with
  | true=>exact aF func150 [⟨_,h0⟩,⟨_,ag 1⟩]
  | false=>exact aF func150 [⟨_,h0⟩,⟨_,vS (s:=h) (top:=[.nd d c]) (ay gt) ⟨oM m,trivial⟩ ov⟩]
end
section
variable {n:Int}{types:aw}{rows:List aE}{dk dn dp:Int}{ds:bp}{da:aE}{row:aE->aw->iF}{s:aw}{M:Nat}
def wZ{p k:Int}(l:p=52/\k=12\/p=55/\k=9\/p=58/\k=10\/p=64/\k=2)(a:s.all ai)(hn:s.length<=M){b f:aE}(j:xg row [b,f] M) :
 Hd ⟨120,[uq p n types [b,f] dk dn dp ds da,dZ s],iH (eG row ⟨p,n,types,[b,f],.nd dk dn dp ds da⟩ s)⟩:=by
 have o:=ay a
 cases h0:standF s [k]with
 | false =>
  have e:eG row ⟨p,n,types,[b,f],.nd dk dn dp ds da⟩ s =.no 5:=by rcases l with⟨rfl,rfl⟩|⟨rfl,rfl⟩|⟨rfl,rfl⟩|⟨rfl,rfl⟩<;>simp[eG,h0]
  rw[e];have i:=aN o h0;rcases l with⟨rfl,rfl⟩|⟨rfl,rfl⟩|⟨rfl,rfl⟩|⟨rfl,rfl⟩<;>exact aF func120 [⟨_,i⟩,⟨_,ag 5⟩]
 | true =>
  have i:=aN o h0;obtain⟨q,r,rfl,_⟩:=fT od h0;simp only[xj,qt]at a;simp only[js]at hn;have g:=wF a.1;rcases l with⟨rfl,rfl⟩|⟨rfl,rfl⟩|⟨rfl,rfl⟩|⟨rfl,rfl⟩
  .obtain⟨u,c,v,d,rfl⟩:=vY a.1 ot;simp only[xj,jh5,qt,and_true]at g;have h:=wW (p:=52) (n:=n) (types:=types) (dk:=dk) (dn:=dn) (dp:=dp) (ds:=ds) (da:=da) (k:=2) (m:=2) (x:=[.nd u c]) (y:=[.nd v d]) j a.2 (by simp[g]) (by simp[g]) (.inl rfl) (.inl rfl) ov ov;rw[show eG row ⟨52,n,types,[b,f],.nd dk dn dp ds da⟩ (.nd 12 [.nd u c,.nd v d]::r)=iC row ⟨52,n,types,[b,f],.nd dk dn dp ds da⟩ r [.nd u c] [.nd v d] by simp[eG,standF,aJ,Ty.args,Ty.t]];generalize iC row _ _ _ _=c at *;cases c<;>exact aF func120 [⟨_,i⟩,⟨_,h⟩]
  .obtain⟨u,c,rfl⟩:=Bi a.1 ot;simp only[xj,jh5,qt,and_true]at g;have h:=wW (p:=55) (n:=n) (types:=types) (dk:=dk) (dn:=dn) (dp:=dp) (ds:=ds) (da:=da) (k:=0) (m:=2) (x:=[]) (y:=[.nd u c]) j a.2 rfl (by simp[g]) (.inr rfl) (.inl rfl) ov ov;rw[show eG row ⟨55,n,types,[b,f],.nd dk dn dp ds da⟩ (.nd 9 [.nd u c]::r)=iC row ⟨55,n,types,[b,f],.nd dk dn dp ds da⟩ r [] [.nd u c] by simp[eG,standF,aJ,Ty.args,Ty.t]];generalize iC row _ _ _ _=c at *;cases c<;>exact aF func120 [⟨_,i⟩,⟨_,h⟩]
  .obtain⟨u,c,rfl⟩:=Bi a.1 ot;simp only[xj,jh5,qt,and_true]at g;have h:=wW (p:=58) (n:=n) (types:=types) (dk:=dk) (dn:=dn) (dp:=dp) (ds:=ds) (da:=da) (k:=2) (m:=0) (x:=[.nd u c,.nd 10 [.nd u c]]) (y:=[]) j a.2 (by simp[g,a.1]) rfl (.inl rfl) (.inr rfl) ov ov;rw[show eG row ⟨58,n,types,[b,f],.nd dk dn dp ds da⟩ (.nd 10 [.nd u c]::r)=iC row ⟨58,n,types,[b,f],.nd dk dn dp ds da⟩ r [.nd u c,.nd 10 [.nd u c]] [] by simp[eG,standF,aJ,Ty.args,Ty.t]];generalize iC row _ _ _ _=c at *;cases c<;>exact aF func120 [⟨_,i⟩,⟨_,h⟩]
  .obtain rfl:=lZ a.1 ot;have h:=wW (p:=64) (n:=n) (types:=types) (dk:=dk) (dn:=dn) (dp:=dp) (ds:=ds) (da:=da) (k:=0) (m:=0) (x:=[]) (y:=[]) j a.2 rfl rfl (.inr rfl) (.inr rfl) ov ov;rw[show eG row ⟨64,n,types,[b,f],.nd dk dn dp ds da⟩ (.nd 2 []::r)=iC row ⟨64,n,types,[b,f],.nd dk dn dp ds da⟩ r [] [] by simp[eG,standF,Ty.t]];generalize iC row _ _ _ _=c at *;cases c<;>exact aF func120 [⟨_,i⟩,⟨_,h⟩]
def I5(a:s.all ai)(hn:s.length<=M){b:aE}(h:xg row [b] M) :
 Hd ⟨121,[uq 60 n types [b] dk dn dp ds da,dZ s],iH (bP row ⟨60,n,types,[b],.nd dk dn dp ds da⟩ s)⟩:=by
 have f:=ay a;have w:=h.top
 cases h0:standF s [10]with
 | true =>
  have j:=aN f h0;obtain⟨o,r,rfl,_⟩:=fT ot h0;simp only[xj,qt]at a;simp only[js]at hn;have k:=wF a.1;obtain⟨u,c,rfl⟩:=Bi a.1 ot;simp only[xj,jh5,qt,and_true]at k;have g:=lg (m:=2) (n:=2) (x:=[.nd u c]) (y:=r) (.inl rfl) (.inl rfl) ov;have i:=uR (p:=60) (n:=n) (types:=types) (dk:=dk) (dn:=dn) (dp:=dp) (ds:=ds) (da:=da) (x:=[.nd u c]++r) (y:=r) (z:=r) h (by simp[k,a.2]) a.2 (ay a.2) ov od od;rw[show bP row ⟨60,n,types,[b],.nd dk dn dp ds da⟩ (.nd 10 [.nd u c]::r)=dM row ⟨60,n,types,[b],.nd dk dn dp ds da⟩ ([.nd u c]++r) r r by simp[bP,standF,aJ,Ty.args,Ty.t]];generalize dM row _ _ _ _=c at *;cases c<;>exact aF func121 [⟨_,j⟩,⟨_,g⟩,⟨_,i⟩]
 | false =>
  have l:=aN f h0
  cases e:standF s [13]with
  | true =>
   have j:=aN f e;obtain⟨o,r,rfl,_⟩:=fT ot e;simp only[xj,qt]at a;simp only[js]at hn;have q:=yV a.1;obtain⟨u,c,v,d,rfl⟩:=vY a.1 ot;have g:=lg (m:=2) (n:=2) (x:=[.nd 11 [.nd u c,.nd v d]]) (y:=r) (.inl rfl) (.inl rfl) ov;have i:=uR (p:=60) (n:=n) (types:=types) (dk:=dk) (dn:=dn) (dp:=dp) (ds:=ds) (da:=da) (x:=[.nd 11 [.nd u c,.nd v d]]++r) (y:=r) (z:=r) h (by simp[q,a.2]) a.2 (ay a.2) ov od od;rw[show bP row ⟨60,n,types,[b],.nd dk dn dp ds da⟩ (.nd 13 [.nd u c,.nd v d]::r)=dM row ⟨60,n,types,[b],.nd dk dn dp ds da⟩ ([.nd 11 [.nd u c,.nd v d]]++r) r r by simp[bP,standF,aJ,Ty.args,Ty.t]];generalize dM row _ _ _ _=c at *;cases c<;>exact aF func121 [⟨_,l⟩,⟨_,j⟩,⟨_,nR 11 [.nd u c,.nd v d]⟩,⟨_,g⟩,⟨_,i⟩]
  | false =>
   rw[show bP row ⟨60,n,types,[b],.nd dk dn dp ds da⟩ s =.no 5 by simp[bP,h0,e]];exact aF func121 [⟨_,l⟩,⟨_,aN f e⟩,⟨_,ag 5⟩]
def I6(b:s.all ai)(hn:s.length<=M){a:aE}(f:xg row [a] M) :
 Hd ⟨121,[uq 65 n types [a] dk dn dp ds da,dZ s],iH (bP row ⟨65,n,types,[a],.nd dk dn dp ds da⟩ s)⟩:=by
 have g:=ay b;have j:=f.top
 cases h0:standF s [2]with
 | true =>
  have i:=aN g h0;have e:=b;obtain⟨d,r,rfl,_⟩:=fT ot h0;simp only[xj,qt]at b;simp only[js]at hn;have h:=uR (p:=65) (n:=n) (types:=types) (dk:=dk) (dn:=dn) (dp:=dp) (ds:=ds) (da:=da) (x:=r) (y:=.nd 2 d::r) (z:=r) f b.2 e (ay b.2) od ov od;rw[show bP row ⟨65,n,types,[a],.nd dk dn dp ds da⟩ (.nd 2 d::r)=dM row ⟨65,n,types,[a],.nd dk dn dp ds da⟩ r (.nd 2 d::r) r by simp[bP,standF,Ty.t]];generalize dM row _ _ _ _=c at *;cases c<;>exact aF func121 [⟨_,i⟩,⟨_,h⟩]
 | false =>
  rw[show bP row ⟨65,n,types,[a],.nd dk dn dp ds da⟩ s =.no 5 by simp[bP,h0]];exact aF func121 [⟨_,aN g h0⟩,⟨_,ag 5⟩]
def I7(l:s.all ai)(hn:s.length<=M){g:aE}(i:xg row [g] M)(h:types.all ai)(o:types.length=2) :
 Hd ⟨121,[uq 66 n types [g] dk dn dp ds da,dZ s],iH (bP row ⟨66,n,types,[g],.nd dk dn dp ds da⟩ s)⟩:=by
 have r:=ay l;have t:=i.top;have q:=ay h;obtain⟨a,d,b,e,rfl⟩:=Uk o;have f:=KZ (i.sz g oe);simp only[xj,jh5,qt,and_true]at h
 cases h0:mintsTs g with
 | true =>
  rw[h0]at f;rw[show bP row ⟨66,n,[.nd a d,.nd b e],[g],.nd dk dn dp ds da⟩ s =.no 5 by simp[bP,rowAt,h0]];exact aF func121 [⟨_,f⟩,⟨_,ag 5⟩]
 | false =>
  rw[h0]at f;have j:=lg (m:=2) (n:=2) (x:=[.nd 14 [.nd a d,.nd b e]]) (y:=s) (.inl rfl) (.inl rfl) ov;have k:=uR (p:=66) (n:=n) (types:=[.nd a d,.nd b e]) (dk:=dk) (dn:=dn) (dp:=dp) (ds:=ds) (da:=da) (x:=[.nd a d]) (y:=[.nd b e]) (z:=[.nd 14 [.nd a d,.nd b e]]++s) i (by simp[h]) (by simp[h]) (show okTs (.nd 14 [.nd a d,.nd b e]::s) from ⟨⟨⟨ot,ot⟩,q⟩,r⟩) oe oe ov;rw[show bP row ⟨66,n,[.nd a d,.nd b e],[g],.nd dk dn dp ds da⟩ s=dM row ⟨66,n,[.nd a d,.nd b e],[g],.nd dk dn dp ds da⟩ [.nd a d] [.nd b e] ([.nd 14 [.nd a d,.nd b e]]++s) by simp[bP,rowAt,h0]];generalize dM row _ _ _ _=c at *;cases c<;>exact aF func121 [⟨_,f⟩,⟨_,nR 14 [.nd a d,.nd b e]⟩,⟨_,j⟩,⟨_,k⟩]
def I9(b:s.all ai)(hn:s.length<=M){a:aE}(g:xg row [a] M) :
 Hd ⟨121,[uq 68 n types [a] dk dn dp ds da,dZ s],iH (bP row ⟨68,n,types,[a],.nd dk dn dp ds da⟩ s)⟩:=by
 have e:=ay b
 cases h0:standF s [0]with
 | true =>
  have i:=aN e h0;obtain⟨f,d,r,rfl,_⟩:=iX h0;simp only[xj,qt]at b;simp only[js]at hn;have h:=SH (p:=68) (n:=n) (types:=types) (dk:=dk) (dn:=dn) (dp:=dp) (ds:=ds) (da:=da) g b.1 b.2 od;rw[show bP row ⟨68,n,types,[a],.nd dk dn dp ds da⟩ (.nd f d::r)=l7 row ⟨68,n,types,[a],.nd dk dn dp ds da⟩ (.nd f d) r by simp[bP,standF,aJ,Ty.args,Ty.t]];generalize l7 row _ _ _=c at *;cases c<;>exact aF func121 [⟨_,i⟩,⟨_,h⟩]
 | false =>
  rw[show bP row ⟨68,n,types,[a],.nd dk dn dp ds da⟩ s =.no 5 by simp[bP,h0]];exact aF func121 [⟨_,aN e h0⟩,⟨_,ag 5⟩]
def FR(m:s.all ai)(hn:s.length<=1000):HI 119 59 n types rows dk dn dp ds da s aP:=by
 unfold HI;have b:=ay m;have c:∀{k:Int},k=6\/k=10\/k=13->standF s [k]->∃t a r,s =.nd t a::r/\aP ⟨59,n,types,rows,.nd dk dn dp ds da⟩ s=bB r [.nd 4 []]:=λhk h=>by obtain⟨a,r,rfl,_⟩:=fT od h;refine⟨_,a,r,rfl,?_⟩;rcases hk with rfl|rfl|rfl<;>simp[aP,standF,Ty.t]
 cases g:standF s [6]with
 | true =>
  have d:=aN b g;obtain⟨t,a,r,rfl,e⟩:=c (.inl rfl) g;rw[e];exact aF func119 [⟨_,d⟩,⟨_,dA 4⟩,⟨_,vS (s:=r) (top:=[.nd 4 []]) b.2 ⟨⟨⟨ot,ot⟩,trivial⟩,trivial⟩ (by simp at hn|-;omega)⟩]
 | false =>
  have d:=aN b g
  cases i:standF s [10]with
  | true =>
   have f:=aN b i;obtain⟨t,a,r,rfl,e⟩:=c (.inr (.inl rfl)) i;rw[e];exact aF func119 [⟨_,d⟩,⟨_,f⟩,⟨_,dA 4⟩,⟨_,vS (s:=r) (top:=[.nd 4 []]) b.2 ⟨⟨⟨ot,ot⟩,trivial⟩,trivial⟩ (by simp at hn|-;omega)⟩]
  | false =>
   have f:=aN b i
   cases j:standF s [13]with
   | true =>
    have l:=aN b j;obtain⟨t,a,r,rfl,e⟩:=c (.inr (.inr rfl)) j;rw[e];exact aF func119 [⟨_,d⟩,⟨_,f⟩,⟨_,l⟩,⟨_,dA 4⟩,⟨_,vS (s:=r) (top:=[.nd 4 []]) b.2 ⟨⟨⟨ot,ot⟩,trivial⟩,trivial⟩ (by simp at hn|-;omega)⟩]
   | false =>
    rw[show aP ⟨59,n,types,rows,.nd dk dn dp ds da⟩ s =.no 5 by simp[aP,g,i,j]];exact aF func119 [⟨_,d⟩,⟨_,f⟩,⟨_,aN b j⟩,⟨_,ag 5⟩]
def Zl{A A' B:A1}{ok:br}{w:cg}{v:cm}(h:∀u,gm (λ_=>none) ok w A u->gm (λ_=>none) ok w A' u)(k:iZ (λ_=>none) ok w (.rz [A,B]) v):iZ (λ_=>none) ok w (.rz [A',B]) v:=by
 have⟨d,e,c⟩:=k
 match d,c with
 | [x,y],⟨a,b,_⟩=>exact⟨_,e,h x a,b,trivial⟩
def M3(j:s.all ai)(hn:s.length<=1000):HI 124 83 n types rows dk dn dp ds da s cZ:=by
 unfold HI;have f:=ay j
 cases c:standF s [0]with
 | false =>
  rw[show cZ ⟨83,n,types,rows,.nd dk dn dp ds da⟩ s =.no 5 by simp[cZ,c]];exact aF func124 [⟨_,aN f c⟩,⟨_,ag 5⟩]
 | true =>
  have i:=aN f c;have q:=dD j hn;obtain⟨g,b,r,rfl,_⟩:=iX c
  cases a:eB (.nd g b)with
  | false =>
   rw[show cZ ⟨83,n,types,rows,.nd dk dn dp ds da⟩ (.nd g b::r) =.no 5 by simp[cZ,aJ,a]];exact aF func124 [⟨_,i⟩,⟨_,pG f.1 oE a⟩,⟨_,ag 5⟩]
  | true =>
   rw[show cZ ⟨83,n,types,rows,.nd dk dn dp ds da⟩ (.nd g b::r) =.ok true [] by simp[cZ,standF,aJ,a]];have h:Hd ⟨124,[uq 83 n types rows dk dn dp ds da,dZ (.nd g b::r)],.rz [.agg [.d (.s 0 []),.d (.v (.bool true))],iA 0]⟩:=aF func124 [⟨_,i⟩,⟨_,pG f.1 oE a⟩];exact h.conv (λ_ _ _ h=>h) (λp w v k=>Zl (A:=.agg [.d (.s 0 []),.d (.v (.bool true))]) (A':=.agg [.d (.s 2 (tysD [])),.d (.v (.bool true))]) (λu ⟨o,e,m⟩=>by
    match o,m with
    | [x,y],⟨a,l,_⟩=>exact⟨_,e,gG a,l,trivial⟩) k)
def Td{T:Ty}{t:Tr}(r:okT T)(s:okN t)(u:t.size<=4611686018427387903):Hd ⟨154,[tyA T,ndA t],.rz [.agg [.d .t,.d .t,.d .t,.d .t,.d .t,.d .t,.d .t],iA (if (jf T t).isSome then 0 else 1)]⟩:=by
 have j:∀{ok:br} {w:cg} {k l m n o p q:X} {v:cm},gm (λ_=>none) ok w (.agg [k,l,m,n,o,p,q]) v->[k,l,m,n,o,p,q].all X.plain->gm (λ_=>none) ok w anyA v:=λ⟨f,e,h⟩ c=>by
  simp only[xj,jh5,qt,ka1]at c
  match f,h with
  | [F,G,H,I,J,K,L],⟨y,z,A,B,C,D,E,_⟩=>exact⟨_,e,.t _ (jE y c.1),.t _ (jE z c.2.1),.t _ (jE A c.2.2.1),.t _ (jE B c.2.2.2.1),.t _ (jE C c.2.2.2.2.1),.t _ (jE D c.2.2.2.2.2.1),.t _ (jE E c.2.2.2.2.2.2),trivial⟩
 refine (aet r s u).conv (λ_ _ _ h=>h) (λok w v h=>?_)
 cases c:jf T t with
 | none =>
  rw[c]at h;have⟨f,e,h⟩:=h
  match f,h with
  | [a,b],⟨g,i,_⟩=>exact⟨_,e,j g rfl,i,trivial⟩
 | some x =>
  rw[c]at h;have⟨f,e,h⟩:=h
  match f,h with
  | [a,b],⟨g,i,_⟩=>exact⟨_,e,j g rfl,i,trivial⟩
def MW(i:s.all ai)(hn:s.length<=1000)(g:types.all ai)(j:types.length=1)(h:okN (.nd dk dn dp ds da))(k:(Tr.nd dk dn dp ds da).size<=4611686018427387903):HI 124 45 n types rows dk dn dp ds da s cZ:=by
 unfold HI;have l:=ay i;have f:=ay g;have m:=dD g od;obtain⟨a,b,rfl⟩:=GR j
 cases d:eB (.nd a b)with
 | false =>
  rw[show cZ ⟨45,n,[.nd a b],rows,.nd dk dn dp ds da⟩ s =.no 5 by simp[cZ,aJ,d]];exact aF func124 [⟨_,pG f.1 oE d⟩,⟨_,ag 5⟩]
 | true =>
  have e:=Td f.1 h k;have hK:=pG f.1 oE d
  cases c:(jf (.nd a b) (.nd dk dn dp ds da)).isSome with
  | false =>
   rw[c]at e;rw[show cZ ⟨45,n,[.nd a b],rows,.nd dk dn dp ds da⟩ s =.no 5 by simp only[Option.isSome_eq_false_iff,qa6]at c;simp[cZ,aJ,c]];exact aF func124 [⟨_,hK⟩,⟨_,e⟩,⟨_,ag 5⟩]
  | true =>
   rw[c]at e;rw[show cZ ⟨45,n,[.nd a b],rows,.nd dk dn dp ds da⟩ s=bB s [.nd a b] by simp[cZ,aJ,d,c]];exact aF func124 [⟨_,hK⟩,⟨_,e⟩,⟨_,vS (s:=s) (top:=[.nd a b]) l f ov⟩]
end
def KW(a:Int)(b:aw)(c:Int)(ra:aw):Hd ⟨165,[tyA (.nd a b),tyA (.nd c ra)],.of (tyA (Jt (.nd a b) (.nd c ra)))⟩ :=
 aF func165 [⟨_,nR 11 [.nd a b,.nd c ra]⟩,⟨_,nR 9 [.nd 11 [.nd a b,.nd c ra]]⟩]
def H_w3:Hd ⟨166,[iA 3],aQ true⟩:=aF func166 []
def H_w4:Hd ⟨166,[iA 4],aQ true⟩:=aF func166 []
def H_w5:Hd ⟨166,[iA 5],aQ false⟩:=aF func166 []
def Ya{a:Int}(b:a≠3)(c:a≠4):Hd ⟨166,[iA a],aQ false⟩ :=
 runT func166 [(4,fA),(7,fA)] [] (ob:=[nq a 3,nq a 4]) (by simp[oL b,oL c])
def recA:Option Ty->AV
 | some T=>.rz [tyA T,bA true]
 | none=>.rz [.agg [.d (.v (.i 0)),.d (.s 0 [])],bA false]
def Xy (p a b:Int):HL:=[⟨_,dA 4⟩,⟨_,dA 5⟩] ++
 (if a=5/\b=5 then (if p=69 then []else if p=70 then [⟨_,nR 9 [.nd 5 []]⟩]else if p=72 then [⟨_,KW 4 [] 5 []⟩]else [⟨_,H_w5⟩])
 else if p=71/\(a=5/\b=4\/a=4/\b=5)then []
 else if p=72/\a=5/\b=4 then [⟨_,KW 5 [] 5 []⟩]
 else if a=5 then [⟨_,H_w5⟩]
 else (if a=3 then [⟨_,H_w3⟩]else [⟨_,H_w4⟩])++(if b=5 then [⟨_,H_w5⟩]else (if b=3 then [⟨_,H_w3⟩]else [⟨_,H_w4⟩]) ++
  (if p=72 then (if a=4/\b=4 then [⟨_,KW 4 [] 4 []⟩]else [⟨_,dA 3⟩,⟨_,KW 3 [] 4 []⟩])else if p≠70/\a=4/\b=4 then []else [⟨_,dA 3⟩])))
def U0{p a b:Int}(h:asked (evF prog f152 (f152.body.getD .skip) [] [] ((Xy p a b).map (·.1)) [iA p,iA a,iA b])=some (recA (eF p a b),[],((Xy p a b).map (·.1)).map (λs=>s.need=s.need),[])):Hd ⟨152,[iA p,iA a,iA b],recA (eF p a b)⟩:=aF func152 (Xy p a b) h
def IZ{p a b:Int}(h:p=69\/p=70\/p=71\/p=72):Hd ⟨152,[iA p,iA a,iA b],recA (eF p a b)⟩:=by
 by_cases g:a=3\/a=4\/a=5
 .by_cases i:b=3\/b=4\/b=5
  .rcases h with rfl|rfl|rfl|rfl<;>rcases g with rfl|rfl|rfl<;>rcases i with rfl|rfl|rfl<;>exact U0 oA
  .have n:b≠3:=λe=>i (.inl e);have k:b≠4:=λe=>i (.inr (.inl e));have o:b≠5:=λe=>i (.inr (.inr e));rw[show eF p a b=none by unfold eF zC;simp[n,k,o]];have c:=oL k;have d:=oL o;have f:=Ya n k;rcases g with rfl|rfl|rfl
   .rcases h with rfl|rfl|rfl|rfl<;>exact aF func152 [⟨_,dA 4⟩,⟨_,dA 5⟩,⟨_,H_w3⟩,⟨_,f⟩]
   .rcases h with rfl|rfl|rfl|rfl
    rotate_left 2
    .exact runT func152 [(18,fA),(57,fA)] [⟨_,dA 4⟩,⟨_,dA 5⟩,⟨_,H_w4⟩,⟨_,f⟩] (ob:=[nq b 4,nq b 5]) (by simp[c,d])
    all_goals exact runT func152 [(18,fA)] [⟨_,dA 4⟩,⟨_,dA 5⟩,⟨_,H_w4⟩,⟨_,f⟩] (ob:=[nq b 4]) (by simp[c])
   .rcases h with rfl|rfl|rfl|rfl
    rotate_left 2
    .exact runT func152 [(24,fA),(50,fA)] [⟨_,dA 4⟩,⟨_,dA 5⟩,⟨_,H_w5⟩] (ob:=[nq b 5,nq b 4]) (by simp[c,d])
    .exact runT func152 [(24,fA),(80,fA)] [⟨_,dA 4⟩,⟨_,dA 5⟩,⟨_,H_w5⟩] (ob:=[nq b 5,nq b 4]) (by simp[c,d])
    all_goals exact runT func152 [(24,fA)] [⟨_,dA 4⟩,⟨_,dA 5⟩,⟨_,H_w5⟩] (ob:=[nq b 5]) (by simp[d])
 .have l:a≠3:=λe=>g (.inl e);have j:a≠4:=λe=>g (.inr (.inl e));have m:a≠5:=λe=>g (.inr (.inr e));rw[show eF p a b=none by unfold eF zC;simp[l,j,m]];have c:=oL j;have d:=oL m;have f:=Ya l j;rcases h with rfl|rfl|rfl|rfl
  rotate_left 2
  .exact runT func152 [(15,fA),(21,fA),(47,fA),(54,fA)] [⟨_,dA 4⟩,⟨_,dA 5⟩,⟨_,f⟩] (ob:=[nq a 4,nq a 5,nq a 5,nq a 4]) (by simp[c,d])
  .exact runT func152 [(15,fA),(21,fA),(76,fA)] [⟨_,dA 4⟩,⟨_,dA 5⟩,⟨_,f⟩] (ob:=[nq a 4,nq a 5,nq a 5]) (by simp[c,d])
  all_goals exact runT func152 [(15,fA),(21,fA)] [⟨_,dA 4⟩,⟨_,dA 5⟩,⟨_,f⟩] (ob:=[nq a 4,nq a 5]) (by simp[c,d])
def xZ{p a b:Int}{T:Ty}(h:eF p a b=some T):okT T/\∃t l,T =.nd t l:=by
 unfold eF at h
 repeat' split at h
 all_goals first
  | (cases h;done)
  | (simp only[qq]at h;subst h;exact⟨by simp[okT,okTs,Jt,bD],_,_,rfl⟩)
section
variable {n:Int}{types:aw}{rows:List aE}{dk dn dp:Int}{ds:bp}{da:aE}{s:aw}
def xe{p:Int}(c:p=69\/p=70\/p=71\/p=72)(v:s.all ai)(hn:s.length<=1000):Hd ⟨122,[uq p n types rows dk dn dp ds da,dZ s],iH (bJ ⟨p,n,types,rows,.nd dk dn dp ds da⟩ s)⟩:=by
 have m:=ay v;have j:Hd ⟨151,[iA p],aQ true⟩:=by
  rcases c with rfl|rfl|rfl|rfl
  .exact H_two69
  .exact H_two70
  .exact H_two71
  .exact H_two72
 cases h0:standF s [0,0]with
 | false =>
  have e:bJ ⟨p,n,types,rows,.nd dk dn dp ds da⟩ s =.no 5:=by rcases c with rfl|rfl|rfl|rfl<;>simp[bJ,h0]
  rw[e];have d:=aN m h0;rcases c with rfl|rfl|rfl|rfl<;>exact aF func122 [⟨_,j⟩,⟨_,d⟩,⟨_,ag 5⟩]
 | true =>
  have d:=aN m h0;obtain⟨g,o,w,rfl,u⟩:=iX h0;obtain⟨h,q,r,rfl,_⟩:=iX u;have f:=IZ (a:=g) (b:=h) c
  cases e:eF p g h with
  | none =>
   rw[e]at f;have i:bJ ⟨p,n,types,rows,.nd dk dn dp ds da⟩ (.nd g o :: .nd h q::r) =.no 5:=by rcases c with rfl|rfl|rfl|rfl<;>simp[bJ,standF,aJ,Ty.t,e]
   rw[i];rcases c with rfl|rfl|rfl|rfl<;>exact aF func122 [⟨_,j⟩,⟨_,d⟩,⟨_,f⟩,⟨_,ag 5⟩]
  | some T =>
   rw[e]at f;obtain⟨hk,t,l,rfl⟩:=xZ e;have i:bJ ⟨p,n,types,rows,.nd dk dn dp ds da⟩ (.nd g o :: .nd h q::r)=bB r [.nd t l]:=by rcases c with rfl|rfl|rfl|rfl<;>simp[bJ,standF,aJ,Ty.t,e]
   rw[i];have k:=vS (s:=r) (top:=[.nd t l]) m.2.2 ⟨hk,trivial⟩ (by simp only[js,qa1]at *;omega);rcases c with rfl|rfl|rfl|rfl<;>exact aF func122 [⟨_,j⟩,⟨_,d⟩,⟨_,f⟩,⟨_,k⟩]
end
section
variable {n:Int}{types:aw}{rows:List aE}{dk dn dp:Int}{ds:bp}{da:aE}{s:aw}
def MM(y:0<=n)(r:s.all ai)(hn:s.length<=1000):HI 117 41 n types rows dk dn dp ds da s dG:=by
 unfold HI;have v:=ay r;have C:=dD r hn
 by_cases g:1<=n
 .by_cases i:n<=((tysD s).length:Int)
  .have o:=i;rw[eY]at o;obtain⟨m,rfl⟩:∃m:Nat,n=Int.ofNat (m+1):=⟨n.toNat - 1,ov⟩;have w:m<s.length:=by simp at o;omega
   have⟨t,a,q⟩:∃t a,s[m]?=some (.nd t a):=by rw[qu w];cases s[m];exact⟨_,_,rfl⟩
   have d:=ka q;have l:=okTs_at.1 v _ d;have A:=jS d;have z:=EK q;have f:aJ s m =.nd t a:=by unfold aJ;rw[q];rfl
   have u:=is_le g;have x:=is_le i;have B:=yY (zF (a:=Int.ofNat (m+1) - 1) (b:=Int.ofNat m) oe oe ov);have k:(Int.ofNat (m+1)).toNat - 1=m:=oe
   cases j:A7 (.nd t a)with
   | true =>
    have e:dG ⟨41,Int.ofNat (m+1),types,rows,.nd dk dn dp ds da⟩ s=bB s [.nd t a]:=by unfold dG;rw[if_neg oe,if_pos ⟨rfl,g,o,by rw[k,f];exact j⟩,k,f]
    rw[e];exact runT func117 [(27,bA true),(34,bA true),(40,jA m),(41,.one (.e (tyD (.nd t a)) 0)),(49,jA m),(50,.one (.e (tyD (.nd t a)) 0))] [⟨_,Ak l od j⟩,⟨_,vS (s:=s) (top:=[.nd t a]) v ⟨l,trivial⟩ ov⟩]
     (ob:=[mD (aQ (decide (1<=Int.ofNat (m+1)))) (bA true),mD (aQ (decide (Int.ofNat (m+1)<=((tysD s).length:Int)))) (bA true),mD (lW (IntKind.i64.wrap (Int.ofNat (m+1) - 1))) (jA m),OQ s m t a,mD (lW (IntKind.i64.wrap (Int.ofNat (m+1) - 1))) (jA m),OQ s m t a]) (by
     intro p c;simp only[kl,qf2,or_false]at c;rcases c with rfl|rfl|rfl|rfl|rfl|rfl<;>assumption)
   | false =>
    have e:dG ⟨41,Int.ofNat (m+1),types,rows,.nd dk dn dp ds da⟩ s =.no 5:=by unfold dG;rw[if_neg oe,if_neg (by rw[k,f,j];simp),if_neg oe,if_neg oe,if_neg oe]
    rw[e];exact runT func117 [(27,bA true),(34,bA true),(40,jA m),(41,.one (.e (tyD (.nd t a)) 0))] [⟨_,Ak l od j⟩,⟨_,ag 5⟩]
     (ob:=[mD (aQ (decide (1<=Int.ofNat (m+1)))) (bA true),mD (aQ (decide (Int.ofNat (m+1)<=((tysD s).length:Int)))) (bA true),mD (lW (IntKind.i64.wrap (Int.ofNat (m+1) - 1))) (jA m),OQ s m t a]) (by
     intro p c;simp only[kl,qf2,or_false]at c;rcases c with rfl|rfl|rfl|rfl<;>assumption)
  .have e:dG ⟨41,n,types,rows,.nd dk dn dp ds da⟩ s =.no 5:=by
    rw[eY]at i;unfold dG;rw[if_neg oe,if_neg (by rintro⟨_,_,h,_⟩;exact i h),if_neg oe,if_neg oe,if_neg oe]
   rw[e];have u:=is_le g;have x:=QA i;exact runT func117 [(27,bA true),(34,bA false)] [⟨_,ag 5⟩] (ob:=[mD (aQ (decide (1<=n))) (bA true),mD (aQ (decide (n<=((tysD s).length:Int)))) (bA false)]) (by intro p c;simp only[kl,qf2,or_false]at c;rcases c with rfl|rfl<;>assumption)
 .have e:dG ⟨41,n,types,rows,.nd dk dn dp ds da⟩ s =.no 5:=by
   unfold dG;rw[if_neg oe,if_neg (by rintro⟨_,h,_⟩;exact g h),if_neg oe,if_neg oe,if_neg oe]
  rw[e];have u:=QA g;exact runT func117 [(27,bA false)] [⟨_,ag 5⟩] (ob:=[mD (aQ (decide (1<=n))) (bA false)]) (by intro p c;simp only[kl,qf2,or_false]at c;subst c;assumption)
def uD{a b:aw}(d:okTs a)(hb:okTs b):okTs (a++b):=okTs_at.2 λT c=>by
 rcases ki.1 c with h|h
 .exact okTs_at.1 d T h
 .exact okTs_at.1 hb T h
def jD{a:aw}(c:okTs a)(k:Nat):okTs (a.drop k):=okTs_at.2 λT b=>okTs_at.1 c T (qh2 b)
def nW{a:aw}(c:okTs a)(k:Nat):okTs (a.take k):=okTs_at.2 λT b=>okTs_at.1 c T (qe6 b)
def MO(u:0<=n)(o:s.all ai)(hn:s.length<=1000):HI 117 43 n types rows dk dn dp ds da s dG:=by
 unfold HI;have i:=ay o
 by_cases b:n<((tysD s).length:Int)
 .have d:=b;rw[eY]at d;obtain⟨m,rfl⟩:∃m:Nat,n=Int.ofNat m:=⟨n.toNat,ov⟩;have l:m<s.length:=by simpa using d
  have⟨t,a,f⟩:∃t a,s[m]?=some (.nd t a):=by rw[qu l];cases s[m];exact⟨_,_,rfl⟩
  have k:=okTs_at.1 i _ (ka f);have v:=EK f;have g:aJ s m =.nd t a:=by unfold aJ;rw[f];rfl
  have w:=is_lt b;have A:mD (lW (IntKind.i64.wrap (Int.ofNat m+1))) (jA (m+1)):=yY (zF oe ov ov);have q:=Qf (s:=s) (m:=m) od;have r:=Qg (s:=s) (m:=m+1) od;have j:(Int.ofNat m).toNat=m:=oe
  have e:dG ⟨43,Int.ofNat m,types,rows,.nd dk dn dp ds da⟩ s=bB (s.take m++s.drop (m+1)) [.nd t a]:=by unfold dG;rw[if_neg oe,if_neg oe,if_neg oe,if_pos ⟨rfl,d⟩,j,g]
  rw[e];exact runT func117 [(86,bA true),(91,dZ (s.take m)),(95,jA (m+1)),(96,dZ (s.drop (m+1))),(102,.one (.e (tyD (.nd t a)) 0))] [⟨_,lg (x:=s.take m) (y:=s.drop (m+1)) (m:=2) (n:=2) (.inl rfl) (.inl rfl) ov⟩,⟨_,vS (s:=s.take m++s.drop (m+1)) (top:=[.nd t a]) (uD (nW i m) (jD i (m+1))) ⟨k,trivial⟩ ov⟩]
   (ob:=[mD (aQ (decide (Int.ofNat m<((tysD s).length:Int)))) (bA true),qA 2 (tysD s) (some 0) (some (some m))=some (.of (dZ (s.take m))),mD (lW (IntKind.i64.wrap (Int.ofNat m+1))) (jA (m+1)),qA 2 (tysD s) (some (m+1)) (some none)=some (.of (dZ (s.drop (m+1)))),OQ s m t a]) (by
   intro p c;simp only[kl,qf2,or_false]at c;rcases c with rfl|rfl|rfl|rfl|rfl<;>assumption)
 .have e:dG ⟨43,n,types,rows,.nd dk dn dp ds da⟩ s =.no 5:=by
   rw[eY]at b;unfold dG;rw[if_neg oe,if_neg oe,if_neg oe,if_neg (by rintro⟨_,h⟩;exact b h),if_neg oe]
  rw[e];have z:=wH b;exact runT func117 [(86,bA false)] [⟨_,ag 5⟩] (ob:=[mD (aQ (decide (n<((tysD s).length:Int)))) (bA false)]) (by intro p c;simp only[kl,qf2,or_false]at c;subst c;assumption)
def MP(o:0<=n)(g:s.all ai)(hn:s.length<=1000):HI 117 44 n types rows dk dn dp ds da s dG:=by
 unfold HI;have d:=ay g
 by_cases a:n<((tysD s).length:Int)
 .have c:=a;rw[eY]at c;obtain⟨m,rfl⟩:∃m:Nat,n=Int.ofNat m:=⟨n.toNat,ov⟩;have q:m<s.length:=by simpa using c
  have r:=is_lt a;have u:mD (lW (IntKind.i64.wrap (Int.ofNat m+1))) (jA (m+1)):=yY (zF oe ov ov);have i:=Qf (s:=s) (m:=1) od;have j:=Qg (s:=s) (m:=m+1) od;have k:=TU (s:=s) (l:=1) (m:=m+1) od od;have f:(Int.ofNat m).toNat=m:=oe
  have e:dG ⟨44,Int.ofNat m,types,rows,.nd dk dn dp ds da⟩ s=bB (s.take 1++s.drop (m+1)) ((s.take (m+1)).drop 1):=by unfold dG;rw[if_neg oe,if_neg oe,if_neg oe,if_neg oe,if_pos ⟨rfl,c⟩,f,List.drop_take];simp
  rw[e];exact runT func117 [(117,bA true),(120,dZ (s.take 1)),(124,jA (m+1)),(125,dZ (s.drop (m+1))),(131,jA (m+1)),(132,dZ ((s.take (m+1)).drop 1))] [⟨_,lg (x:=s.take 1) (y:=s.drop (m+1)) (m:=2) (n:=2) (.inl rfl) (.inl rfl) ov⟩,⟨_,vS (s:=s.take 1++s.drop (m+1)) (top:=(s.take (m+1)).drop 1) (uD (nW d 1) (jD d (m+1))) (jD (nW d (m+1)) 1) ov⟩]
   (ob:=[mD (aQ (decide (Int.ofNat m<((tysD s).length:Int)))) (bA true),qA 2 (tysD s) (some 0) (some (some 1))=some (.of (dZ (s.take 1))),mD (lW (IntKind.i64.wrap (Int.ofNat m+1))) (jA (m+1)),qA 2 (tysD s) (some (m+1)) (some none)=some (.of (dZ (s.drop (m+1)))),mD (lW (IntKind.i64.wrap (Int.ofNat m+1))) (jA (m+1)),qA 2 (tysD s) (some 1) (some (some (m+1)))=some (.of (dZ ((s.take (m+1)).drop 1)))]) (by
   intro p b;simp only[kl,qf2,or_false]at b;rcases b with rfl|rfl|rfl|rfl|rfl|rfl<;>assumption)
 .have e:dG ⟨44,n,types,rows,.nd dk dn dp ds da⟩ s =.no 5:=by
   rw[eY]at a;unfold dG;rw[if_neg oe,if_neg oe,if_neg oe,if_neg oe,if_neg (by rintro⟨_,h⟩;exact a h)]
  rw[e];have t:=wH a;exact runT func117 [(117,bA false)] [⟨_,ag 5⟩] (ob:=[mD (aQ (decide (n<((tysD s).length:Int)))) (bA false)]) (by intro p b;simp only[kl,qf2,or_false]at b;subst b;assumption)
def FZ{p:Int}(h:p<40\/95<p):Hd ⟨126,[uq p n types rows dk dn dp ds da,dZ s],iH (dO ⟨p,n,types,rows,.nd dk dn dp ds da⟩ s)⟩:=by
 have e:dO ⟨p,n,types,rows,.nd dk dn dp ds da⟩ s =.no 5:=by unfold dO;rw[if_neg ov,if_neg ov,if_neg ov]
 rw[e];have b:=oL (a:=p) (k:=88) od;have c:=oL (a:=p) (k:=89) od;have d:=oL (a:=p) (k:=90) od;have f:=oL (a:=p) (k:=91) od;have g:=oL (a:=p) (k:=92) od;exact runT func126 [(9,fA),(39,fA),(43,fA),(54,fA),(58,fA)] [⟨_,ag 5⟩] (ob:=[nq p 88,nq p 89,nq p 90,nq p 91,nq p 92]) (by simp[b,c,d,f,g])
end
