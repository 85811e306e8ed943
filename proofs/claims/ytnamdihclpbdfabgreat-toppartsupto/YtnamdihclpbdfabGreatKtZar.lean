import Derived.Test.YtnamdihclpbdfabGreatKtZaq
namespace Go.Proofs.YtnamdihclpbdfabGreat
set_option linter.all false
open Go.Proofs.Tryz
set_option maxRecDepth 100000
set_option maxHeartbeats 4000000
open Pe
def mi (z:bp) (n e:Int):List X:=[.d (.v (.string z)),.d (.v (.i n)),.d (.v (.i e))]
def fK{f:FuncId}{b:Func}(g:prog.funcs[f]?=some b)(T:Hints)(d:HL){args:List A1}{res:AV}{c a:Hp}{ob:List Prop}
 (hob:∀p∈ob,p) (h:askedX (evX prog b (b.body.getD .skip) T [] (d.map (·.1)) args c a)=some ((res,(a.bx.map (λe=>some e.2),a.ls.map (λe=>some e.2))),[],(d.map (·.1)).map (λs=>s.need=s.need),ob):=by kernel_rfl)
 (hno:(@Sp.mk f args res mv0 fr0 ⟨c,a⟩).no=false:=by rfl) (hb:b.body.isSome:=by kernel_rfl) (hn:(b.name == "runtime.NumGoroutine")=false:=by kernel_rfl):HX f args res c a:=bH g T [] d oe hob h hno hb hn
def ny(z:bp)(n e x:Int):HB 255 (mi z n e) [iA x] (.rz []) (mi z n (if e=0 then x else e)):=by
 by_cases h:e=0
 .subst h;exact fK func255 [] [] al0
 .rw[if_neg h];exact fK func255 [(8,bA false)] [] (al (eT (xb h)) al0)
def lu (z:bp) (e:Int) (n:Nat):bp×bp×Int :=
 if z.size<n then (⟨#[]⟩,z,if e=0 then 1 else e)else if e=0 then (z.extract 0 n,z.extract n z.size,0)else (⟨#[]⟩,z,e)
def BQ(z:bp)(n e:Int)(k:Nat):HB 267 (mi z n e) [jA k] (.of (.one (.d (.v (.string (lu z e k).1))))) (mi (lu z e k).2.1 n (lu z e k).2.2):=by
 unfold lu
 by_cases h:z.size<k
 .rw[if_pos h];have hF:=ny z n e 1;have a:jJ (decide ((z.size:Int)<Int.ofNat k)) true:=eT (zj ot);have c:(if e=0 then 1 else e)≠0:=by split<;>omega
  generalize (if e=0 then (1:Int)else e)=d at *;have f:jJ (!decide (d=0)) true:=eT (by simp[c]);exact fK func267 [(12,bA true),(19,bA true)] [⟨_,hF⟩] (al a (al f al0))
 .rw[if_neg h];have a:jJ (decide ((z.size:Int)<Int.ofNat k)) false:=eT (xb ot)
  by_cases b:e=0
  .subst b;rw[if_pos rfl];have g:Sn z (some 0) (some k)=some (.of (.one (.d (.v (.string (z.extract 0 k)))))):=if_pos ⟨yb _,od⟩;have i:Sn z (some k) (some z.size)=some (.of (.one (.d (.v (.string (z.extract k z.size)))))):=if_pos ⟨od,jn _⟩;exact fK func267 [(12,bA false),(25,.one (.d (.v (.string (z.extract 0 k))))),(32,.one (.d (.v (.string (z.extract k z.size)))))] [] (al a (al g (al i al0)))
  .rw[if_neg b];have f:jJ (!decide (e=0)) true:=eT (by simp[b]);exact fK func267 [(12,bA false),(19,bA true)] [] (al a (al f al0))
def take_one(b:UInt8)(l:bw):(bs (b::l)).extract 0 1=bs [b]/\(bs (b::l)).extract 1 (bs (b::l)).size=bs l:=by rw[eQ];exact⟨TM _ 1 oe,TL (b::l) 1⟩
def zw{x:Int}{m:Nat}(h:x=(m:Int)):mD (kA .i64 x) (jA m):=by rw[h];rfl
def xN(b:UInt8)(l:bw)(n:Int):HB 262 (mi (bs (b::l)) n 0) [] (.of (jA b.toNat)) (mi (bs l) n 0):=by
 have h:=BQ (bs (b::l)) n 0 1;have e:lu (bs (b::l)) 0 1=(bs [b],bs l,0):=by unfold lu;rw[if_neg (by rw[eQ];simp),if_pos rfl,(take_one b l).1,(take_one b l).2]
 rw[e]at h;have a:jJ ((bs [b]).toList==ByteArray.toList ⟨#[]⟩) false:=eT (by simp[bs,ByteArray.toList,ByteArray.toList.loop,ByteArray.size,ByteArray.get!]);have c:aaF (bs [b]) 0=some (.of (.one (.d (.v (.int .u8 (b.toNat:Int)))))):=rfl;have f:mD (kA .i64 (IntKind.i64.wrap (b.toNat:Int))) (jA b.toNat):=zw (wNq _ (by have:=b.toNat_lt;omega));exact fK func262 [(7,bA false),(9,.one (.d (.v (.int .u8 (b.toNat:Int))))),(10,jA b.toNat)] [⟨_,h⟩] (al a (al c (al f al0)))
def Jd(z:bp)(n e:Int)(h:(lu z e 1).1=⟨#[]⟩):HB 262 (mi z n e) [] (.of (jA 0)) (mi (lu z e 1).2.1 n (lu z e 1).2.2):=by have a:=BQ z n e 1;rw[h]at a;exact fK func262 [(7,bA true)] [⟨_,a⟩] (al (show jJ (ByteArray.toList ⟨#[]⟩==ByteArray.toList ⟨#[]⟩) true from eT (by rw[jg2])) al0)
def xV(n:Int):HB 262 (mi (bs []) n 0) [] (.of (jA 0)) (mi (bs []) n 1):=Jd (bs []) n 0 rfl
def UT(z:bp)(n:Int){e:Int}(h:e≠0):HB 262 (mi z n e) [] (.of (jA 0)) (mi z n e):=by
 have a:lu z e 1=(⟨#[]⟩,z,e):=by unfold lu;rw[if_neg h,if_neg h];split<;>rfl
 have:=Jd z n e (by rw[a]);rwa [a]at this
def H_len61:Hd ⟨268,[.one (.d (.v (.int .u64 1152921504606846976)))],.of (iA 61)⟩:=⟨tF func268,λc w b h=>by
 match b,h with
 | [u],⟨a,_⟩ =>
  rw[bW a];refine (DL w).mono ?_;rintro e w' ⟨rfl,rfl⟩;exact⟨bf _ _,_,rfl,fI.v _⟩⟩
def nuQ (z:bp) (n e:Int) (f:Nat) (g:Bool) (size last:Nat):St:=[((0,0),.of (.one (.p 800300 0))),((800301,0),.of (.one (.d (.v (.string z))))),((800301,1),.of (iA n)),((800301,2),.of (iA e)),((0,3),.of (jA f)),((0,4),.of (bA g)),((0,5),.of (jA size)),((0,6),.of (jA last))]
def Qo (z:bp) (n e:Int) (f:Nat) (g:Bool) (size last sh:Nat):St:=((0,7),.of (jA sh))::nuQ z n e f g size last
def nuR (z:bp) (n e:Int):St:=[((0,2),.of (jA 0)),((800301,0),.of (.one (.d (.v (.string z))))),((800301,1),.of (iA n)),((800301,2),.of (iA e))]
abbrev nuL (b:Nat->Option Nat) (S:St) (ex:Nat) (q:St):Prop:=@vO (qh b) prog f263.ntmps ⟨gF f263,S,ex,q⟩
def Db(b:Nat->Option Nat)(f:Nat)(z:bp)(n e:Int)(g:Bool)(a sh:Nat){last:Nat}(h:last<128):nuL b (Qo z n e f g a last sh) 2 (nuQ z n e f g a last) :=
 fF (e:=1) [(18,bA false)] [] (al (show jJ (decide ((128:Int)<=Int.ofNat last)) false from eT (xb ot)) al0)
def Qp(f:Nat)(n:Int)(g:Bool):∀(k sh size:Nat) (last:UInt8) (l:bw),k<=8->sh=6+7*(8 - k)->size<2 ^ sh ->
 (match numTail k sh size last l with
 | some (s,E,D)=>s<4611686018427387904/\∀b,nuL b (Qo (bs l) n 0 f g size last.toNat sh) 2 (nuQ (bs D) n 0 f g s E.toNat)
 | none=>128<=last.toNat/\∃z,(∀b,nuL b (Qo (bs l) n 0 f g size last.toNat sh) 1 (nuR z n 1))\/∃s,s<4611686018427387904/\∀b,nuL b (Qo (bs l) n 0 f g size last.toNat sh) 2 (nuQ z n 1 f g s 0))
 | 0,sh,size,last,l,hk,a,w=>by
  by_cases h:last.toNat<128
  .rw[wK _ _ _ _ _ h];exact⟨by have:=Kb _ hk;rw[<-a]at this;omega,λb=>Db b f _ n 0 g size sh h⟩
  .rw[show numTail 0 sh size last l=none by rw[numTail];simp[h]];have hF:=ny (bs l) n 0 1;rw[if_pos rfl]at hF;have o:jJ (decide ((128:Int)<=Int.ofNat last.toNat)) true:=eT (zj ot);have t:jJ (decide ((61:Int)<=Int.ofNat sh)) true:=eT (zj ot);exact⟨od,bs l,.inl (λb=>fF (e:=0) [(18,bA true),(23,bA true)] [⟨_,H_len61⟩,⟨_,hF⟩] (al o (al t al0)))⟩
 | k+1,sh,size,last,l,hk,a,w=>by
  by_cases h:last.toNat<128
  .rw[wK _ _ _ _ _ h];exact⟨by have:=Kb _ hk;rw[<-a]at this;omega,λb=>Db b f _ n 0 g size sh h⟩
  .have o:jJ (decide ((128:Int)<=Int.ofNat last.toNat)) true:=eT (zj ot);have t:jJ (decide ((61:Int)<=Int.ofNat sh)) false:=eT (xb ot);have A:mD (lW (IntKind.i64.wrap (Int.ofNat sh+7))) (jA (sh+7)):=yY (zF oe ot ot);have j:∀x:Nat,x<256->∀p∈[mD (kA .i64 (bits .and .i64 (Int.ofNat x) 127)) (jA (x % 128)),mD (kA .i64 (IntKind.i64.wrap (Int.ofNat (x % 128)*2 ^ min (Int.ofNat sh).toNat IntKind.i64.bits))) (jA (x % 128*2 ^ sh)),mD (kA .i64 (bits .or .i64 (Int.ofNat size) (Int.ofNat (x % 128*2 ^ sh)))) (jA (size+x % 128*2 ^ sh))],p:=λx H=>by
    have G:2 ^ sh<=36028797018963968:=by rw[show (36028797018963968:Nat)=2 ^ 55 by decide +kernel];exact Nat.pow_le_pow_right od od
    have B:x % 128*2 ^ sh<=127*2 ^ sh:=qh2 _ od;have m:=(Xt sh size (x % 128) w od od).1;have e:((x % 128:Nat):Int)*2 ^ sh=((x % 128*2 ^ sh:Nat):Int):=by push_cast;rfl
    rw[e,KS _ od]at m;refine al (zw (Jc x od)) (al (zw ?_) (al (zw m) al0));rw[show min (Int.ofNat sh).toNat IntKind.i64.bits=sh from jc6 (by show sh<=64;omega)];exact (congrArg IntKind.i64.wrap e).trans (wNq _ od)
   cases l with
   | nil =>
    rw[zR _ _ _ _ h];have u:=xV n;have d:=j 0 ov;have v:=λb=>Db b f (bs []) n 1 g (size+0 % 128*2 ^ sh) (sh+7) (last:=0) ov;exact⟨od,bs [],.inr ⟨_,by have:=Kb _ hk;rw[<-a]at this;omega,λb=>jC [(18,bA true),(23,bA false),(30,jA (0 % 128)),(32,jA (0 % 128*2 ^ sh)),(33,jA (size+0 % 128*2 ^ sh)),(20,jA (sh+7))] [⟨_,H_len61⟩,⟨_,u⟩] (v b) (al o (al t (jX d (al A al0))))⟩⟩
   | cons c l =>
    rw[xX _ _ _ _ _ _ h];have m:=Xt sh size (c.toNat % 128) w od od;have i:=Qp f n g k (sh+7) (size+c.toNat % 128*2 ^ sh) c l od od m.2;have u:=xN c l n;have d:=j c.toNat c.toNat_lt;have F:=λ(b:Nat->Option Nat) {ex:Nat} {q:St} (v:nuL b (Qo (bs l) n 0 f g (size+c.toNat % 128*2 ^ sh) c.toNat (sh+7)) ex q)=>(jC [(18,bA true),(23,bA false),(30,jA (c.toNat % 128)),(32,jA (c.toNat % 128*2 ^ sh)),(33,jA (size+c.toNat % 128*2 ^ sh)),(20,jA (sh+7))] [⟨_,H_len61⟩,⟨_,u⟩] v (al o (al t (jX d (al A al0)))):nuL b (Qo (bs (c::l)) n 0 f g size last.toNat sh) ex q)
    cases y:numTail k (sh+7) (size+c.toNat % 128*2 ^ sh) c l with
    | some r=>rw[y]at i;exact⟨i.1,λb=>F b (i.2 b)⟩
    | none =>
     rw[y]at i;have⟨_,z,C⟩:=i;exact⟨od,z,C.imp (λh b=>F b (h b)) (λ⟨s,h0,h⟩=>⟨s,h0,λb=>F b (h b)⟩)⟩
def PM{f:Nat}{g:Bool}(b:f / 64 % 2=if g then 1 else 0)(a:f<256):∀p∈[mD (kA .i64 (bits .and .i64 (Int.ofNat f) 64)) (jA (if g then 64 else 0)),mD (kA .i64 (bits .and .i64 (Int.ofNat f) 63)) (jA (f % 64))],p:=by refine al (zw ?_) (al (zw (Le f od)) al0);have:=VZ f a;rw[b]at this;exact this.trans (by cases g<;>rfl)
def aaE{n:Int}(a:-9223372036854775808<=n)(b:n<=9223372036854775807):IntKind.i64.wrap n=n:=vf
def Ye{f s r:Nat}{c:UInt8}{l:bw}{z:bp}{n e:Int}{g:Bool}(hc:c.toNat=f)(K:f / 64 % 2=if g then 1 else 0)(P:s<4611686018427387904)(I:∀b,nuL b (Qo (bs l) n 0 f g (f % 64) f 6) 2 (nuQ z n e f g s r)) :
 HB 263 (mi (bs (c::l)) n 0) [] (.of (if (128<=f/\r=0)\/1152921504606846976<s\/(g/\s=0)then jA 0 else iA (if g then -(s:Int)else s))) (mi z n (if (128<=f/\r=0)\/1152921504606846976<s\/(g/\s=0)then (if e=0 then 1 else e)else e)):=by
 have i:=xN c l n;have J:=c.toNat_lt;rw[hc]at i J;have hF:=ny z n e 1;generalize (if e=0 then (1:Int)else e)=y at *;have O:=PM K J;have j:∀p∈_,p:=wI (S:=Qo (bs l) n 0 f g (f % 64) f 6) (q:=gF f263=gF f263) rfl (ps:=[mD (kA .i64 (bits .and .i64 (Int.ofNat f) 64)) (jA (if g then 64 else 0)),mD (kA .i64 (bits .and .i64 (Int.ofNat f) 63)) (jA (f % 64))]) O;have M:mD (kA .i64 (IntKind.i64.wrap (0 - Int.ofNat s))) (iA (-(s:Int))):=by rw[show (0 - Int.ofNat s:Int) = -(s:Int) from Int.zero_sub _,aaE od od];rfl
 clear K P;have N:∀(a b:Nat),(Int.ofNat a<=Int.ofNat b)=(a<=b):=λa b=>propext Int.ofNat_le;have⟨E,A⟩:∃b,decide ((128:Int)<=Int.ofNat f)=b:=⟨_,rfl⟩;have⟨v,B⟩:∃b,decide (Int.ofNat r=0)=b:=⟨_,rfl⟩;have⟨t,C⟩:∃b,decide ((1152921504606846976:Int)<Int.ofNat s)=b:=⟨_,rfl⟩;have⟨w,D⟩:∃b,decide (Int.ofNat s=0)=b:=⟨_,rfl⟩;have F:(128<=f)=(E):=by rw[<-A,jt];exact propext ⟨λh=>ot,λh=>by simp at h;omega⟩
 have y:(r=0)=(v):=by rw[<-B,jt];exact propext ⟨λh=>by simp[h],λh=>by simpa using h⟩
 have G:(1152921504606846976<s)=(t):=by rw[<-C,jt];exact propext ⟨λh=>ot,λh=>by simp at h;omega⟩
 have H:(s=0)=(w):=by rw[<-D,jt];exact propext ⟨λh=>by simp[h],λh=>by simpa using h⟩
 simp only[F,y,G,H];have k:=eT A;have o:=eT B;have m:=eT C;have u:=eT D;have d:∀b,∀x∈[(⟨gF f263,Qo (bs l) n 0 f g (f % 64) f 6,2,nuQ z n e f g s r⟩:Lp)],@vO (qh b) prog f263.ntmps x:=λb x L=>by rw[qu]at L;subst L;exact I b
 clear I F y G H A B C D N;cases g<;>cases E
 .cases t
  .exact bH func263 [(12,jA 0),(15,jA (f % 64)),(35,bA false),(43,bA false)] _ [⟨_,i⟩] d (jX j (al k (al m al0)))
  .exact bH func263 [(12,jA 0),(15,jA (f % 64)),(35,bA false),(43,bA true)] _ [⟨_,i⟩,⟨_,hF⟩] d (jX j (al k (al m al0)))
 .cases v
  .cases t
   .exact bH func263 [(12,jA 0),(15,jA (f % 64)),(35,bA true),(38,bA false),(43,bA false)] _ [⟨_,i⟩] d (jX j (al k (al o (al m al0))))
   .exact bH func263 [(12,jA 0),(15,jA (f % 64)),(35,bA true),(38,bA false),(43,bA true)] _ [⟨_,i⟩,⟨_,hF⟩] d (jX j (al k (al o (al m al0))))
  .exact bH func263 [(12,jA 0),(15,jA (f % 64)),(35,bA true),(38,bA true)] _ [⟨_,i⟩,⟨_,hF⟩] d (jX j (al k (al o al0)))
 .cases t
  .cases w
   .exact bH func263 [(12,jA 64),(15,jA (f % 64)),(35,bA false),(43,bA false),(49,bA false),(56,iA (-(s:Int)))] _ [⟨_,i⟩] d (jX j (al k (al m (al u (al M al0)))))
   .exact bH func263 [(12,jA 64),(15,jA (f % 64)),(35,bA false),(43,bA false),(49,bA true)] _ [⟨_,i⟩,⟨_,hF⟩] d (jX j (al k (al m (al u al0))))
  .exact bH func263 [(12,jA 64),(15,jA (f % 64)),(35,bA false),(43,bA true)] _ [⟨_,i⟩,⟨_,hF⟩] d (jX j (al k (al m al0)))
 .cases v
  .cases t
   .cases w
    .exact bH func263 [(12,jA 64),(15,jA (f % 64)),(35,bA true),(38,bA false),(43,bA false),(49,bA false),(56,iA (-(s:Int)))] _ [⟨_,i⟩] d (jX j (al k (al o (al m (al u (al M al0))))))
    .exact bH func263 [(12,jA 64),(15,jA (f % 64)),(35,bA true),(38,bA false),(43,bA false),(49,bA true)] _ [⟨_,i⟩,⟨_,hF⟩] d (jX j (al k (al o (al m (al u al0)))))
   .exact bH func263 [(12,jA 64),(15,jA (f % 64)),(35,bA true),(38,bA false),(43,bA true)] _ [⟨_,i⟩,⟨_,hF⟩] d (jX j (al k (al o (al m al0))))
  .exact bH func263 [(12,jA 64),(15,jA (f % 64)),(35,bA true),(38,bA true)] _ [⟨_,i⟩,⟨_,hF⟩] d (jX j (al k (al o al0)))
def Jb(l:bw)(n:Int):match pNum l with
 | some (m,v)=>HB 263 (mi (bs l) n 0) [] (.of (iA m)) (mi (bs v) n 0)
 | none=>∃z,HB 263 (mi (bs l) n 0) [] (.of (jA 0)) (mi z n 1):=by
 cases l with
 | nil =>
  refine⟨bs [],?_⟩;have k:=xV n;exact bH func263 [] [⟨gF f263,Qo (bs []) n 1 0 false 0 0 6,2,nuQ (bs []) n 1 0 false 0 0⟩] [⟨_,k⟩] (λb x a=>by rw[qu]at a;subst a;exact Db b 0 (bs []) n 1 false 0 6 ov) (wI (S:=Qo (bs []) n 1 0 false 0 0 6) (q:=gF f263=gF f263) rfl (ps:=[]) al0)
 | cons f l =>
  have y:=f.toNat_lt;have⟨g,j⟩:∃g:Bool,f.toNat / 64 % 2=if g then 1 else 0:=by
   rcases (show f.toNat / 64 % 2=0\/f.toNat / 64 % 2=1 by omega)with h|h
   .exact⟨false,h⟩
   .exact⟨true,h⟩
  have i:=Qp f.toNat n g 8 6 (f.toNat % 64) f l ov rfl od;rw[pNum]
  cases t:numTail 8 6 (f.toNat % 64) f l with
  | none =>
   rw[t]at i;obtain⟨o,z,h|⟨s,A,h⟩⟩:=i
   .refine⟨z,?_⟩;have k:=xN f l n;have u:∀p∈_,p:=wI (S:=Qo (bs l) n 0 f.toNat g (f.toNat % 64) f.toNat 6) (q:=gF f263=gF f263) rfl (ps:=[mD (kA .i64 (bits .and .i64 (Int.ofNat f.toNat) 64)) (jA (if g then 64 else 0)),mD (kA .i64 (bits .and .i64 (Int.ofNat f.toNat) 63)) (jA (f.toNat % 64))]) (PM j y);cases g
    .exact bH func263 [(12,jA 0),(15,jA (f.toNat % 64))] [_] [⟨_,k⟩] (λb x a=>by rw[qu]at a;subst a;exact h b) u
    .exact bH func263 [(12,jA 64),(15,jA (f.toNat % 64))] [_] [⟨_,k⟩] (λb x a=>by rw[qu]at a;subst a;exact h b) u
   .have:=Ye (c:=f) rfl j A h;rw[if_pos (.inl ⟨o,rfl⟩),if_pos (.inl ⟨o,rfl⟩),if_neg ov]at this;exact⟨z,this⟩
  | some r =>
   have⟨s,B,v⟩:=r;rw[t]at i;have:=Ye (c:=f) rfl j i.1 i.2;have e:(f.toNat / 64 % 2=1/\s=0)=(g/\s=0):=by rw[j];cases g<;>simp
   have w:(f.toNat / 64 % 2=1)=(g):=by rw[j];cases g<;>simp
   simp only[e,w]
   by_cases d:(128<=f.toNat/\B.toNat=0)\/1152921504606846976<s\/(g/\s=0)
   .rw[if_pos d,if_pos d,if_pos rfl]at this;rw[if_pos d];exact⟨_,this⟩
   .rw[if_neg d,if_neg d]at this;rw[if_neg d];exact this
def Fp(z:bp)(n:Int){e:Int}(h:e≠0):HB 263 (mi z n e) [] (.of (jA 0)) (mi z n e) :=
 bH func263 [] [⟨gF f263,Qo z n e 0 false 0 0 6,2,nuQ z n e 0 false 0 0⟩] [⟨_,UT z n h⟩] (λb x a=>by rw[qu]at a;subst a;exact Db b 0 z n e false 0 6 ov) (wI (S:=Qo z n e 0 false 0 0 6) (q:=gF f263=gF f263) rfl (ps:=[]) al0)
def UR(z:bp)(n:Int){e:Int}(h:e≠0):HB 269 (mi z n e) [] (.of (jA 0)) (mi z n e):=fK func269 [] [⟨_,Fp z n h⟩] al0
def Oa(l:bw)(n:Int):match kR l with
 | some (m,b)=>HB 269 (mi (bs l) n 0) [] (.of (jA m)) (mi (bs b) n 0)
 | none=>∃z,HB 269 (mi (bs l) n 0) [] (.of (jA 0)) (mi z n 1):=by
 have h:=Jb l n;unfold kR
 cases c:pNum l with
 | none =>
  rw[c]at h;have⟨z,h⟩:=h;exact⟨z,fK func269 [] [⟨_,h⟩] al0⟩
 | some r =>
  have⟨m,b⟩:=r;rw[c]at h;simp only at h|-
  by_cases a:m<0
  .rw[if_pos a];have hF:=ny (bs b) n 0 1;rw[if_pos rfl]at hF;exact⟨bs b,fK func269 [(7,bA true)] [⟨_,h⟩,⟨_,hF⟩] (al (is_lt a) al0)⟩
  .rw[if_neg a];obtain⟨k,rfl⟩:=Int.eq_ofNat_of_zero_le (show 0<=m by omega);exact fK func269 [(7,bA false)] [⟨_,h⟩] (al (wH a) al0)
def abR(l:bw)(n:Int):match yf l with
 | some (s,a)=>HB 264 (mi (bs l) n 0) [] (.of (.one (.d (.v (.string (bs s)))))) (mi (bs a) n 0)
 | none=>∃z,HB 264 (mi (bs l) n 0) [] (.of (.one (.d (.v (.string ⟨#[]⟩))))) (mi z n 1):=by
 have h:=Oa l n;unfold yf
 cases f:kR l with
 | none =>
  rw[f]at h;have⟨z,h⟩:=h;have b:=BQ z n 1 0;rw[show lu z 1 0=(⟨#[]⟩,z,1) by unfold lu;rw[oa,if_neg ov]]at b;exact⟨z,fK func264 [] [⟨_,h⟩,⟨_,b⟩] al0⟩
 | some r =>
  have⟨m,a⟩:=r;rw[f]at h;simp only at h|-
  by_cases i:200<m
  .rw[if_pos (.inl i)];have hF:=ny (bs a) n 0 1;rw[if_pos rfl]at hF;have b:=BQ (bs a) n 1 m;have e:(lu (bs a) 1 m)=(⟨#[]⟩,bs a,1):=by unfold lu;rw[if_neg (show ¬(1:Int)=0 by decide),if_neg (show ¬(1:Int)=0 by decide)];split<;>rfl
   rw[e]at b;exact⟨bs a,fK func264 [(7,bA true)] [⟨_,h⟩,⟨_,hF⟩,⟨_,b⟩] (al (show jJ (decide ((200:Int)<Int.ofNat m)) true from eT (zj ot)) al0)⟩
  .have g:jJ (decide ((200:Int)<Int.ofNat m)) false:=eT (xb ot);have b:=BQ (bs a) n 0 m
   by_cases c:a.length<m
   .rw[if_pos (.inr c)];rw[show lu (bs a) 0 m=(⟨#[]⟩,bs a,1) by unfold lu;rw[if_pos (by rw[eQ];exact c),if_pos rfl]]at b;exact⟨bs a,fK func264 [(7,bA false)] [⟨_,h⟩,⟨_,b⟩] (al g al0)⟩
   .rw[oa];rw[show lu (bs a) 0 m=(bs (a.take m),bs (a.drop m),0) by unfold lu;rw[if_neg (by rw[eQ];exact c),if_pos rfl,TM _ _ od,eQ,TL]]at b;exact fK func264 [(7,bA false)] [⟨_,h⟩,⟨_,b⟩] (al g al0)
def zr:Tr->bd
 | .nd k n p s []=>[.v (.i k),.v (.i n),.v (.i p),.v (.string s),.s 0 []]
 | .nd k n p s (x::a)=>[.v (.i k),.v (.i n),.v (.i p),.v (.string s),.s 5 (ndsD (x::a))]
def ndY (t:Tr):A1:=.agg ((zr t).map .d)
def lsZ:aE->A1
 | []=>nilA
 | t::ts=>CW (t::ts)
def adC(t:Tr):L2 Ja (zr t) (ndD t):=by
 obtain⟨k,n,p,s,_|⟨x,a⟩⟩:=t
 .exact⟨.inl rfl,.inl rfl,.inl rfl,.inl rfl,.inr ⟨rfl,5,ov,rfl⟩,trivial⟩
 .exact row_refl _
def lsS (ts:aE) (c:Nat):St:=match ts with
 | []=>[((0,5),.of nilA)]
 | t::ts=>[((0,5),.of (.one (.g 3000026 5 c))),((3000027,0),.kv 51 5 (ndsD (t::ts)))]
def arQ (z:bp) (n e:Int) (ts:aE) (c:Nat):St:=[((800301,0),.of (.one (.d (.v (.string z))))),((800301,1),.of (iA n)),((800301,2),.of (iA e))]++lsS ts c
def ZL (z:bp) (n e dep:Int) (left:Nat) (ts:aE) (c:Nat):St:=[((0,0),.of (.one (.p 800300 0))),((0,1),.of (iA dep)),((0,6),.of (jA left))]++arQ z n e ts c
abbrev arL (b:Nat->Option Nat) (S:St) (ex:Nat) (q:St):Prop:=@vO (qh b) prog f266.ntmps ⟨gF f266,S,ex,q⟩
def A8(b:Nat->Option Nat)(z:bp)(n e a:Int)(ts:aE)(c:Nat):arL b (ZL z n e a 0 ts c) 2 (arQ z n e ts c):=by
 cases ts with
 | nil=>exact fF (e:=1) [] [] al0
 | cons t ts=>exact fF (e:=1) [] [] al0
def aao(b:Nat->Option Nat)(z:bp)(n a:Int){e:Int}(g:e≠0)(left:Nat)(ts:aE)(c:Nat):arL b (ZL z n e a (left+1) ts c) 2 (arQ z n e ts c):=by
 have d:jJ (decide ((0:Int)<Int.ofNat (left+1))) true:=eT (zj (Int.ofNat_lt.2 (Nat.succ_pos _)));have f:jJ (decide (e=0)) false:=eT (xb g)
 cases ts with
 | nil=>exact fF (e:=1) [(10,bA true),(16,bA false)] [] (al d (al f al0))
 | cons t ts=>exact fF (e:=1) [(10,bA true),(16,bA false)] [] (al d (al f al0))
def Ia(b:Nat->Option Nat){z w:bp}{n v o c:Int}{left:Nat}{ts:aE}{t:Tr}{ex:Nat}{q:St}(A:0<=c/\c<=100)(r:ts.length<=400)(y:left<=2000000000000000000)(g:HB 254 (mi z n 0) [iA (c+1)] (.of (ndY t)) (mi w v o))(h:arL b (ZL w v o c left (ts++[t]) (ts.length+1)) ex q):arL b (ZL z n 0 c (left+1) ts ts.length) ex q:=by
 have i:jJ (decide ((0:Int)<Int.ofNat (left+1))) true:=eT (zj (Int.ofNat_lt.2 (Nat.succ_pos _)));have j:mD (lW (IntKind.i64.wrap (c+1))) (iA (c+1)):=yY vf;have l:mD (lW (IntKind.i64.wrap (Int.ofNat (left+1) - 1))) (jA left):=yY ZD;have e:rowsLe ((ndsD ts).take ts.length++[zr t]) (ndsD (ts++[t])):=by rw[ndsD_map,ndsD_map,ub oe,ux];exact vG (adC t) _
 have f:zV 64 ts.length (ndsD ts) [zr t]:=iL (by rw[ndsD_map];simp) oe (by obtain⟨k,n,p,s,_|⟨x,a⟩⟩:=t<;>rfl) ot ov;obtain⟨k,m,p,s,_|⟨x,a⟩⟩:=t<;>rcases ts with _|⟨u,ts⟩
 .exact jC [(10,bA true),(23,iA (c+1)),(2000026,.one (.d (.s 5 (ndsD [.nd k m p s []])))),(19,jA left)] [⟨_,g⟩] h (al i (al j (al e (al f (al l al0)))))
 .exact jC [(10,bA true),(23,iA (c+1)),(2000026,.one (.d (.s 5 (ndsD (u::ts++[.nd k m p s []]))))),(19,jA left)] [⟨_,g⟩] h (al i (al j (al e (al f (al l al0)))))
 .exact jC [(10,bA true),(23,iA (c+1)),(2000026,.one (.d (.s 5 (ndsD [.nd k m p s (x::a)])))),(19,jA left)] [⟨_,g⟩] h (al i (al j (al e (al f (al l al0)))))
 .exact jC [(10,bA true),(23,iA (c+1)),(2000026,.one (.d (.s 5 (ndsD (u::ts++[.nd k m p s (x::a)]))))),(19,jA left)] [⟨_,g⟩] h (al i (al j (al e (al f (al l al0)))))
def FC (dep:Int) (f:Nat->bw->Except Int (Tr×Nat×bw)):Prop:=∀(n:Nat) (l:bw),n<=300->match f n l with
 | .ok (t,n',l')=>n'<=300/\n<n'/\HB 254 (mi (bs l) (n:Int) 0) [iA dep] (.of (ndY t)) (mi (bs l') (n':Int) 0)
 | .error e=>e≠0/\∃(t:Tr) (z:bp) (m:Int),HB 254 (mi (bs l) (n:Int) 0) [iA dep] (.of (ndY t)) (mi z m e)
def Ov{a:Int}{f:Nat->bw->Except Int (Tr×Nat×bw)}(g:0<=a/\a<=100)(o:FC (a+1) f):∀(c n:Nat) (l:bw) (ts:aE),n<=300->ts.length<=n->c<=2000000000000000000->(match zm f c n l with
 | .ok (us,k,x)=>k<=300/\n<=k/\∀b,arL b (ZL (bs l) n 0 a c ts ts.length) 2 (arQ (bs x) k 0 (ts++us) (ts++us).length)
 | .error e=>e≠0/\∃(us:aE) (z:bp) (m:Int),∀b,arL b (ZL (bs l) n 0 a c ts ts.length) 2 (arQ z m e us us.length))
 | 0,n,l,ts,j,w,v=>by rw[zm];simp only[qb0];exact⟨j,jn _,λb=>A8 b _ _ _ _ _ _⟩
 | c+1,n,l,ts,j,w,v=>by
  have h:=o n l j;rw[zm]
  cases p:f n l with
  | error e =>
   rw[p]at h;have⟨i,t,z,m,h⟩:=h;refine⟨i,ts++[t],z,m,λb=>Ia b g od od h ?_⟩;rw[ju]
   cases c with
   | zero=>exact A8 b _ _ _ _ _ _
   | succ c=>exact aao b _ _ _ i _ _ _
  | ok r =>
   have⟨t,n1,s⟩:=r;rw[p]at h;have⟨u,y,h⟩:=h;have d:=Ov g o c n1 s (ts++[t]) u ot od;rw[ju]at d;simp only
   cases q:zm f c n1 s with
   | error e =>
    rw[q]at d;have⟨i,us,z,m,d⟩:=d;exact⟨i,us,z,m,λb=>Ia b g od od h (d b)⟩
   | ok r =>
    have⟨us,B,A⟩:=r;rw[q]at d;have⟨g1,g2,d⟩:=d;refine⟨g1,od,λb=>Ia b g od od h ?_⟩;have:=d b;rwa [qa6]at this
def N9(z:bp)(n a:Int){e:Int}(h:e≠0):HB 266 (mi z n e) [iA a] (.of nilA) (mi z n e) :=
 bH func266 [] [⟨gF f266,ZL z n e a 0 [] 0,2,arQ z n e [] 0⟩] [⟨_,UR z n h⟩] (λb x c=>by rw[qu]at c;subst c;exact A8 b z n e a [] 0) (wI (S:=ZL z n e a 0 [] 0) (q:=gF f266=gF f266) rfl (ps:=[]) al0)
def Nv{z g m:bp}{n n1 l f i a:Int}{c:Nat}{us:aE}(j:HB 269 (mi z n 0) [] (.of (jA c)) (mi g n1 f))(h:∀b,arL b (ZL g n1 f a c [] 0) 2 (arQ m l i us us.length)):HB 266 (mi z n 0) [iA a] (.of (lsZ us)) (mi m l i):=by
 have k:∀p∈_,p:=wI (S:=ZL g n1 f a c [] 0) (q:=gF f266=gF f266) rfl (ps:=[]) al0;have e:us.length=(ndsD us).length:=by simp[ndsD_map]
 cases us with
 | nil=>exact bH func266 [] [_] [⟨_,j⟩] (λb x d=>by rw[qu]at d;subst d;exact h b) k
 | cons u us=>exact bH func266 [] [_] [⟨_,j⟩] (λb x d=>by rw[qu]at d;subst d;exact h b) (jX k (al e al0))
def UQ{a:Int}{f:Nat->bw->Except Int (Tr×Nat×bw)}(p:0<=a/\a<=100)(s:FC (a+1) f)(n:Nat)(l:bw)(hn:n<=300):match pQ f n l with
 | .ok (g,j,t)=>j<=300/\n<=j/\HB 266 (mi (bs l) n 0) [iA a] (.of (lsZ g)) (mi (bs t) j 0)
 | .error e=>e≠0/\∃(g:aE) (z:bp) (m:Int),HB 266 (mi (bs l) n 0) [iA a] (.of (lsZ g)) (mi z m e):=by
 have d:=Oa l (n:Int);unfold pQ
 cases i:kR l with
 | none =>
  rw[i]at d;have⟨z,d⟩:=d;exact⟨ov,[],z,n,Nv d (λb=>A8 b _ _ _ _ _ _)⟩
 | some r =>
  have⟨c,o⟩:=r;rw[i]at d;have h:=Ov p s c n o [] hn (yb _) (by have:=(sF i).1;omega);simp only[qe4]at h|-
  cases k:zm f c n o with
  | error e =>
   rw[k]at h;have⟨q,g,z,m,h⟩:=h;exact⟨q,g,z,m,Nv d h⟩
  | ok r =>
   have⟨g,v,u⟩:=r;rw[k]at h;exact⟨h.1,h.2.1,Nv d h.2.2⟩
def Ve(k:Int):Hd ⟨174,[iA k],aQ (Lf.gD k)⟩:=jM (bK func174) λc w b h=>by
 match b,h with
 | [u],⟨a,_⟩ =>
  rw[bW a];refine (Lf.rQ k w).mono ?_;rintro e w' ⟨rfl,rfl⟩;exact⟨rfl,bf _ _⟩
def YH{z b:bp}{n e a:Int}{k:Nat}(c:HB 262 (mi z n e) [] (.of (jA k)) (mi b n a)):HB 265 (mi z n e) [] (.of (jA k)) (mi b n (if Lf.gD k then a else if a=0 then 1 else a)):=by
 have hF:=ny b n a 1;generalize (if a=0 then (1:Int)else a)=f at *;have d:=Ve (Int.ofNat k);have e:Lf.gD (k:Int)=Lf.gD (Int.ofNat k):=rfl;rw[e];generalize Lf.gD (Int.ofNat k)=g at *;cases g
 .exact fK func265 [] [⟨_,c⟩,⟨_,d⟩,⟨_,hF⟩] al0
 .exact fK func265 [] [⟨_,c⟩,⟨_,d⟩] al0
def ZU{a:Int}(h:24<a):FC a (pNode 0):=λn l d=>by
 refine⟨ov,.nd 0 0 0 ⟨#[]⟩ [],bs l,n,?_⟩;have hF:=ny (bs l) n 0 4;rw[if_pos rfl]at hF;have c:=is_lt h
 by_cases b:(n:Int)=300
 .exact fK func254 [(10,bA true)] [⟨_,hF⟩] (al (eT (zj b)) al0)
 .exact fK func254 [(10,bA false),(13,bA true)] [⟨_,hF⟩] (al (eT (xb b)) (al c al0))
def ZV{g:Int}{d:Nat}(J:0<=g/\g<=24)(D:FC (g+1) (λn l=>pNode d n l)):FC g (pNode (d+1)):=λn l K=>by
 unfold pNode;have o:=wH (a:=24) (b:=g) od
 by_cases C:n=300
 .rw[if_pos C];have hF:=ny (bs l) n 0 4;rw[if_pos rfl]at hF;exact⟨ov,.nd 0 0 0 ⟨#[]⟩ [],bs l,n,fK func254 [(10,bA true)] [⟨_,hF⟩] (al (show jJ (decide ((n:Int)=300)) true from eT (zj od)) al0)⟩
 rw[if_neg C];have j:jJ (decide ((n:Int)=300)) false:=eT (xb od);have p:mD (lW (IntKind.i64.wrap (Int.ofNat n+1))) (jA (n+1)):=yY (zF oe ot ot)
 cases l with
 | nil =>
  have f:=xV ((n+1:Nat):Int);have i:=Fp (bs []) ((n+1:Nat):Int) (e:=1) ov;exact⟨ov,.nd 0 0 0 ⟨#[]⟩ [],bs [],((n+1:Nat):Int),fK func254 [(10,bA false),(13,bA false),(22,jA (n+1))] [⟨_,f⟩,⟨_,i⟩] (al j (al o (al p al0)))⟩
 | cons b l =>
  have f:=xN b l ((n+1:Nat):Int);simp only
  by_cases h0:b.toNat=0
  .rw[if_pos h0];rw[h0]at f;have i:=Jb l ((n+1:Nat):Int)
   cases s:pNum l with
   | none =>
    rw[s]at i;have⟨z,i⟩:=i;exact⟨ov,.nd 0 0 0 ⟨#[]⟩ [],z,((n+1:Nat):Int),fK func254 [(10,bA false),(13,bA false),(22,jA (n+1))] [⟨_,f⟩,⟨_,i⟩] (al j (al o (al p al0)))⟩
   | some r =>
    have⟨m,B⟩:=r;rw[s]at i;exact⟨od,od,fK func254 [(10,bA false),(13,bA false),(22,jA (n+1))] [⟨_,f⟩,⟨_,i⟩] (al j (al o (al p al0)))⟩
  rw[if_neg h0]
  by_cases v:b.toNat=1
  .rw[if_pos v];rw[v]at f;have i:=abR l ((n+1:Nat):Int)
   cases s:yf l with
   | none =>
    rw[s]at i;have⟨z,i⟩:=i;exact⟨ov,.nd 1 0 0 ⟨#[]⟩ [],z,((n+1:Nat):Int),fK func254 [(10,bA false),(13,bA false),(22,jA (n+1))] [⟨_,f⟩,⟨_,i⟩] (al j (al o (al p al0)))⟩
   | some r =>
    have⟨m,B⟩:=r;rw[s]at i;exact⟨od,od,fK func254 [(10,bA false),(13,bA false),(22,jA (n+1))] [⟨_,f⟩,⟨_,i⟩] (al j (al o (al p al0)))⟩
  rw[if_neg v]
  by_cases w:b.toNat=2
  .rw[if_pos w];rw[w]at f
   cases l with
   | nil =>
    have u:=YH (xV ((n+1:Nat):Int));rw[if_neg ov,if_neg ov]at u;have c:=N9 (bs []) ((n+1:Nat):Int) g (e:=1) ov;exact⟨ov,.nd 2 0 0 ⟨#[]⟩ [],bs [],((n+1:Nat):Int),fK func254 [(10,bA false),(13,bA false),(22,jA (n+1))] [⟨_,f⟩,⟨_,u⟩,⟨_,c⟩] (al j (al o (al p al0)))⟩
   | cons q l =>
    have u:=YH (xN q l ((n+1:Nat):Int));simp only
    by_cases y:Lf.gD q.toNat=false
    .rw[if_pos y];rw[if_neg (by rw[y];decide),if_pos rfl]at u;have c:=N9 (bs l) ((n+1:Nat):Int) g (e:=1) ov;exact⟨ov,.nd 2 0 q.toNat ⟨#[]⟩ [],bs l,((n+1:Nat):Int),fK func254 [(10,bA false),(13,bA false),(22,jA (n+1))] [⟨_,f⟩,⟨_,u⟩,⟨_,c⟩] (al j (al o (al p al0)))⟩
    .rw[if_neg y];rw[if_pos (by simpa using y)]at u;have c:=UQ od D (n+1) l od
     cases s:pQ (λn l=>pNode d n l) (n+1) l with
     | error e =>
      rw[s]at c;have⟨A,t,z,m,c⟩:=c;refine⟨A,.nd 2 0 q.toNat ⟨#[]⟩ t,z,m,?_⟩;cases t<;>exact fK func254 [(10,bA false),(13,bA false),(22,jA (n+1))] [⟨_,f⟩,⟨_,u⟩,⟨_,c⟩] (al j (al o (al p al0)))
     | ok r =>
      have⟨t,E,B⟩:=r;rw[s]at c;refine⟨c.1,od,?_⟩;have c:=c.2.2;cases t<;>exact fK func254 [(10,bA false),(13,bA false),(22,jA (n+1))] [⟨_,f⟩,⟨_,u⟩,⟨_,c⟩] (al j (al o (al p al0)))
  rw[if_neg w]
  by_cases x:b.toNat=3
  .rw[if_pos x];rw[x]at f;have c:=UQ od D (n+1) l od
   cases s:pQ (λn l=>pNode d n l) (n+1) l with
   | error e =>
    rw[s]at c;have⟨A,t,z,m,c⟩:=c;refine⟨A,.nd 3 0 0 ⟨#[]⟩ t,z,m,?_⟩;cases t<;>exact fK func254 [(10,bA false),(13,bA false),(22,jA (n+1))] [⟨_,f⟩,⟨_,c⟩] (al j (al o (al p al0)))
   | ok r =>
    have⟨t,E,B⟩:=r;rw[s]at c;refine⟨c.1,od,?_⟩;have c:=c.2.2;cases t<;>exact fK func254 [(10,bA false),(13,bA false),(22,jA (n+1))] [⟨_,f⟩,⟨_,c⟩] (al j (al o (al p al0)))
  .rw[if_neg x];have hF:=ny (bs l) ((n+1:Nat):Int) 0 1;rw[if_pos rfl]at hF;have q:∀m:Nat,b.toNat≠m->jJ (decide (Int.ofNat b.toNat=(m:Int))) false:=λm h=>eT (xb (λe=>h (Int.ofNat.inj e)));have F:=q 0 h0;have G:=q 1 v;have H:=q 2 w;have I:=q 3 x;generalize b.toNat=k at *;exact⟨ov,.nd k 0 0 ⟨#[]⟩ [],bs l,((n+1:Nat):Int),fK func254 [(10,bA false),(13,bA false),(22,jA (n+1)),(33,bA false),(38,bA false),(43,bA false),(52,bA false)] [⟨_,f⟩,⟨_,hF⟩] (al j (al o (al p (al F (al G (al H (al I al0)))))))⟩
def B_node:∀d:Nat,d<=24->FC ((25 - d:Nat):Int) (pNode d)
 | 0,_=>ZU ov
 | d+1,h=>ZV od (by rw[show (((25 - (d+1):Nat):Int)+1)=((25 - d:Nat):Int) by omega];exact B_node d od)
def NZ{z:bp}(h:z=⟨#[]⟩):jJ (!(z.toList==ByteArray.toList ⟨#[]⟩)) false:=eT (by subst h;rw[Bool.not_eq_false',jg2])
def Zz{z:bp}(h:z≠⟨#[]⟩):jJ (!(z.toList==ByteArray.toList ⟨#[]⟩)) true:=eT (by rw[qh1,ja0];intro e;rw[jc5,jc5]at e;apply h;cases z;simpa using e)
def acB{s z:bp}{t:Tr}{m e:Int}(f:e≠0)(h:HB 254 (mi s 0 0) [iA 1] (.of (ndY t)) (mi z m e)):Hd ⟨246,[.one (.d (.v (.string s)))],.rz [ndY (.nd 0 0 0 ⟨#[]⟩ []),iA e]⟩:=by
 have hF:=ny z m e 1;rw[if_neg f]at hF;have c:jJ (!decide (e=0)) true:=eT (by simp[f]);obtain⟨tk,tn,tp,g,_|⟨x,a⟩⟩:=t<;>by_cases b:z=⟨#[]⟩
 .exact runT func246 [(15,bA false),(22,bA true)] [⟨_,HX.to h 800300 8⟩] (al (NZ b) (al c al0))
 .exact runT func246 [(15,bA true),(22,bA true)] [⟨_,HX.to h 800300 8⟩,⟨_,HX.to hF 800300 8⟩] (al (Zz b) (al c al0))
 .exact runT func246 [(15,bA false),(22,bA true)] [⟨_,HX.to h 800300 8⟩] (al (NZ b) (al c al0))
 .exact runT func246 [(15,bA true),(22,bA true)] [⟨_,HX.to h 800300 8⟩,⟨_,HX.to hF 800300 8⟩] (al (Zz b) (al c al0))
def acO(l:bw):Hd ⟨246,[.one (.d (.v (.string (bs l))))],match pNode 24 0 l with
 | .error e=>.rz [ndY (.nd 0 0 0 ⟨#[]⟩ []),iA e]
 | .ok (t,_,b)=>if b=[]then .rz [ndY t,iA 0]else .rz [ndY (.nd 0 0 0 ⟨#[]⟩ []),iA 1]⟩:=by
 have h:=B_node 24 (jn _) 0 l (yb _)
 cases f:pNode 24 0 l with
 | error e =>
  rw[f]at h;have⟨g,t,z,m,h⟩:=h;exact acB g h
 | ok r =>
  have⟨t,n,b⟩:=r;rw[f]at h;have h:=h.2.2;simp only
  by_cases c:b=[]
  .subst c;rw[if_pos rfl];obtain⟨tk,tn,tp,j,_|⟨x,a⟩⟩:=t<;>exact runT func246 [(15,bA false)] [⟨_,HX.to h 800300 8⟩] (al (NZ rfl) al0)
  .rw[if_neg c];have i:bs b≠⟨#[]⟩:=λe=>c (by have:=congrArg ByteArray.size e;rw[eQ]at this;exact jx this);have hF:=ny (bs b) n 0 1;rw[if_pos rfl]at hF;obtain⟨tk,tn,tp,j,_|⟨x,a⟩⟩:=t<;>exact runT func246 [(15,bA true)] [⟨_,HX.to h 800300 8⟩,⟨_,HX.to hF 800300 8⟩] (al (Zz i) al0)
def aci{l:bw}{e:Int}(h:pNode 24 0 l =.error e):e≠0:=by have:=B_node 24 (jn _) 0 l (yb _);rw[h]at this;exact this.1
open Go.ChangeShapes Go.WideShapes Go.ChangeAt Go.RowKit
def CQ(a:bp)(m:Nat)(c:a.size=m+1)(hm:m<=1000)(d:a.extract 0 1=⟨#[5]⟩)(W:cg):Calls prog 261 #[.string a,.string ⟨#[5]⟩] W λe w'=>e =.returned (.bool true)/\w'=W:=by
 have b:(⟨#[5]⟩:bp).size=1:=rfl;have f:(1:Int)<=(m:Int)+1:=od
 go_enter func261,ntmps261;go_wp2;go_ret;exact⟨rfl,rfl⟩
def A9(a r:bp)(m:Nat)(c:a.size=m+1)(hm:m<=1000)(d:a.extract 0 1=⟨#[5]⟩)(g:a.extract 1 (m+1)=r)(W:cg):Calls prog 253 #[.string a,.string ⟨#[5]⟩] W λe w'=>e =.returned (.tuple #[.string r,.bool true])/\w'=W:=by
 have b:=jh (CQ a m c hm d);have f:(⟨#[5]⟩:bp).size=1:=rfl;have h:(1:Int)<=(m:Int)+1:=od
 go_enter func253,ntmps253;go_wp2_with fail;refine (b _).mono ?_;rintro e i ⟨rfl,rfl⟩;go_wp2_with fail;go_ret2;exact⟨rfl,rfl⟩
def CO(a r:bp)(m:Nat)(c:a.size=m+1)(hm:m<=1000)(d:a.extract 0 1=⟨#[5]⟩)(f:a.extract 1 (m+1)=r)(W:cg):Calls prog 245 #[.string a,.string ⟨#[5]⟩] W λe w'=>e =.returned (.tuple #[.string r,.bool true])/\w'=W:=by have b:=jh (A9 a r m c hm d f);go_enter func245,ntmps245;go_wp2_with fail;refine (b _).mono ?_;rintro e g ⟨rfl,rfl⟩;go_wp2_with fail;go_ret2;exact⟨rfl,rfl⟩
def ZC(l:bw):(⟨((5:UInt8)::l).toArray⟩:bp).size=l.length+1/\(⟨((5:UInt8)::l).toArray⟩:bp).extract 0 1=⟨#[5]⟩/\(⟨((5:UInt8)::l).toArray⟩:bp).extract 1 (l.length+1)=bs l:=by
 refine⟨by simp[ByteArray.size],?_,?_⟩
 .apply ByteArray.ext;simp[je5]
 .apply ByteArray.ext;simp[je5,bs]
def Ae(a:bp)(c:a.size=0)(W:cg):Calls prog 261 #[.string a,.string ⟨#[5]⟩] W λe w'=>e =.returned (.bool false)/\w'=W:=by have b:(⟨#[5]⟩:bp).size=1:=rfl;go_enter func261,ntmps261;go_wp2;go_ret;exact⟨rfl,rfl⟩
def Ad(a:bp)(m:Nat)(d:a.size=m+1)(hm:m<=1000000000000)(b:(a.extract 0 1).toList≠[5])(W:cg):Calls prog 261 #[.string a,.string ⟨#[5]⟩] W λe w'=>e =.returned (.bool false)/\w'=W:=by
 have c:(⟨#[5]⟩:bp).size=1:=rfl;have g:(1:Int)<=(m:Int)+1:=od
 have f:((a.extract 0 1).toList==[5])=false:=by simpa using b
 go_enter func261,ntmps261;go_wp2;go_ret;exact⟨rfl,rfl⟩
def xu(a:bp)(H:∀W,Calls prog 261 #[.string a,.string ⟨#[5]⟩] W λe w'=>e =.returned (.bool false)/\w'=W)(W:cg):Calls prog 245 #[.string a,.string ⟨#[5]⟩] W λe w'=>e =.returned (.tuple #[.string a,.bool false])/\w'=W:=by
 have c:Hid (∀W,Calls prog 253 #[.string a,.string ⟨#[5]⟩] W λe w'=>e =.returned (.tuple #[.string a,.bool false])/\w'=W):=by intro W;have b:=jh H;clear H;go_enter func253,ntmps253;go_wp2_with fail;refine (b _).mono ?_;rintro e d ⟨rfl,rfl⟩;go_wp2_with fail;go_ret2;exact⟨rfl,rfl⟩
 clear H;go_enter func245,ntmps245;go_wp2_with fail;refine (c _).mono ?_;rintro e d ⟨rfl,rfl⟩;go_wp2_with fail;go_ret2;exact⟨rfl,rfl⟩
def Xi{b:UInt8}{r:bw}(hb:b≠5):((⟨(b::r).toArray⟩:bp).extract 0 1).toList≠[5]:=by intro h;apply hb;rw[jc5]at h;simp[je5]at h;exact h
def Na(b:UInt8)(r:bw):(⟨(b::r).toArray⟩:bp).size=r.length+1:=by simp[ByteArray.size]
def QT:(⟨([]:bw).toArray⟩:bp).size=0:=rfl
def ER{l:bw}{t:Tr}(h:mE l =.ok t):dS t=0/\encTr t=l:=by
 unfold mE at h
 cases b:pNode 24 0 l with
 | error e=>rw[b]at h;simp at h
 | ok r =>
  have⟨i,g,f⟩:=r;rw[b]at h;simp only at h
  by_cases a:f=[]
  .rw[if_pos a]at h;injection h with h;subst h;subst a;have⟨d,j,k,c⟩:=pU 24 od 0 l i g [] od b;rw[show 25 - 24=1 from rfl]at c;refine⟨?_,by rw[d];simp⟩;unfold dS;rw[if_neg (by simpa using c),oa]
  .rw[if_neg a]at h;simp at h
section
abbrev suA (s:bp):A1:=.one (.d (.v (.string s)))
def O8{a r:bp}{b:Bool}(h:∀W,Calls prog 245 #[.string a,.string ⟨#[5]⟩] W λe w'=>e =.returned (.tuple #[.string r,.bool b])/\w'=W):Hd ⟨245,[suA a,suA ⟨#[5]⟩],.rz [suA r,bA b]⟩:=⟨tF func245,λok w j i=>by
 match j,i with
 | [u,v],⟨f,g,_⟩ =>
  rw[bW f,bW g];exact (h w).mono λe w' ⟨c,d⟩=>⟨d ▸ bf _ _,_,c,[_,_],rfl,.v _,.v _,trivial⟩⟩
def ndZ:A1:=.agg [.d (.v (.i 0)),.d (.v (.i 0)),.d (.v (.i 0)),.d (.v (.string ⟨#[]⟩)),.d (.s 0 [])]
def decA:Except Int Tr->AV
 | .ok t=>.rz [ndA t,iA 0]
 | .error x=>.rz [ndZ,iA (if x=0 then 1 else x)]
def XH(r:Except Int Tr):(decA r).keys=[]:=by
 cases r with
 | ok t=>show (ndA t).keys++((iA 0).keys++[])=[];rw[yC];rfl
 | error x=>rfl
def ac6(t:Tr){ok:br}{w:cg}{v:cm}(h:gm (λ_=>none) ok w (ndY t) v):gm (λ_=>none) ok w (ndA t) v:=by
 obtain⟨k,n,p,s,_|⟨x,a⟩⟩:=t
 .have⟨j,e,b⟩:=h
  match j,b with
  | [l,m,o,q,r],⟨c,d,f,g,i,_⟩=>exact⟨_,e,c,d,f,g,gG i,trivial⟩
 .exact h
def Pb{l:bw} : Hd ⟨246,[suA (bs l)],decA (mE l)⟩:=by
 have h:=acO l;unfold mE
 cases d:pNode 24 0 l with
 | error e =>
  rw[d]at h;rw[show decA (.error e) =.rz [ndZ,iA e] by simp only[decA,if_neg (aci d)]];exact h
 | ok r =>
  have⟨t,n,i⟩:=r;rw[d]at h;simp only at h|-
  by_cases c:i=[]
  .rw[if_pos c]at h|-;exact h.conv (λ_ _ _ h=>h) (λok w v h=>by
    have⟨j,e,c⟩:=h
    match j,c with
    | [a,b],⟨f,g,_⟩=>exact⟨_,e,ac6 t f,g,trivial⟩) (nk:=XH (.ok t))
  .rw[if_neg c]at h|-;exact h
def SX{T:Ty}(b:okT T)(a:T.size<=50000000):Hd ⟨187,[tyA T],aQ (eB T)⟩:=U4 a
def Ps{T:Ty}{l:bw}(v:okT T)(y:l.length<=1000):Hd ⟨230,[tyA T,suA ⟨l.toArray⟩],parseA (jw T l)⟩:=by
 cases l with
 | nil =>
  have a:=O8 (xu _ (Ae _ QT));have⟨u,f⟩:=T;exact aF func230 [⟨_,a⟩]
 | cons b r =>
  by_cases j:b=5
  .subst j;simp only[jj]at y;have⟨o,B,C⟩:=ZC r;have a:=O8 (CO _ _ r.length o od B C)
   by_cases q:r.length<=199
   .have e:jJ (decide ((200:Int)<((⟨((5:UInt8)::r).toArray⟩:bp).size:Int))) false:=eT (by rw[o];simp;omega);have d:=Pb (l:=r);rw[jw,if_pos ⟨rfl,q⟩]
    cases m:mE r with
    | error x =>
     rw[m]at d;have A:(if x=0 then 1 else x)≠0:=vy
     unfold decA at d;generalize (if x=0 then 1 else x)=x at *;have⟨u,f⟩:=T;exact runT func230 [(21,fA),(30,bA true)] [⟨_,a⟩,⟨_,d⟩] (ob:=[jJ (decide ((200:Int)<((⟨((5:UInt8)::r).toArray⟩:bp).size:Int))) false,jJ (!decide (x=0)) true]) (al e (al (eT (by simpa using A)) al0))
    | ok t =>
     rw[m]at d;have w:=(ER m).1;have z:=first_okN t 1 (iV w).1;have g:=aed v z (by have:=(iV w).2;omega);simp only
     cases i:jf T t with
     | none =>
      rw[i]at g;have⟨u,f⟩:=T;have⟨k,n,p,s,az⟩:=t;exact runT func230 [(21,fA)] [⟨_,a⟩,⟨_,d⟩,⟨_,g⟩] (ob:=[jJ (decide ((200:Int)<((⟨((5:UInt8)::r).toArray⟩:bp).size:Int))) false]) (al e al0)
     | some x =>
      rw[i]at g;have hK:=SX v (by
       unfold jf at i;split at i
       .rename_i c;simp only[au,qv,jt]at c;omega
       .cases i)
      simp only
      cases hk:eB T with
      | false =>
       rw[hk]at hK;have⟨u,f⟩:=T;have⟨k,n,p,s,az⟩:=t;exact runT func230 [(21,fA)] [⟨_,a⟩,⟨_,d⟩,⟨_,g⟩,⟨_,hK⟩] (ob:=[jJ (decide ((200:Int)<((⟨((5:UInt8)::r).toArray⟩:bp).size:Int))) false]) (al e al0)
      | true =>
       rw[hk]at hK;have⟨u,f⟩:=T;have⟨k,n,p,s,az⟩:=t;exact runT func230 [(21,fA)] [⟨_,a⟩,⟨_,d⟩,⟨_,g⟩,⟨_,hK⟩] (ob:=[jJ (decide ((200:Int)<((⟨((5:UInt8)::r).toArray⟩:bp).size:Int))) false]) (al e al0)
   .have e:jJ (decide ((200:Int)<((⟨((5:UInt8)::r).toArray⟩:bp).size:Int))) true:=eT (by rw[o];simp;omega);rw[jw,if_neg (λh=>q h.2)];have⟨u,f⟩:=T;exact runT func230 [(21,bA true)] [⟨_,a⟩] (ob:=[jJ (decide ((200:Int)<((⟨((5:UInt8)::r).toArray⟩:bp).size:Int))) true]) (al e al0)
  .have a:=O8 (xu _ (Ad _ r.length (Na b r) (by simp only[jj]at y;omega) (Xi j)));rw[jw,if_neg (λh=>j h.1)];have⟨u,f⟩:=T;exact aF func230 [⟨_,a⟩]
end
def Xq{T:Ty}{l:bw}{x:Va}(h:jw T l=some x):okV x:=by
 cases l with
 | nil=>rw[jw]at h;cases h
 | cons b r =>
  rw[jw]at h;split at h
  .split at h
   .cases h
   .split at h
    .cases h
    .rename_i y a;split at h
     .cases h;exact D5 a
     .cases h
  .cases h
def WH{x:Va}(h:okV x)(hz:x.size<=20000000)(hs:(dR x).size<=301):VH x:=by
 have H:=acQ h hz hs;unfold VH oz;split
 .rename_i c;rw[if_pos c.1,if_pos c.2]at H;exact⟨λs e=>(by cases e;exact H),λe=>(by cases e)⟩
 .rename_i c;refine⟨λs e=>(by cases e),λ_=>?_⟩
  by_cases g:dS (dR x)=0
  .rw[if_pos g,if_neg λl=>c ⟨g,l⟩]at H;exact⟨4,ov,H⟩
  .rw[if_neg g]at H;exact⟨_,g,H⟩
def X9{T:Ty}{s:bp}(h:okT T)(m:s.size<=1000):SG T s:=by
 have k:s.toList=s.data.toList:=jc5 s;have c:=Ps (l:=s.data.toList) h (by rw[qg7];exact m);have j:(⟨s.data.toList.toArray⟩:bp)=s:=oe
 unfold SG;rw[j,<-k]at c
 cases d:jw T s.toList with
 | some x=>rw[d]at c;exact c
 | none =>
  rw[d]at c;refine c.conv (λ_ _ _ h=>h) (λok w v ⟨y,e,h⟩=>?_)
  match y,h with
  | [a,b],⟨⟨cs,f,g⟩,i,_⟩ =>
   match cs,g with
   | [z,A,B,C,D,E,F],⟨n,o,p,q,r,t,u,_⟩=>exact⟨_,e,⟨_,f,n,o,p,q,gG r,gG t,gG u,trivial⟩,i,trivial⟩
def Gv{α:Type} : ∀(n:Nat) (l:List α),n<=l.length->xw n l=some (l.drop n)
 | 0,l,_=>rfl
 | n+1,x::l,h=>by rw[xw,Gv n l (by simpa using h)];rfl
 | n+1,[],h=>by simp at h
def Iw{α:Type} : ∀(n:Nat) (l:List α),n<=l.length->nH n l=some (l.take n)
 | 0,l,_=>by simp[nH]
 | n+1,x::l,h=>by rw[nH,Iw n l (by simpa using h)];rfl
 | n+1,[],h=>by simp at h
section
variable {l:ao}{x y:Va}
def atF_le:bZ l x<=l.length:=(List.takeWhile_sublist _).length_le
def Wl(h:fJ l x):bZ l x+1<=l.length:=by
 unfold fJ at h;split at h
 .rename_i y a;exact (qS.1 a).1
 .cases h
def Qh{n:Nat}(h:n<=l.length):qA 7 (vasD l) (some n) (some none)=some (.of (.one (.d (.s 7 (vasD (l.drop n)))))):=by show (xw n (vasD l)).map _=_;rw[Gv _ _ (by simpa[vasD_map]using h)];simp[vasD_map,List.map_drop]
def full_of{n:Nat}(h:n<=l.length):(if 7=7/\n=n then (nH n (vasD l)).map (λr=>AV.of (.one (.f 7 r)))else none)=some (AV.of (.one (.f 7 (vasD (l.take n))))):=by rw[if_pos ⟨rfl,rfl⟩,Iw _ _ (by simpa[vasD_map]using h)];simp[vasD_map,List.map_take]
def CE (x:Va) (bh ah:A1) (it:ao) (i:Int):St:=[((0,4),.of (.one (.p 4 0))),((5,0),.of (.one (.d (.v (.i x.k))))),((5,1),.of (.one (.d (.v (.i x.n))))),((5,2),.of (.one (.d (.v (.i x.a))))),((5,3),.of (.one (.d (.v (.string x.s))))),((5,4),.of (.one (.d (.s 7 (vasD x.args))))),((5,5),.of (.one (.d (.s 2 (tysD x.types))))),((5,6),.of (.one (.d (.s 5 (ndsD x.code))))),
 ((0,9),.of bh),((0,10),.of ah),((0,31),.of (qi it)),((0,32),lW it.length),((0,33),lW i)]
def KM (bh ah:A1):St:=[((0,9),.of bh),((0,10),.of ah)]
abbrev wT (l:ao):A1:=.one (.d (.s 7 (vasD l)))
abbrev CP (l:ao):A1:=.one (.f 7 (vasD l))
def OI(v u:ao):vO prog f220.ntmps ⟨gF f220,CE x (wT v) (CP u) [] 0,2,KM (wT v) (CP u)⟩:=by have⟨k,n,i,z,r,t,d⟩:=x;exact xQ (e:=1) [] [] (ob:=[]) oe
def OJ(v u:ao)(q:u.length<=20000000):vO prog f220.ntmps ⟨gF f220,CE x (wT v) (CP u) [y] 0,2,KM (wT v) (.one (.d (.s 7 (vasD u++[vaD (aY x y)]))))⟩:=by
 have⟨k,n,i,z,r,t,d⟩:=x;have⟨c,f,b,j,g,h,a⟩:=y;have l:vO prog f220.ntmps ⟨gF f220,CE (.mk k n i z r t d) (wT v) (.one (.d (.s 7 (vasD u++[vaD (aY (.mk k n i z r t d) (.mk c f b j g h a))])))) [.mk c f b j g h a] 1,2,KM (wT v) (.one (.d (.s 7 (vasD u++[vaD (aY (.mk k n i z r t d) (.mk c f b j g h a))]))))⟩:=xQ (e:=1) [] [] (ob:=[]) oe;have m:(vasD u).length=u.length:=KK
 exact LG [] [⟨_,pX (.mk k n i z r t d) (.mk c f b j g h a)⟩] l (ob:=[(vasD u).length+(0+1)<=maxLen/\((vasD u).length+(0+1))*112<=140737488355328]) (λp o=>by rw[qu.1 o,m];unfold maxLen;omega)
def Sj(u v:ao):vasD (u++v)=vasD u++vasD v:=KK
def u7{S:St}{q:Prop}(b:q){ps:List Prop}(h:∀p∈ps,p):∀p∈ps++(q::S.map (λx=>some x.2=some x.2)),p:=λp a=>by
 rcases ka.1 a with a|a
 .exact h p a
 .rcases ke.1 a with rfl|a
  .exact b
  .obtain⟨x,_,rfl⟩:=kl.1 a;rfl
def aea{r:ao}(O:okVs l)(R:okV x)(S:okVs r)(V:r.length<=1)(Y:vsizes l<=9000000)(T:risesF l):Hd ⟨220,[qi l,pF x,qi r],.of (qi (uO l x r))⟩:=by
 have c:=FN (y:=x) od T;have Z:=len_vsizes l;have Q:=atF_le (l:=l) (x:=x);have K:=Qh (l:=l) Q;have L:=full_of (l:=l) Q;have X:okVs (l.take (bZ l x)):=okVs_at.2 λy H=>okVs_at.1 O y (qe5 H);have Zg:∀q,okVs (l.drop q):=λq=>okVs_at.2 λy H=>okVs_at.1 O y (qh3 H);have M:(l.take (bZ l x)).length<=20000000:=vl
 have P:∀(u:ao) (q:Nat),okVs u->u.length<=1->Hd ⟨218,[.one (.d (.s 1 [[.s 7 (vasD (l.take (bZ l x)++u))],[.s 7 (vasD (l.drop q))]]))],.of (qi (l.take (bZ l x)++u++l.drop q))⟩:=λu q hu W =>
  Da (m:=7) (n:=7) (.inl rfl) (.inl rfl) (by rw[ju,qc2,List.length_drop];omega)
 have E:=λv=>OI (x:=x) v (l.take (bZ l x));have F:=λv y=>OJ (x:=x) (y:=y) v (l.take (bZ l x)) M;have I:fJ l x=false->uO l x r=l.take (bZ l x)++r.map (aY x)++l.drop (bZ l x):=λh=>by unfold uO;rw[h];simp
 have J:fJ l x->uO l x r=l.take (bZ l x)++r.map (aY x)++l.drop (bZ l x+1):=λh=>by unfold uO;rw[h];simp
 have D:fJ l x->some (lW (IntKind.i64.wrap (((bZ l x:Nat):Int)+1)))=some (.of (iA ((bZ l x+1:Nat):Int))):=λh=>by have:=Wl h;rw[show ((bZ l x:Nat):Int)+1=((bZ l x+1:Nat):Int) by omega,wNq _ od];rfl
 have G:fJ l x->_:=λh=>Qh (l:=l) (Wl h);have N:∀y,okV y->okVs [aY x y]:=λy H=>⟨si R H,trivial⟩;generalize U:bZ l x=A at *;rcases r with _|⟨y,_|⟨y2,r⟩⟩
 .have e:=λq=>P [] q trivial oe;simp only[qb0]at e;simp only[qg6,qb0]at I J;have⟨k,n,i,z,a,t,d⟩:=x
  cases hF:fJ l (.mk k n i z a t d)with
  | false =>
   rw[I hF];rw[hF]at c;exact Ce func220 [(21,wT (l.drop A)),(30,CP (l.take A))] [⟨gF f220,CE (.mk k n i z a t d) (wT (l.drop A)) (CP (l.take A)) [] 0,2,KM (wT (l.drop A)) (CP (l.take A))⟩] (by intro q b;rw[qu]at b;subst b;exact E _) [⟨_,c⟩,⟨_,e A⟩]
    (ob:=[qA 7 (vasD l) (some A) (some none)=some (.of (wT (l.drop A))),(if 7=7/\A=A then (nH A (vasD l)).map (λr=>AV.of (.one (.f 7 r)))else none)=some (AV.of (CP (l.take A)))]++((gF f220=gF f220)::(CE (.mk k n i z a t d) (wT (l.drop A)) (CP (l.take A)) [] 0).map (λx=>some x.2=some x.2))) (u7 rfl (al K (al L al0)))
  | true =>
   rw[J hF];rw[hF]at c;exact Ce func220 [(21,wT (l.drop A)),(25,iA ((A+1:Nat):Int)),(26,wT (l.drop (A+1))),(30,CP (l.take A))] [⟨gF f220,CE (.mk k n i z a t d) (wT (l.drop (A+1))) (CP (l.take A)) [] 0,2,KM (wT (l.drop (A+1))) (CP (l.take A))⟩] (by intro q b;rw[qu]at b;subst b;exact E _) [⟨_,c⟩,⟨_,e (A+1)⟩]
    (ob:=[qA 7 (vasD l) (some A) (some none)=some (.of (wT (l.drop A))),some (lW (IntKind.i64.wrap (((A:Nat):Int)+1)))=some (.of (iA ((A+1:Nat):Int))),qA 7 (vasD l) (some (A+1)) (some none)=some (.of (wT (l.drop (A+1)))),(if 7=7/\A=A then (nH A (vasD l)).map (λr=>AV.of (.one (.f 7 r)))else none)=some (AV.of (CP (l.take A)))]++((gF f220=gF f220)::(CE (.mk k n i z a t d) (wT (l.drop (A+1))) (CP (l.take A)) [] 0).map (λx=>some x.2=some x.2))) (u7 rfl (al K (al (D hF) (al (G hF) (al L al0)))))
 .have g:=λq=>P [aY x y] q (N y S.1) oe;simp only[Sj]at g;simp only[qb2,qg6]at I J;have⟨k,n,i,z,a,t,d⟩:=x;have⟨p,n1,o,C,w,B,j⟩:=y
  cases hF:fJ l (.mk k n i z a t d)with
  | false =>
   rw[I hF];rw[hF]at c;exact Ce func220 [(21,wT (l.drop A)),(30,CP (l.take A))] [⟨gF f220,CE (.mk k n i z a t d) (wT (l.drop A)) (CP (l.take A)) [.mk p n1 o C w B j] 0,2,KM (wT (l.drop A)) (.one (.d (.s 7 (vasD (l.take A)++[vaD (aY (.mk k n i z a t d) (.mk p n1 o C w B j))]))))⟩] (by intro q b;rw[qu]at b;subst b;exact F _ _) [⟨_,c⟩,⟨_,g A⟩]
    (ob:=[qA 7 (vasD l) (some A) (some none)=some (.of (wT (l.drop A))),(if 7=7/\A=A then (nH A (vasD l)).map (λr=>AV.of (.one (.f 7 r)))else none)=some (AV.of (CP (l.take A)))]++((gF f220=gF f220)::(CE (.mk k n i z a t d) (wT (l.drop A)) (CP (l.take A)) [.mk p n1 o C w B j] 0).map (λx=>some x.2=some x.2))) (u7 rfl (al K (al L al0)))
  | true =>
   rw[J hF];rw[hF]at c;exact Ce func220 [(21,wT (l.drop A)),(25,iA ((A+1:Nat):Int)),(26,wT (l.drop (A+1))),(30,CP (l.take A))] [⟨gF f220,CE (.mk k n i z a t d) (wT (l.drop (A+1))) (CP (l.take A)) [.mk p n1 o C w B j] 0,2,KM (wT (l.drop (A+1))) (.one (.d (.s 7 (vasD (l.take A)++[vaD (aY (.mk k n i z a t d) (.mk p n1 o C w B j))]))))⟩] (by intro q b;rw[qu]at b;subst b;exact F _ _) [⟨_,c⟩,⟨_,g (A+1)⟩]
    (ob:=[qA 7 (vasD l) (some A) (some none)=some (.of (wT (l.drop A))),some (lW (IntKind.i64.wrap (((A:Nat):Int)+1)))=some (.of (iA ((A+1:Nat):Int))),qA 7 (vasD l) (some (A+1)) (some none)=some (.of (wT (l.drop (A+1)))),(if 7=7/\A=A then (nH A (vasD l)).map (λr=>AV.of (.one (.f 7 r)))else none)=some (AV.of (CP (l.take A)))]++((gF f220=gF f220)::(CE (.mk k n i z a t d) (wT (l.drop (A+1))) (CP (l.take A)) [.mk p n1 o C w B j] 0).map (λx=>some x.2=some x.2))) (u7 rfl (al K (al (D hF) (al (G hF) (al L al0)))))
 .simp at V
end
section
variable {c:Mc}{m m1:Ma}{o:Go.Proofs.YtnamdihclpbdfabGreat.Out}{tn tp:Int}{tz:bp}{ta:aE}
def Kw(b:tp=40\/tp=41\/tp=42\/tp=43\/tp=44)(a:HO c m 189 [] (.go m1))(h:HO c m1 192 [ndA (.nd 2 tn tp tz ta)] o):HO c m 171 [ndA (.nd 2 tn tp tz ta)] o:=by rcases b with rfl|rfl|rfl|rfl|rfl<;>exact eH [m1] func171 [pu a 0,pu h 1]
def Ku(b:tp=46\/tp=47\/tp=48\/tp=49\/tp=50\/tp=51\/tp=53\/tp=54)(a:HO c m 189 [] (.go m1))(h:HO c m1 193 [iA tp] o):HO c m 171 [ndA (.nd 2 tn tp tz ta)] o:=by rcases b with rfl|rfl|rfl|rfl|rfl|rfl|rfl|rfl<;>exact eH [m1] func171 [pu a 0,pu h 1]
def FE(b:tp=56\/tp=57\/tp=59\/tp=61\/tp=62\/tp=63)(a:HO c m 189 [] (.go m1))(h:HO c m1 194 [iA tp] o):HO c m 171 [ndA (.nd 2 tn tp tz ta)] o:=by rcases b with rfl|rfl|rfl|rfl|rfl|rfl<;>exact eH [m1] func171 [pu a 0,pu h 1]
def FD(b:tp=52\/tp=55\/tp=58\/tp=64)(a:HO c m 189 [] (.go m1))(h:HO c m1 195 [ndA (.nd 2 tn tp tz ta)] o):HO c m 171 [ndA (.nd 2 tn tp tz ta)] o:=by rcases b with rfl|rfl|rfl|rfl<;>exact eH [m1] func171 [pu a 0,pu h 1]
def Ir(b:tp=60\/tp=65\/tp=66\/tp=67\/tp=68)(a:HO c m 189 [] (.go m1))(h:HO c m1 196 [ndA (.nd 2 tn tp tz ta)] o):HO c m 171 [ndA (.nd 2 tn tp tz ta)] o:=by rcases b with rfl|rfl|rfl|rfl|rfl<;>exact eH [m1] func171 [pu a 0,pu h 1]
def FH(b:tp=69\/tp=70\/tp=71\/tp=72\/tp=93\/tp=94\/tp=95)(a:HO c m 189 [] (.go m1))(h:HO c m1 197 [iA tp] o):HO c m 171 [ndA (.nd 2 tn tp tz ta)] o:=by rcases b with rfl|rfl|rfl|rfl|rfl|rfl|rfl<;>exact eH [m1] func171 [pu a 0,pu h 1]
def Ox(b:tp=73\/tp=74\/tp=75\/tp=76\/tp=77\/tp=78\/tp=79)(a:HO c m 189 [] (.go m1))(h:HO c m1 198 [iA tp] o):HO c m 171 [ndA (.nd 2 tn tp tz ta)] o:=by rcases b with rfl|rfl|rfl|rfl|rfl|rfl|rfl<;>exact eH [m1] func171 [pu a 0,pu h 1]
def Ky(b:tp=45\/tp=80\/tp=81\/tp=82\/tp=83)(a:HO c m 189 [] (.go m1))(h:HO c m1 199 [ndA (.nd 2 tn tp tz ta)] o):HO c m 171 [ndA (.nd 2 tn tp tz ta)] o:=by rcases b with rfl|rfl|rfl|rfl|rfl<;>exact eH [m1] func171 [pu a 0,pu h 1]
def FI(b:tp=84\/tp=85\/tp=86\/tp=87)(a:HO c m 189 [] (.go m1))(h:HO c m1 200 [iA tp] o):HO c m 171 [ndA (.nd 2 tn tp tz ta)] o:=by rcases b with rfl|rfl|rfl|rfl<;>exact eH [m1] func171 [pu a 0,pu h 1]
def step_sends(b:tp=88\/tp=89\/tp=90\/tp=91\/tp=92)(a:HO c m 189 [] (.go m1))(h:HO c m1 201 [ndA (.nd 2 tn tp tz ta)] o):HO c m 171 [ndA (.nd 2 tn tp tz ta)] o:=by rcases b with rfl|rfl|rfl|rfl|rfl<;>exact eH [m1] func171 [pu a 0,pu h 1]
def step_seq(hk:okNs ta)(a:Fn m):HO c m 171 [ndA (.nd 3 tn tp tz ta)] (.go (fm m (Ef ta))) :=
 eH [] func171 [TY m m.st ta 0 hk a.fr]
def RP(a:HO c m 189 [] (.no 12 m)):HO c m 171 [ndA (.nd 2 tn tp tz ta)] (.no 12 m) :=
 eH [] func171 [pu a 0]
structure Zp (t:Tr):Prop where
 k:t.k0=2
 n:(t.p0=41\/t.p0=43\/t.p0=44)->0<t.args0.length
 cd:(t.p0=52\/t.p0=55\/t.p0=58\/t.p0=64)->∃a b,t.args0=[a,b]
 c:(t.p0=60\/t.p0=65\/t.p0=68)->∃a,t.args0=[a]
 ZM:t.p0=66->∃a b d,t.args0=[a,b,d]/\fu a/\fu b
 tv:t.p0=45->∃a b,t.args0=[a,b]/\fu a
 t:(t.p0=82\/t.p0=88)->∃a,t.args0=[a]/\fu a
def Rp{t:Tr}{i:Ins}(h:iY t=some i):Zp t:=by
 refine⟨(jY h rfl).1,λd=>?_,λd=>?_,λd=>?_,λd=>?_,λd=>?_,λd=>?_⟩
 .have⟨_,f,_⟩:=jY h (show bR t.p0=[110] by unfold bR;rw[if_pos d]);rw[f];decide
 .rw[ng h]at d;have⟨a,b,e,_⟩:=LV h d;exact⟨a,b,e⟩
 .rw[ng h]at d;have⟨a,e,_⟩:=Fq h d;exact⟨a,e⟩
 .have⟨_,f,g⟩:=jY h (show bR t.p0=[116,117,99] by unfold bR;rw[oa,oa,oa,oa,oa,oa,if_pos d]);have⟨a,r,k,e,l,j,m⟩:=pV f g;obtain⟨b,r,q,rfl,l,o,n⟩:=pV l m;obtain⟨c,rfl,p⟩:=mG l n;exact⟨a,b,c,e,(mF (.inl rfl) j).2,(mF (.inr rfl) o).2⟩
 .have⟨_,f,g⟩:=jY h (show bR t.p0=[116,118] by unfold bR;rw[oa,if_pos d]);have⟨a,r,k,e,l,j,m⟩:=pV f g;obtain⟨b,rfl,n⟩:=mG l m;exact⟨a,b,e,(mF (.inl rfl) j).2⟩
 .have⟨_,f,g⟩:=jY h (show bR t.p0=[116] by unfold bR;rw[oa,oa,oc]);have⟨a,e,j⟩:=mG f g;exact⟨a,e,(mF (.inl rfl) j).2⟩
structure ZB (c:Mc) (t:Tr) (m:Ma):Prop where
 ok:okN t
 z:t.size<=1000
 fn:Fn m
 st:∀x∈m.st,x.size<=9000000/\x.s.size<=1000
 en:bD c.en.self/\bD c.en.sender/\bD c.en.amount/\bD c.en.balance
 upd:t.p0=63->∀a b d s,m.st=a::b::d::s->b.args.length<=1
 num:(t.p0=69\/t.p0=70\/t.p0=71\/t.p0=72)->∀a b s,m.st=a::b::s->kE a.n/\kE b.n
def HO.ite{P:Prop}[Decidable P]{f:FuncId}{args:List A1}{a b:Go.Proofs.YtnamdihclpbdfabGreat.Out}(d:(if P then a else b) ≠ .stuck)(e:P->a ≠ .stuck->HO c m f args a)(g:¬P->b ≠ .stuck->HO c m f args b):HO c m f args (if P then a else b):=by
 by_cases h:P
 .rw[if_pos h]at d|-;exact e h d
 .rw[if_neg h]at d|-;exact g h d
def X5{t:Tr}(V:(40<=t.p0/\t.p0<=95))(W:Zp t)(X:ZB c t m1)(h0:HO c m 189 [] (.go m1))(f:Qy c.en t m1 ≠ .stuck):HO c m 171 [ndA t] (Qy c.en t m1):=by
 have⟨g,A,i,p,v,u,q⟩:=X;have j:∀x∈m1.st,x.size<=20000000:=λx o=>by have:=(p x o).1;omega
 have y:∀x∈m1.st,x.size<=9000000/\x.s.size<=10000000:=λx o=>by have:=p x o;omega
 have⟨E,tn,tp,tz,ta⟩:=t;have⟨Y,H,I,J,K,L,D⟩:=W;obtain rfl:E=2:=Y;unfold Qy at f|-;simp only[Tr.p0]at f V H I J K L D q u|-;refine HO.ite f (λh f=>Kw h h0 (Ta h g H i f)) λg1 f=>?_;refine HO.ite f (λh f=>Ku h h0 (SI h i f)) λg2 f=>?_;refine HO.ite f (λh f=>FE h h0 (Mo (HU:=λl x r F G N P Q R=>aea F G N P Q R) h i y u f)) λZ f=>?_;refine HO.ite f (λh f=>FD h h0 (Ml h g (I h) i f)) λg4 f=>?_;refine HO.ite f (λh f=>Ir h h0 ?_) λg5 f=>?_
 .by_cases C:tp=67
  .subst C;unfold mq at f|-;simp only[Tr.p0,Int.reduceEq,↓reduceIte]at f|-;obtain⟨m1,s,rfl⟩:∃M s,m1=sm M s:=⟨m1,m1.st,rfl⟩;rcases s with _|⟨a,_|⟨b,s⟩⟩
   .exact absurd rfl f
   .exact absurd rfl f
   exact HO.node g (bK func196) λO w k n z a l d S hL=>Nk (t:=.nd 2 tn 67 tz ta) S rfl i.fr
  .exact Pf (by simp only[Tr.p0];omega) g (λB=>J (by simp only[Tr.p0]at B;omega)) K i f
 refine HO.ite f (λh f=>FH h h0 (Mr h i q f)) λg6 f=>?_;refine HO.ite f (λh f=>Ox h h0 (Ww h i j f)) λg7 f=>?_;refine HO.ite f (λh f=>Ky h h0 (aew (λx o A=>WH (okVs_at.1 i.ok x o) (j x o) A) (λa U x o A=>X9 (uE U) A) h g A L (λh=>by have⟨a,e,pa⟩:=D (.inl h);exact⟨a,e,pa,λx o=>(p x (List.mem_of_mem_head? o)).2⟩) (λ_ x o=>(p x (qe5 o)).2) i f (λT s x h=>Xq h) (λT s x h F G=>D5 h))) λg8 f=>?_;refine HO.ite f (λh f=>FI h h0 (Mw h v.1 i j f)) λg9 f=>?_;exact step_sends od h0 (Tf (by simp only[Tr.p0];omega) g (λh=>D (.inr h)) v i f)
end
section
variable {B:Nat}{O O':br}{w w':cg}{mb:Nat}{en:En}{aC:Int}{m:Ma}{f:Fr}{r:List Fr}{out:Out}
def JS(h:dm B O w mb en aC m)(q:m.fr=f::r)(u:f.rest=[])(HL:∀w',cq w w' none->Calls prog 170 #[.po mb] w' (jK B O w' mb en aC out)):Calls prog 151 #[.po mb] w (jK B O w mb en aC out):=by
 have⟨k,n,a,s,H,al,I,ta,tl,X,R,T,S,W,P,Y,N,h⟩:=h;obtain⟨g,z,A,U,V,wa,wc,J,L,rfl,p,rfl,G,j,l,E,D,hF⟩:=h.Sb q;have⟨d,v,i⟩:=JT (λw' (F:cq w w' none)=>uw (h.grow F) p) l HL;have K:=λ(w':cg) (h:cq w w' none)=>v.keep h oe;unfold C4 at K;rw[u]at K;simp only[qa0]at K;have C:cq w w none:=bf _ _;clear h l E D hF p q G j HL u;generalize o:jK B O w mb en aC out=Q;have y:=jh o;clear o;go_enter func151,ntmps151;go_wp2_with (first
  | (go_at_call 169;(with_reducible refine (d.out _ OK).mono ?_);rintro e Z ⟨rfl,b⟩)
  | (go_at_call 170;(with_reducible refine (i.out _ b).mono ?_);rintro e w9 t;obtain⟨M,rfl,c⟩:=(t.trans (dB.grow b)).ret;have x:=jh c;clear t c))
 rw[<-y.out];exact x
def NN{nd:Tr}{l:aE}(h:dm B O w mb en aC m)(Z:m.fr=f::r)(M:f.rest=nd::l)(HS:∀(w':cg) (v:cm),dB O w O w'->dm B O w' mb en aC { m with fr:=⟨l,f.op,f.row,f.aside⟩::r }->bI (λb=>¬O b) w' nd v->Calls prog 171 #[.po mb,v] w' (jK B O w' mb en aC out)) :
 Calls prog 151 #[.po mb] w (jK B O w mb en aC out):=by
 have⟨k,n,a,s,aa,al,ac,ta,tl,tc,na,nl,nc,sv,fv,us,fs,h⟩:=h;obtain⟨g,ah,ak,ra,C,wa,wc,ba,bc,rfl,hc,rfl,hl,H,hC,hZ,Y,hF⟩:=h.Sb Z;have⟨VR,c⟩:=Y.open.2.2.1;have z:=Y.open.2.1.1;rw[M]at c z;have⟨b,o,eb,hb,k2,n2,p2,s2,a2,l2,c2,ev,x⟩:=c.2.1 0 oe;have p:=c.2.2 0 oe;rw[ev]at p;subst eb;simp only[jh2,qf6,List.getElem_cons_zero,jj]at x p z;have⟨S,HM,HC⟩:=JT (λw' (hg:cq w w' none)=>uw (h.grow hg) hc) h hC;have P:Hid (C5 w b o k2 n2 p2 s2 a2 l2 c2):=x;have⟨T,ad,R,HL,E,X,ae,HR⟩:=wj p c Z hl H HS hZ M;have I:=h.mine.2 g rfl;have J:=h.high g I;have K:=λ(w':cg) (h:cq w w' none)=>And.intro (HC.keep h oe) (P.keep h oe);unfold C4 C5 at K;rw[M]at K;simp only[jj]at K;have an:cq w w none:=bf _ _;have d1:¬((l.length:Int)+1=0):=od
 have aj:(((l.length:Int)+1)==0)=false:=ja0.2 d1;have d2:(1:Int)<=(l.length:Int)+1:=od
 have d3:(l.length:Int)+1<=(C:Int):=od
 have d4:(0:Int)<(l.length:Int)+1:=od
 have⟨A,hA,G⟩:∃A:Addr,(if C=1 then some (⟨b,o,none⟩:Addr)else some ⟨b,o+5,none⟩)=some A/\∃V,cK (λb=>¬O b) w l (some A) V:=by
  by_cases hh:C=1
  .exact⟨_,if_pos hh,VR,by rw[jx (by omega:l.length=0)];exact cK.nil _ _ _ _⟩
  .exact⟨_,if_neg hh,_,c.tail⟩
 have U:=jh G;have t:l.length<=C - 1:=od
 have W:=jh t;clear h hC hZ Y hF hc Z hl H c p x ev HS G M z t;generalize hQ:jK B O w mb en aC out=Q;have HQ:=jh hQ;clear hQ;go_enter func151,ntmps151;go_wp2_with (first
  | (go_at_call 169;(with_reducible refine (S.out _ OK).mono ?_);rintro e N ⟨rfl,d⟩;have zf:=((HM.out.grow d).Jj HL.out E.out).2;have ab:=kh J d.size))
 have u:cq N (N.setCell ⟨g,r.length*4,none⟩ (.slice (some A) l.length (C - 1))) (some g):=eF (bf _ _) _ _ _;have y:dB O w O (N.setCell ⟨g,r.length*4,none⟩ (.slice (some A) l.length (C - 1))):=(dB.grow d).trans (dB.ofRow u (λq e=>by cases e;exact I));have⟨V,hV⟩:=U.out;have F:=(HM.out.grow d).reset R.out HL.out E.out ((dB.grow d).Kl hV) W.out;have j:=aK (w:=N.setCell ⟨g,r.length*4,none⟩ (.slice (some A) l.length (C - 1))) (.cells #[.i k2,.i n2,.i p2,.string s2,.slice a2 l2 c2] 51);have D:=jh (y.trans (dB.grow j));have HX:=jh (X.out _ _ D.out (F.grow j).G5 (((y.trans (dB.grow j))).node T.out));unfold af at HX;clear u y hV F j;go_wp2_with ((go_at_call 171;(with_reducible refine HX.out.mono ?_);rintro e w9 hq;obtain⟨er,rfl,L⟩:=(hq.trans D.out).ret;have HE:=jh L;clear hq L));rw[<-HQ.out];exact HE.out
end
section
variable {B:Nat}{O:br}{w:cg}{mb:Nat}{en:En}{aC:Int}{m:Ma}
def WR (B:Nat) (O:br) (w:cg) (mb:Nat) (en:En) (aC:Int) (I:Ma->Prop) (out:Out) (n:Nat) (wr:cg):Prop:=∃O' m',dm B O' wr mb en aC m'/\dB O w O' wr/\I m'/\fq en aC n m'=out
def dm.frames(h:dm B O w mb en aC m):∃a c,w.cell? ⟨mb,15,none⟩=some (.slice a m.fr.length c):=by have⟨k,n,a,s,g,al,i,ta,tl,t,o,q,p,r,l,u,j,h⟩:=h;have⟨d,f,e⟩:=nX h.own;have b:=h.sZ.form.2;rw[qb3]at b;exact⟨d,f,by rw[<-b,<-e];exact (iM h.blk).2.2.2.2.2.2.2.2.1⟩
def Sk(I:Ma->Prop)(T:∀(O':br) (w':cg) (g:Ma),dm B O' w' mb en aC g->I g->g.fr≠[]->Calls prog 151 #[.po mb] w' (jK B O' w' mb en aC (uB en aC g)))(HI:∀g a,I g->g.fr≠[]->uB en aC g =.go a->I a)(h:dm B O w mb en aC m)(hm:I m)(N:Nat)(C:fq en aC N m ≠ .stuck) :
 Calls prog 129 #[.po mb] w (jK B O w mb en aC (fq en aC N m)):=by
 have⟨HM,H,L,G⟩:=we h hm T HI;generalize o:fq en aC N m=out at *;have HO:=jh o;have v:=jh C;clear h hm T HI o C;generalize W:jK B O w mb en aC out=Q;have U:=jh W;clear W;have⟨μ,hμ⟩:=mM (λn (p:cg)=>WR B O w mb en aC I out n p);have u:=jh hμ;clear hμ;go_enter func129,ntmps129;go_wp2_with fail;go_loopw [3] (λ_ wr=>∃n,WR B O w mb en aC I out n wr) (λ_ wr=>μ wr)
 case atStart=>exact⟨N,O,m,HM,dB.refl _ _,H,HO⟩
 case round =>
  have⟨n0,A⟩:=hrel;have⟨O',g,z,hF,y,d⟩:=(u.out wr n0 A).1;clear A;have l:Hid (∃q,μ wr=q):=⟨_,rfl⟩;have⟨q,S⟩:=l.out;rw[S]at d;have M:=jh S;clear l S
  cases q with
  | zero=>exact absurd d.symm (by rw[fq];exact v)
  | succ q =>
   have⟨fa,fc,b⟩:=z.frames;have⟨J,s,aa⟩:=JT z hF y;rw[fq]at d
   cases c:g.fr with
   | nil =>
    rw[c]at b d;simp only[qa0]at b d;have F:Hid (jK B O w mb en aC out (.returned (.i 0)) wr):=by rw[<-d];exact⟨O',s,rfl,J⟩
    clear z hF y d c;go_wp2_with fail;rw[<-U.out];exact F
   | cons f r =>
    rw[c]at b;have x:=jh (L O' wr g z y (by rw[c];simp));have K:=jh (λa=>G g a y (by rw[c];simp));have d0:(0:Int)<(r.length:Int)+1:=od
    simp only[jj]at b;rw[c]at d;simp only at d;generalize uB en aC g=nx at *;clear z hF y c
    cases nx with
    | stuck=>exact absurd d (λe=>v e.symm)
    | no D a =>
     have P:Hid (Out.no D a=out):=d;clear d;go_wp2_with ((go_at_call 151;(with_reducible refine x.out.mono ?_);rintro e E ⟨R,j,t,rfl,m9,Z,p2,k⟩;have X:(D==0)=false:=ja0.2 t;have Y:(D != 0):=(by rw[bne_iff_ne];exact t);have F:Hid (jK B O w mb en aC out (.returned (.i D)) E):=(by rw[<-P.out];exact⟨R,s.out.trans j,t,rfl,m9,Z,p2,k⟩);clear j Z p2 k));rw[<-U.out];exact F.out
    | go a =>
     have P:Hid (fq en aC q a=out):=d;clear d;go_wp2_with ((go_at_call 151;(with_reducible refine x.out.mono ?_);rintro e E ⟨R,j,rfl,k⟩;have V:Hid (WR B O w mb en aC I out q E):=⟨R,a,k,s.out.trans j,K.out a rfl,P.out⟩;clear j k));go_roundw
     case rel=>exact⟨q,V⟩
     case measure =>
      have h1:=(u.out E q V).2;have h2:=M.out;omega
end
def Rt{i:Ins}{s x:aw}{f:Bool}(h:bJ i s =.ok f x)(b:i.p=69\/i.p=70\/i.p=71\/i.p=72):∃A B r,s=A::B::r/\(A.t=3\/A.t=4\/A.t=5)/\(B.t=3\/B.t=4\/B.t=5):=by
 unfold bJ at h;rw[oa,oa,oa]at h;split at h
 .rename_i c;obtain⟨A,B,r,rfl,_,_⟩:=lT c.2;refine⟨A,B,r,rfl,?_⟩;simp only[bB,km,yW,jb5]at h
  cases a:ZR i.p A.t B.t with
  | none=>rw[a]at h;cases h
  | some T =>
   unfold ZR zC at a
   repeat' split at a
   all_goals first
    | (cases a;done)
    | omega
    | (simp only[not_or,qd6]at *;omega)
 .cases h
def Qq{i:Ins}{s x:aw}{f:Bool}(h:aP i s =.ok f x)(b:i.p=63):∃A B D r,s=A::B::D::r/\B.t=9:=by
 unfold aP at h;rw[oa,oa,oa,oa,oa]at h;split at h
 .rename_i c;obtain⟨A,B,D,r,rfl,_,a,_⟩:=Kt c.2.1;exact⟨A,B,D,r,rfl,a ov⟩
 .cases h
def NA{row:aE->aw->iF}{i:Ins}{s x:aw}{f:Bool}(h:vP row i s =.ok f x):i.p<=95:=by
 unfold vP at h
 repeat' split at h
 all_goals first
  | omega
  | skip
 unfold dO at h
 repeat' split at h
 all_goals first
  | omega
  | cases h
def WJ{en:En}(h:yH en):bD en.self/\bD en.sender/\bD en.amount/\bD en.balance:=by have⟨a,b,c,d⟩:=h;simp only[lY,gN,jt]at a b c d;unfold bD;omega
section
variable {B:Nat}{O:br}{w:cg}{mb:Nat}{en:En}{aC:Int}{m:Ma}{S:aw}
def dm.okV(h:dm B O w mb en aC m):okVs m.st:=by have⟨k,n,a,s,e,al,f,ta,tl,t,o,q,p,r,j,d,g,h⟩:=h;refine okVs_at.2 λx c=>?_;obtain⟨i,b,rfl⟩:=qc3 (List.mem_reverse.2 c);have l:=h.jL.len;exact BC (h.jL.lies i _ d[i] (qt b) (qt od))
def cost_len:∀l:List Fr,l.length<=cost l
 | []=>yb _
 | f::l=>by have:=cost_len l;rw[gB];simp only[jj];omega
def YM(a:WT aC S m)(e:aC<=50000):m.fr.length<=40000000:=by have b:=cost_len m.fr;have c:=a.cost;have d:=a.paid;omega
def Vg{nd:Tr}{l:aE}{f:Fr}{r:List Fr}{v:cm}(D:yH en)(W:WT aC S m)(hS:S.length<=342)(hg:aC<=50000)(o:m.fr=f::r)(V:f.rest=nd::l)(h:dm B O w mb en aC { m with fr:=⟨l,f.op,f.row,f.aside⟩::r })(hL:bI (λb=>¬O b) w nd v) :
 Calls prog 171 #[.po mb,v] w (jK B O w mb en aC (Iq en aC nd { m with fr:=⟨l,f.op,f.row,f.aside⟩::r })):=by
 have n:=Fa D W hS (by rw[o];simp);unfold uB at n;rw[o]at n;simp only[V]at n;have E:=YM W hg;rw[o]at E;obtain⟨J,k0,n0,p0,s0,a0,c0,C,rfl,I⟩:=qL hL;have hv:dU (gm (λ_=>none) (λb=>¬O b) w) [ndA nd] [af k0 n0 p0 s0 a0 nd.args0.length c0]:=by rw[C];exact⟨⟨_,rfl,fI.v _,fI.v _,fI.v _,fI.v _,by rw[<-C]at *;exact I,trivial⟩,trivial⟩
 refine HO.go (m:={ m with fr:=⟨l,f.op,f.row,f.aside⟩::r }) (args:=[ndA nd]) ?_ h hv;have R:=h.okV;have⟨⟨s,hF,P⟩,hm,U,hc,hZ,aa⟩:=W;rw[o]at P;have⟨⟨g1,g2,g3,g4⟩,z,Q,P⟩:=P;have⟨N,g,x,y,a,b,ck,d,e⟩:=GD V Q;rw[V]at g1;have⟨q1,q2⟩:=qE g1 (show nd∈nd::l by simp);have⟨j,_,_⟩:=nP ck;have F:∀pd:Int,Fn { m with fr:=⟨l,f.op,f.row,f.aside⟩::r,paid:=pd }:=λpd=>⟨R,by show m.st.length<=_;omega,by simp only[jj]at E|-;omega⟩
 cases N with
 | zero=>simp[stepF]at j
 | succ N =>
  rw[stepF]at j;unfold Iq at n|-
  by_cases hk:nd.k0=3
  .rw[if_pos hk];have⟨u,tn,tp,tz,ta⟩:=nd;obtain rfl:u=3:=hk;exact step_seq J.2 (F m.paid)
  .rw[if_neg hk]at j n|-;split at j
   .cases j
   .rename_i i G;have hs:=Rp G;have U:=ng G;have L:40<=nd.p0:=by unfold iY at G;split at G;exact (by assumption:_/\_/\_).2.1;cases G
    have ab:=NA j;have h0:=HO_pay (c:=⟨B,mb,en,aC,w,O⟩) (m:={ m with fr:=⟨l,f.op,f.row,f.aside⟩::r });unfold uH at n h0|-
    by_cases p:aC<=m.paid
    .simp only[p,↓reduceIte]at h0|-;have⟨u,tn,tp,tz,ta⟩:=nd;obtain rfl:u=2:=hs.k;exact RP h0
    .simp only[p,↓reduceIte]at h0 n|-;refine X5 (c:=⟨B,mb,en,aC,w,O⟩) ⟨L,od⟩ hs ⟨J,od,F _,λx hx=>?_,WJ D,λH Y Z vd X t=>?_,λH Y Z X t=>?_⟩ h0 (λhh=>?_)
     .have⟨T,_,Q⟩:=fitS_mem hF x hx;have:=Bh Q;have:=hZ x hx;omega
     .rw[U]at H;unfold vP at j;rw[oa,oa,oc]at j;obtain⟨A,B',D',r',rfl,M⟩:=Qq j H;have t:m.st=Y::Z::vd::X:=t;rw[t]at hF;have⟨_,_,q,f1,hF⟩:=av hF;cases q;have⟨_,_,q,K,hF⟩:=av hF;cases q;obtain⟨_,_,h|⟨_,h,_⟩⟩:=EW K M<;>rw[h]<;>simp
     .rw[U]at H;unfold vP at j;rw[oa,oa,oa,oa,oa,oc]at j;obtain⟨A,B',r',rfl,hA,M⟩:=Rt j H;have t:m.st=Y::Z::X:=t;rw[t]at hF;have⟨_,_,q,f1,hF⟩:=av hF;cases q;have⟨_,_,q,K,hF⟩:=av hF;cases q;exact⟨(qd f1 hA).1,(qd K M).1⟩
     .rw[hh]at n;exact n
def QE{f:Fr}{r:List Fr}(j:WT aC S m)(n:S.length<=342)(a:m.fr=f::r)(p:f.rest=[])(h:dm B O w mb en aC m) :
 Calls prog 170 #[.po mb] w (jK B O w mb en aC (Bz aC f r m)):=by
 have c:=GQ j n a p;have u:=j.len;have⟨s,hF,g⟩:=j.typed;rw[a]at g;have⟨⟨g1,g2,q,t⟩,z,o,g⟩:=g;have b:m.st.length+f.aside.length<=100000000:=od
 unfold Bz at c|-;rcases o with⟨e,_⟩|⟨e,_⟩|⟨e,_⟩|⟨e,_⟩|⟨e,_⟩
 .simp only[e,Int.reduceEq,↓reduceIte]at c|-;exact qG h a b (.inl ⟨e,rfl⟩)
 .simp only[e,↓reduceIte]at c|-
  cases k:f.aside with
  | nil=>exact qG h a b (.inr (.inl ⟨e,k,rfl⟩))
  | cons x l=>have:=JK h a e k od;rw[e]at this;exact this
 .simp only[e,Int.reduceEq,↓reduceIte]at c|-
  cases i:m.st with
  | nil=>rw[i]at c;exact c.elim
  | cons v st =>
   cases d:kJ v with
   | true=>have:=JL h a e i d;rw[e]at this;simpa[d]using this
   | false=>simp only[d,qc6,↓reduceIte];exact qG h a b (.inr (.inr (.inl ⟨v,e,i,d⟩)))
 .simp only[e,Int.reduceEq,↓reduceIte]at c|-;exact qG h a b (.inr (.inr (.inr (.inl ⟨e,rfl⟩))))
 .simp only[e,Int.reduceEq,↓reduceIte]at c|-;exact qG h a b (.inr (.inr (.inr (.inr ⟨e,rfl⟩))))
def Us(c:yH en)(i:WT aC S m)(g:S.length<=342)(n:aC<=50000)(e:m.fr≠[])(h:dm B O w mb en aC m):Calls prog 151 #[.po mb] w (jK B O w mb en aC (uB en aC m)):=by
 unfold uB
 cases a:m.fr with
 | nil=>exact absurd a e
 | cons f r =>
  simp only
  cases b:f.rest with
  | nil=>exact JS h a b λw' d=>QE i g a b (h.grow d)
  | cons o l=>exact NN h a b λw' v _ k j=>Vg c i g n a b k j
def VF(a:yH en)(j:WT aC S m)(e:S.length<=342)(g:aC<=50000)(h:dm B O w mb en aC m)(N:Nat)(d:fq en aC N m ≠ .stuck):Calls prog 129 #[.po mb] w (jK B O w mb en aC (fq en aC N m)) :=
 Sk (WT aC S) (λO' w' k f b c=>Us a b e g c f) (λk l b c i=>by have:=Fa a b e c;rw[i]at this;exact this.1) h j N d
end
