import Derived.Test.YtnamdihclpbdfaaGreatKuZao
namespace Go.Proofs.YtnamdihclpbdfaaGreat
set_option linter.all false
open Go.Proofs.Tryz
open Pe
structure Mc where
 B:Nat
 mb:Nat
 en:En
 aC:Int
 W:cg
 O:br
abbrev Mc.res (c:Mc) (ps:Nat->Ma->Prop):pq where
 G i W ok:=∃m O,ps i m/\dm c.B O W c.mb c.en c.aC m/\dB c.O c.W O W/\∀b,ok b->¬O b
 grow:=λi W ok w ⟨m,O,h0,h1,h2,h3⟩ hg=>⟨m,O,h0,h1.grow hg,h2.trans (dB.grow hg),λb hb hO=>by
  rcases hb with hb|hb
  .exact h3 b hb.2 hO
  .have:=h1.high b hO;omega⟩
def YG (mb:Nat):cm:=.po mb
def XW (mb:Nat):A1:=.one (.d (.v (YG mb)))
def BF{O a ok:br}{w w':cg}(h:dB O w a w')(d:∀b,ok b->¬O b):∀b,b<w.heap.size->ok b->¬a b/\w'.heap[b]?=w.heap[b]?:=λb f hk =>
 ⟨λe=>by rcases h.new b e with c|c;exact d b hk c;omega,h.block b f (d b hk)⟩
def ec:Go.Proofs.YtnamdihclpbdfaaGreat.Out->Int
 | .no e _=>e
 | _=>0
def oP:Go.Proofs.YtnamdihclpbdfaaGreat.Out->Ma->Prop
 | .go m=>λx=>x=m
 | .no e m=>λx=>e≠0/\x.paid=m.paid/\x.said=m.said
 | .stuck=>λ_=>False
def EM (m:Ma):Ma->Prop:=λx=>x=m
def p2 (p q:Ma->Prop):Nat->Ma->Prop
 | 0=>p
 | _+1=>q
def HM (c:Mc) (p q:Ma->Prop) (f:FuncId) (args:List A1) (res:AV):Prop:=@Holds (c.res (p2 p q)) prog (@Sp.mk f (XW c.mb::args) res ⟨some (0,1)⟩ fr0 bl0)
def HO (c:Mc) (m:Ma) (f:FuncId) (args:List A1) (o:Go.Proofs.YtnamdihclpbdfaaGreat.Out):Prop:=HM c (EM m) (oP o) f args (.of (iA (ec o)))
section
variable {c:Mc}{p q p' q':Ma->Prop}{f:FuncId}{args:List A1}{res:AV}{m:Ma}{o:Go.Proofs.YtnamdihclpbdfaaGreat.Out}
def HM.at(h:HM c p q f args res){ps:Nat->Ma->Prop}(i:Nat)(hi:∀x,ps i x->p x:=by exact λ_ h=>h)(r:∀x,q x->ps (i+1) x:=by exact λ_ h=>h) : @Holds (c.res ps) prog (@Sp.mk f (XW c.mb::args) res ⟨some (i,i+1)⟩ fr0 bl0) :=
 have o:=@Holds.OT (c.res (p2 p q)) _ _ h
 @Holds.mk (c.res ps) _ _ o λok w z ⟨m,O,j,k,l,n⟩ s=>(@Holds.runM (c.res (p2 p q)) _ _ h 0 1 rfl rfl ok w z ⟨m,O,hi m j,k,l,n⟩ s).mono
  λe A ⟨g1,a,⟨b,d,t,u,v,y⟩,g2,g⟩=>⟨g1,a,⟨b,d,r b t,u,v,y⟩,g2,g⟩
def psL (p:Ma->Prop) (l:List (Ma->Prop)):Nat->Ma->Prop
 | 0=>p
 | i+1=>(l[i]?).getD λ_=>False
def runM(l:List (Ma->Prop))(T:Hints){f:FuncId}{a:Func}(u:prog.funcs[f]?=some a)(b:List { s:Sp // @Holds (c.res (psL (EM m) l)) prog s }){args:List A1}{res:AV}{ob:List Prop}
 (h:asked (Wd (some (0,l.length)) false prog a (a.body.getD .skip) T [] (b.map (·.1)) (XW c.mb::args))=some (res,[],(b.map (·.1)).map (λs=>s.need=s.need),ob)) (hob:∀p∈ob,p) (hq:∀x,psL (EM m) l l.length x->q x:=by exact λ_ h=>h)
 (hb:a.body.isSome:=by kernel_rfl) (hn:(a.name == "runtime.NumGoroutine")=false:=by kernel_rfl):HM c (EM m) q f args res:=by
 have:=@YJ (c.res (psL (EM m) l)) ⟨some (0,l.length)⟩ f a u T [] oe b _ _ ob h hob hb hn (λ_=>rfl);have t:=@Holds.OT (c.res (psL (EM m) l)) _ _ this;exact @Holds.mk (c.res (p2 (EM m) q)) _ _ t λok w C ⟨m,O,k,n,o,r⟩ v=>(@Holds.runM (c.res (psL (EM _) l)) _ _ this 0 l.length rfl rfl ok w C ⟨m,O,k,n,o,r⟩ v).mono
  λe D ⟨g1,d,⟨g,i,y,z,A,B⟩,g2,j⟩=>⟨g1,d,⟨g,i,hq g y,z,A,B⟩,g2,j⟩
def sI(l:List Ma)(T:Hints){f:FuncId}{a:Func}(g:prog.funcs[f]?=some a)(b:List { s:Sp // @Holds (c.res (psL (EM m) (l.map EM++[oP o]))) prog s }){args:List A1}{ob:List Prop}
 (hob:∀p∈ob,p) (h:asked (Wd (some (0,l.length+1)) false prog a (a.body.getD .skip) T [] (b.map (·.1)) (XW c.mb::args))=some (.of (iA (ec o)),[],(b.map (·.1)).map (λs=>s.need=s.need),ob):=by kernel_rfl)
 (hb:a.body.isSome:=by kernel_rfl) (hn:(a.name == "runtime.NumGoroutine")=false:=by kernel_rfl):HO c m f args o:=by
 have d:(l.map EM++[oP o]).length=l.length+1:=oe
 refine runM (q:=oP o) (l.map EM++[oP o]) T g b (by rw[d];exact h) hob (λx e=>?_) hb hn;rw[d]at e;simpa[psL]using e
def eH(l:List Ma){f:FuncId}{a:Func}(d:prog.funcs[f]?=some a)(b:List { s:Sp // @Holds (c.res (psL (EM m) (l.map EM++[oP o]))) prog s }){args:List A1}
 (h:asked (Wd (some (0,l.length+1)) false prog a (a.body.getD .skip) [] [] (b.map (·.1)) (XW c.mb::args))=some (.of (iA (ec o)),[],(b.map (·.1)).map (λs=>s.need=s.need),[]):=by kernel_rfl)
 (hb:a.body.isSome:=by kernel_rfl) (hn:(a.name == "runtime.NumGoroutine")=false:=by kernel_rfl):HO c m f args o:=sI l [] d b oe h hb hn
def Ol(l:List Ma)(T:Hints){f:FuncId}{a:Func}(d:prog.funcs[f]?=some a)(b:List { s:Sp // @Holds (c.res (psL (EM m) (l.map EM))) prog s }){args:List A1}{ob:List Prop}
 (hob:∀p∈ob,p) (hq:∀x,psL (EM m) (l.map EM) l.length x->oP o x) (h:asked (Wd (some (0,l.length)) false prog a (a.body.getD .skip) T [] (b.map (·.1)) (XW c.mb::args))=some (.of (iA (ec o)),[],(b.map (·.1)).map (λs=>s.need=s.need),ob):=by kernel_rfl)
 (hb:a.body.isSome:=by kernel_rfl) (hn:(a.name == "runtime.NumGoroutine")=false:=by kernel_rfl):HO c m f args o :=
 runM (q:=oP o) (l.map EM) T d b (by rw[qc3];exact h) hob (by rw[qc3];exact hq) hb hn
def HO.of(y:∀(args:Array cm) (w:cg),(callFunc f args).run prog w =.ok (.enter f args) w)(h:∀O w vs,dm c.B O w c.mb c.en c.aC m->dU (gm (λ_=>none) (λb=>¬O b) w) args vs->Calls prog f (YG c.mb::vs).toArray w (jK c.B O w c.mb c.en c.aC o)):HO c m f args o :=
 @Holds.mk (c.res (p2 (EM m) (oP o))) _ _ ⟨y,rfl⟩ λok w vs s g=>by
  obtain⟨x,O,rfl,t,hF,k⟩:=s
  match vs,g with
  | v::vs,⟨z,g⟩ =>
   rw[bW z];refine (h O w vs t (g.mono λa v h=>gm.keep ⟨jj _,λb _ u=>⟨k b u,λ_=>rfl⟩⟩ (λ_ _ e=>e) a v h)).mono ?_;rintro e C ⟨j,d,i⟩;refine⟨d.size,λb=>¬j b,?_,BF d k,?_⟩
   .cases o with
    | stuck=>exact i.elim
    | no l m=>have⟨n,_,A,p,q,r⟩:=i;exact⟨A,j,⟨n,p,q⟩,r,hF.trans d,λb h=>h⟩
    | go m=>exact⟨m,j,rfl,i.2,hF.trans d,λb h=>h⟩
   .cases o with
    | stuck=>exact i.elim
    | no l m=>exact⟨_,i.2.1,fI.v _⟩
    | go m=>exact⟨_,i.1,fI.v _⟩
def HM.of{i:Ma}(r:∀(args:Array cm) (w:cg),(callFunc f args).run prog w =.ok (.enter f args) w)(h:∀O w vs,dm c.B O w c.mb c.en c.aC m->dU (gm (λ_=>none) (λb=>¬O b) w) args vs->Calls prog f (YG c.mb::vs).toArray w (K8 c.B O w c.mb c.en c.aC i)):HM c (EM m) (EM i) f args undefA :=
 @Holds.mk (c.res (p2 (EM m) (EM i))) _ _ ⟨r,rfl⟩ λok w vs o g=>by
  obtain⟨x,O,rfl,p,hF,k⟩:=o
  match vs,g with
  | v::vs,⟨s,g⟩ =>
   rw[bW s];refine (h O w vs p (g.mono λa v h=>gm.keep ⟨jj _,λb _ q=>⟨k b q,λ_=>rfl⟩⟩ (λ_ _ e=>e) a v h)).mono ?_;rintro e t ⟨l,j,d,n⟩;exact⟨d.size,λb=>¬j b,⟨i,j,rfl,n,hF.trans d,λb h=>h⟩,BF d k,_,l,fI.v _⟩
def HO.go{B mb:Nat}{en:En}{aC:Int}{O:br}{w:cg}(h:HO ⟨B,mb,en,aC,w,O⟩ m f args o)(i:dm B O w mb en aC m){vs:bo}(c:dU (gm (λ_=>none) (λb=>¬O b) w) args vs):Calls prog f (YG mb::vs).toArray w (jK B O w mb en aC o):=by
 refine (@Holds.runM (Mc.res ⟨B,mb,en,aC,w,O⟩ (p2 (EM m) (oP o))) _ _ h 0 1 rfl rfl (λb=>¬O b) w (YG mb::vs) ⟨m,O,rfl,i,dB.refl _ _,λ_ h=>h⟩ ⟨fI.v _,c⟩).mono ?_;rintro e r ⟨_,n,⟨l,g,a,d,k,q⟩,_,v,rfl,j⟩;have c:=bW j;subst c;refine⟨g,k,?_⟩
 cases o with
 | stuck=>exact a.elim
 | no p m=>exact⟨a.1,rfl,l,a.2.1,a.2.2,d⟩
 | go m=>cases a;exact⟨rfl,d⟩
def SC{x:Va}{st:ao}(g:m.st=x::st):HM c (EM m) (EM { m with st:=st }) 196 [] (.of (pF x)) :=
 @Holds.mk (c.res (p2 (EM m) (EM _))) _ _ (tF func196) λok w o i f=>by
  obtain⟨y,O,rfl,j,hF,k⟩:=i
  match o,f with
  | [v],⟨n,_⟩ =>
   rw[bW n];refine (yB j g).mono ?_;rintro e p ⟨u,rfl,l,a,d⟩;exact⟨a.size,λb=>¬O b,⟨_,O,rfl,d,hF.trans a,λb h=>h⟩,BF a k,u,rfl,FJ l⟩
def HO_pay:HO c m 194 [] (uH c.aC m .go):=HO.of (bK func194) λO w d a b=>by
 match d,b with
 | [],_=>exact Ff a
def vE{l:ao}(h:bz m l ≠ .stuck):vsizes l<=20000000:=by
 unfold bz at h;split at h
 .exact absurd rfl h
 .omega
def len_vsizes:∀l:ao,l.length<=vsizes l
 | []=>yv _
 | x::l=>by have:=eP x;have:=len_vsizes l;simp only[vsizes,js];omega
def IX{l:ao}(n:Nat)(hk:okVs l)(hn:n=7\/l=[])(b:bz m l ≠ .stuck)(f:m.st.length<=50000000):HO c m 207 [.one (.d (.s n (vasD l)))] (bz m l):=HO.of (bK func207) λO w i g e=>by
 match i,e with
 | [v],⟨e,_⟩ =>
  obtain⟨a,c,V,rfl,j,h⟩:=lV hk hn e;have:=len_vsizes l;have:=vE b;exact Fh g h (vE b) od
def SE(k n a:Int)(s:bp)(i j q:Nat)(args:ao)(types:aw)(code:aE)(hk:okV (.mk k n a s args types code))(u:i=7\/args=[])(z:j=2\/types=[])(A:q=5\/code=[])(o:bz m [.mk k n a s args types code] ≠ .stuck)(t:m.st.length<=50000000) :
 HO c m 207 [.one (.d (.s 7 [[.v (.i k),.v (.i n),.v (.i a),.v (.string s),.s i (vasD args),.s j (tysD types),.s q (ndsD code)]]))] (bz m [.mk k n a s args types code]):=HO.of (bK func207) λO w E B p=>by
 match E,p with
 | [v],⟨p,_⟩ =>
  have C:fI (λb=>¬O b) w (.s 7 (vasD [.mk k n a s args types code])) v:=by
   obtain⟨F,c,U,rfl,g1,g2,G,g⟩:=fH (p:fI _ w (.s 7 _) v);refine .s U g1 g2 (λx r e=>?_) (λx r y d h f=>?_) (λx r y d h f=>?_)
   .match x,e with
    | 0,e=>cases e;rfl
   .match x,h with
    | 0,h =>
     cases h
     match y,f with
     | 0,f|1,f|2,f|3,f|4,f|5,f|6,f=>exact (g 0 _ _ _ rfl rfl).1
   .match x,h with
    | 0,h =>
     cases h
     match y,f with
     | 0,f=>cases f;exact (g 0 _ 0 _ rfl rfl).2
     | 1,f=>cases f;exact (g 0 _ 1 _ rfl rfl).2
     | 2,f=>cases f;exact (g 0 _ 2 _ rfl rfl).2
     | 3,f=>cases f;exact (g 0 _ 3 _ rfl rfl).2
     | 4,f =>
      cases f;have:=(g 0 _ 4 _ rfl rfl).2;rcases u with rfl|rfl
      .exact this
      .exact gG this
     | 5,f =>
      cases f;have:=(g 0 _ 5 _ rfl rfl).2;rcases z with rfl|rfl
      .exact this
      .exact gG this
     | 6,f =>
      cases f;have:=(g 0 _ 6 _ rfl rfl).2;rcases A with rfl|rfl
      .exact this
      .exact gG this
  obtain⟨a,c,V,rfl,H,D⟩:=lV (n:=7) (l:=[.mk k n a s args types code]) ⟨hk,trivial⟩ (.inl rfl) C;exact Fh B D (vE o) ov
def OZ(f:Fr)(i j k:Nat)(l:f.op≠67/\bD f.op)(t:okNs f.rest)(p:i=5\/f.rest=[])(u:okNs f.row)(q:j=5\/f.row=[])(x:okVs f.aside)(r:k=7\/f.aside=[])(o:m.fr.length<=50000000) :
 HM c (EM m) (EM { m with fr:=f::m.fr }) 172 [.agg [.d (.s i (ndsD f.rest)),.d (.v (.i f.op)),.d (.s j (ndsD f.row)),.d (.s k (vasD f.aside))]] undefA:=HM.of (bK func172) λO w G z n=>by
 match G,n with
 | [v],⟨n,_⟩ =>
  obtain⟨H,rfl,B⟩:=n
  match H,B with
  | [a,b,c,d],⟨C,D,E,F,_⟩ =>
   obtain⟨N,P,J,rfl,e,A⟩:=xU t p C;obtain⟨Q,wc,K,rfl,g,hW⟩:=xU u q E;obtain⟨L,M,I,rfl,h,y⟩:=lV x r F;have:=bW D;subst this;exact Dp z od l A hW y ⟨e,g,h⟩
abbrev sm (m:Ma) (s:ao):Ma:={ m with st:=s }
variable {ps:Nat->Ma->Prop}
def pu (h:HM c p q f args res) (i:Nat) (hi:∀x,ps i x->p x:=by exact λ_ h=>h) (hj:∀x,q x->ps (i+1) x:=by exact λ_ h=>h):{ s:Sp // @Holds (c.res ps) prog s }:=⟨_,h.at i hi hj⟩
def Hd.up{s:Sp}{R:pq}(h:Hd s)(e:s.mv=mv0)(a:s.fr=fr0) : @Holds R prog s :=
 @Holds.any res0 R _ s h (by rw[e];rfl)
def up {s:Sp}{R:pq}(h:Hd s) (e:s.mv=mv0:=by rfl) (e2:s.fr=fr0:=by rfl):{ s:Sp // @Holds R prog s }:=⟨s,Hd.up h e e2⟩
def X0(m:Ma)(x:Va)(s:ao):HM c (EM (sm m (x::s))) (EM (sm m s)) 196 [] (.of (pF x)):=SC rfl
def tk (m:Ma) (x:Va) (s:ao) (i:Nat) (hi:∀y,ps i y->EM (sm m (x::s)) y:=by exact λ_ h=>h) (hj:∀y,EM (sm m s) y->ps (i+1) y:=by exact λ_ h=>h):{ s:Sp // @Holds (c.res ps) prog s }:=pu (X0 m x s) i hi hj
end
open Go.ChangeShapes Go.WideShapes Go.ChangeAt Go.RowKit
set_option maxRecDepth 100000
set_option maxHeartbeats 4000000
def jr{n:Int}(h:kE n):-1152921504606846976<=n/\n<=1152921504606846976:=qf7 h
def Zi{k:IntKind}{a b:Int}{w w':cg}(h:a=b)(c:w'=w):Ending.returned (.int k a) =.returned (.int k b)/\w'=w:=by rw[h];exact⟨rfl,c⟩
def P2 (w:cg) (r:Int×Int) (e:Ending) (w':cg):Prop:=e =.returned (.tuple #[.i r.1,.i r.2])/\w'=w
def GM(a:Int)(w:cg):Calls prog 175 #[.i a] w (P2 w (kF a)):=by
 unfold kF;cases h:kE a
 all_goals
  simp only[qd3,↓reduceIte];go_enter func175,ntmps175;go_wp2_with (go_at_call 87;refine (jI _ _).mono ?_;rintro e b ⟨rfl,rfl⟩;rw[h]);go_ret2;exact⟨rfl,rfl⟩
def Lc(a b:Int)(w:cg):Calls prog 157 #[.i a,.i b] w (P2 w (addN a b)):=by
 unfold addN;have c:=jh (GM (a+b));cases d:kE a<;>cases f:kE b
 all_goals simp only[qd3,and_self,and_false,jd4,↓reduceIte]
 rotate_left 3
 generalize kF (a+b)=r at c|-;have h:wrap64 (a+b)=a+b:=by have:=jr d;have:=jr f;unfold wrap64;omega
 rotate_right 3
 all_goals
  go_enter func157,ntmps157;go_wp2_with (first
   | (go_at_call 87;refine (jI _ _).mono ?_;rintro e g ⟨rfl,rfl⟩;first|rw[d]|rw[f])
   | (go_at_call 175;refine (c _).mono ?_;rintro e g ⟨rfl,rfl⟩))
  go_ret2;exact⟨rfl,rfl⟩
def Vo(a b:Int)(w:cg):Calls prog 239 #[.i a,.i b] w (P2 w (Iu a b)):=by
 unfold Iu;have c:=jh (GM (a - b));cases d:kE a<;>cases f:kE b
 all_goals simp only[qd3,and_self,and_false,jd4,↓reduceIte]
 rotate_left 3
 generalize kF (a - b)=r at c|-;have h:wrap64 (a - b)=a - b:=by have:=jr d;have:=jr f;unfold wrap64;omega
 rotate_right 3
 all_goals
  go_enter func239,ntmps239;go_wp2_with (first
   | (go_at_call 87;refine (jI _ _).mono ?_;rintro e g ⟨rfl,rfl⟩;first|rw[d]|rw[f])
   | (go_at_call 175;refine (c _).mono ?_;rintro e g ⟨rfl,rfl⟩))
  go_ret2;exact⟨rfl,rfl⟩
def o8(a:Int)(w:cg)(h:kE a):Calls prog 237 #[.i a] w λe w'=>e =.returned (.int .u64 (a.natAbs:Int))/\w'=w:=by
 have⟨c,d⟩:=jr h;rcases (by omega:a<0\/0<=a)with b|b
 all_goals
  go_enter func237,ntmps237
  go_wp2
  go_ret;exact Zi od rfl
def TA(a:Int)(w:cg):Calls prog 220 #[.i a] w (P2 w (EJ a)):=by
 unfold EJ;cases b:kE a
 all_goals simp only[qd3,↓reduceIte]
 rotate_left
 have d:(a.natAbs:Int)<=1152921504606846976:=by have:=jr b;omega
 rotate_right
 all_goals
  go_enter func220,ntmps220;go_wp2_with (first
   | (go_at_call 87;refine (jI _ _).mono ?_;rintro e c ⟨rfl,rfl⟩;rw[b])
   | (go_at_call 237;refine (o8 _ _ b).mono ?_;rintro e c ⟨rfl,rfl⟩))
  go_ret2;exact⟨rfl,rfl⟩
def ES{a b q r:Int}(hb:b≠0)(e:b*q+r=a)(h0:0<=r)(f:r<(b.natAbs:Int)):a / b=q/\a % b=r:=by
 have c:a % b=r:=by
  rw[<-e,Int.mul_add_emod_self_left];rcases Int.lt_or_gt_of_ne hb with g|h
  .rw[<-Int.emod_neg];exact Int.emod_eq_of_lt h0 od
  .exact Int.emod_eq_of_lt h0 od
 have d:b*(a / b)=b*q:=by have:=Int.mul_ediv_add_emod a b;rw[c]at this;omega
 exact⟨Int.eq_of_mul_eq_mul_left hb d,c⟩
def Cs(a:Int){b:Int}(hb:b≠0):(a.tdiv b).natAbs<=a.natAbs/\(a.tmod b).natAbs<b.natAbs/\(0<=a->0<=a.tmod b)/\(a<=0->a.tmod b<=0)/\b*a.tdiv b+a.tmod b=a:=by
 refine⟨Int.natAbs_tdiv_le_natAbs a b,?_,λh=>Int.tmod_nonneg b h,λh=>?_,Int.mul_tdiv_add_tmod a b⟩
 .rw[Int.natAbs_tmod];exact Nat.mod_lt _ od
 .have:=Int.tmod_nonneg (a:=-a) b od;rw[Int.neg_tmod]at this;omega
def R4(a:Int){b:Int}(hb:b≠0):(0<=a.tmod b->a / b=a.tdiv b/\a % b=a.tmod b)/\(a.tmod b<0->0<b->a / b=a.tdiv b - 1/\a % b=a.tmod b+b)/\(a.tmod b<0->b<0->a / b=a.tdiv b+1/\a % b=a.tmod b - b):=by
 have⟨_,d,_,_,c⟩:=Cs a hb;generalize a.tdiv b=q at *;generalize a.tmod b=r at *;refine⟨λh=>ES hb c h od,λh f=>ES hb ?_ od od,λh e=>ES hb ?_ od od⟩
 .rw[Int.mul_sub];omega
 .rw[Int.mul_add];omega
def Qi(a b:Int)(w:cg)(d:kE a)(hb:kE b):Calls prog 238 #[.i a,.i b] w λe w'=>∃q r m,e =.returned (.tuple #[.i q,.i r,.i m])/\(b=0->q=0/\r=0/\m=6)/\(b≠0->q=a / b/\r=a % b/\m=0)/\∃n,w'=w.drewN n:=by
 by_cases f:b=0
 .subst f;go_enter func238,ntmps238;go_wp2_with (go_at_call 87;refine (jI _ _).mono ?_;rintro e w' ⟨rfl,rfl⟩;first|rw[d]|rw[hb])
  go_ret3
  exact⟨0,0,6,rfl,λ_=>⟨rfl,rfl,rfl⟩,λh=>absurd rfl h,0,rfl⟩
 .have⟨g,j,k⟩:=R4 a f;have⟨t,u,v,x,y⟩:=Cs a f;have p:=jr d;have s:=jr hb;have H:(b==0)=false:=qh7.2 f;have⟨D,E⟩:-1152921504606846976<=a.tdiv b/\a.tdiv b<=1152921504606846976:=by omega
  have⟨F,G⟩:-1152921504606846976<=a.tmod b/\a.tmod b<=1152921504606846976:=od
  have⟨z,A⟩:=p;have⟨B,C⟩:=s;have l:=jh f;rcases (by omega:0<=a.tmod b\/a.tmod b<0/\0<b\/a.tmod b<0/\b<0)with h|⟨h,o⟩|⟨h,o⟩
  .have c:=jh (g h);clear g j k t u v x y;go_enter func238,ntmps238;go_wp2_with (go_at_call 87;refine (jI _ _).mono ?_;rintro e w' ⟨rfl,rfl⟩;first|rw[d]|rw[hb])
   go_quiet (fail)
   go_wp2
   go_ret3
   exact⟨_,_,0,rfl,λh=>absurd h l,λ_=>⟨c.1.symm,c.2.symm,rfl⟩,_,rfl⟩
  .have c:=jh (j h o);clear g j k t u v x y;go_enter func238,ntmps238;go_wp2_with (go_at_call 87;refine (jI _ _).mono ?_;rintro e w' ⟨rfl,rfl⟩;first|rw[d]|rw[hb])
   go_quiet (fail)
   go_wp2
   go_ret3
   exact⟨_,_,0,rfl,λh=>absurd h l,λ_=>⟨c.1.symm,c.2.symm,rfl⟩,_,rfl⟩
  .have c:=jh (k h o);clear g j k t u v x y;go_enter func238,ntmps238;go_wp2_with (go_at_call 87;refine (jI _ _).mono ?_;rintro e w' ⟨rfl,rfl⟩;first|rw[d]|rw[hb])
   go_quiet (fail)
   go_wp2
   go_ret3
   exact⟨_,_,0,rfl,λh=>absurd h l,λ_=>⟨c.1.symm,c.2.symm,rfl⟩,_,rfl⟩
def He{a b:Int}(h:(a<0/\b<0)\/(0<=a/\0<=b)):a*b=((a.natAbs*b.natAbs:Nat):Int):=by
 have c:(a*b).natAbs=a.natAbs*b.natAbs:=Int.natAbs_mul a b;have d:0<=a*b:=by
  rcases h with⟨x,y⟩|⟨x,y⟩
  .exact Int.mul_nonneg_of_nonpos_of_nonpos od od
  .exact Int.mul_nonneg x y
 rw[<-c];omega
def DY{a b:Int}(h:(a<0/\0<=b)\/(0<=a/\b<0)):a*b = -((a.natAbs*b.natAbs:Nat):Int):=by
 have c:(a*b).natAbs=a.natAbs*b.natAbs:=Int.natAbs_mul a b;have d:0 <= -(a*b):=by
  rcases h with⟨x,y⟩|⟨x,y⟩
  .rw[<-Int.neg_mul];exact Int.mul_nonneg od y
  .rw[<-Int.mul_neg];exact Int.mul_nonneg x od
 rw[<-c];omega
def Ur(a b:Int)(w:cg)(g:kE a)(hb:kE b):Calls prog 240 #[.i a,.i b] w (P2 w (mulN a b)):=by
 have p:=jr g;have q:=jr hb;have o:=λw=>DX a.natAbs b.natAbs od od w;have t:mulN a b=kF (a*b):=by unfold mulN;rw[if_pos ⟨g,hb⟩]
 rw[t];have l:(a*b).natAbs=a.natAbs*b.natAbs:=Int.natAbs_mul a b;have⟨k,j,s,f,h⟩:∃k j:Nat,a.natAbs*b.natAbs / 18446744073709551616=k/\a.natAbs*b.natAbs % 18446744073709551616=j/\(kF (a*b)=(0,11)/\(k≠0\/k=0/\(1152921504606846976:Int)<(j:Int))\/kF (a*b)=(a*b,0)/\k=0/\((j:Int)<=1152921504606846976)/\j=a.natAbs*b.natAbs):=by
  refine⟨_,_,rfl,rfl,?_⟩
  by_cases h:kE (a*b)
  .have:=jr h;exact .inr ⟨by unfold kF;rw[if_pos h],od,od,od⟩
  .have : ¬(-1152921504606846976<=a*b/\a*b<=1152921504606846976):=λc=>h (xb c);exact .inl ⟨by unfold kF;rw[if_neg h],od⟩
 rw[s,f]at o;have HM:=jh o;clear o s f t;have n:=jh l;clear l p q;rcases h with⟨e,h|⟨rfl,h⟩⟩|⟨e,rfl,h,f⟩
 .rw[e];have y:((k:Int) != 0):=by rw[bne_iff_ne];omega
  clear e h;go_enter func240,ntmps240;go_wp2_with (first
   | (go_at_call 87;refine (jI _ _).mono ?_;rintro e d ⟨rfl,rfl⟩;first|rw[g]|rw[hb])
   | (go_at_call 237;first|((with_reducible refine (o8 _ _ g).mono ?_);rintro e d ⟨rfl,rfl⟩)|((with_reducible refine (o8 _ _ hb).mono ?_);rintro e d ⟨rfl,rfl⟩))
   | (go_at_call 138;refine (HM _).mono ?_;rintro e d ⟨rfl,rfl⟩))
  go_ret2;exact⟨rfl,rfl⟩
 .rw[e];clear e;go_enter func240,ntmps240;go_wp2_with (first
   | (go_at_call 87;refine (jI _ _).mono ?_;rintro e d ⟨rfl,rfl⟩;first|rw[g]|rw[hb])
   | (go_at_call 237;first|((with_reducible refine (o8 _ _ g).mono ?_);rintro e d ⟨rfl,rfl⟩)|((with_reducible refine (o8 _ _ hb).mono ?_);rintro e d ⟨rfl,rfl⟩))
   | (go_at_call 138;refine (HM _).mono ?_;rintro e d ⟨rfl,rfl⟩))
  go_ret2;exact⟨rfl,rfl⟩
 .rw[e];have⟨r,u,m⟩:∃r,a*b=r/\(decide (a<0)=decide (b<0)/\r=(j:Int)\/decide (a<0) = !decide (b<0)/\r = -(j:Int)):=by
   refine⟨_,rfl,?_⟩;rcases (by omega:(a<0/\b<0)\/(0<=a/\0<=b)\/(a<0/\0<=b)\/(0<=a/\b<0))with h|h|h|h
   .exact .inl ⟨by rw[qg7];omega,by rw[He (.inl h),f]⟩
   .exact .inl ⟨by rw[qg7];omega,by rw[He (.inr h),f]⟩
   .exact .inr ⟨by rw[<-decide_not,qg7];omega,by rw[DY (.inl h),f]⟩
   .exact .inr ⟨by rw[<-decide_not,qg7];omega,by rw[DY (.inr h),f]⟩
  rw[u];clear e u f n;cases v:decide (a<0)<;>cases x:decide (b<0)<;>rw[v,x]at m<;>rcases m with⟨m,rfl⟩|⟨m,rfl⟩<;>first|cases m|skip
  all_goals
   go_enter func240,ntmps240;go_wp2_with (first
    | (go_at_call 87;refine (jI _ _).mono ?_;rintro e d ⟨rfl,rfl⟩;first|rw[g]|rw[hb])
    | (go_at_call 237;first|((with_reducible refine (o8 _ _ g).mono ?_);rintro e d ⟨rfl,rfl⟩)|((with_reducible refine (o8 _ _ hb).mono ?_);rintro e d ⟨rfl,rfl⟩))
    | (go_at_call 138;refine (HM _).mono ?_;rintro e d ⟨rfl,rfl⟩))
   go_ret2;exact⟨rfl,rfl⟩
def Yq(l:ao)(key:Va):j4 l key<=l.length:=by unfold j4;exact (List.takeWhile_prefix _).length_le
def TH{l:ao}{key:Va}(hi:VM l){i:Nat}(h:i<l.length)(c:gT (fU l[i]) key<0):i<j4 l key:=by
 refine qb4 λd=>?_;have b:j4 l key<l.length:=od
 have a:=PU (l:=l) (key:=key) (qu b)
 by_cases e:j4 l key=i
 .subst e;exact a c
 .exact a (sj ((List.pairwise_iff_getElem.1 hi) _ _ b h od) c)
def TI{l:ao}{key:Va}{i:Nat}(h:i<l.length)(a:¬gT (fU l[i]) key<0):j4 l key<=i:=by refine qb4 λb=>a (Em (l:=l) (List.mem_iff_getElem?.2 ⟨i,?_⟩));rw[qe4,oc,qu h]
def Xo{i j m:Nat}(hm:m=(i+j) / 2)(h:i+j<=1000000000):mD (kA .i64 (IntKind.i64.wrap ((IntKind.u64.wrap (IntKind.i64.wrap (Int.ofNat i+Int.ofNat j))).fdiv (2 ^ min (Int.toNat 1) IntKind.u64.bits)))) (jA m):=by rw[show Int.ofNat i+Int.ofNat j=((i+j:Nat):Int) by simp,iD _ od,IntKind.wrap_u64,show ((i+j:Nat):Int) % 18446744073709551616=((i+j:Nat):Int) by omega,show (2:Int) ^ min (Int.toNat 1) IntKind.u64.bits=2 by decide,Int.fdiv_eq_ediv_of_nonneg _ ot,show (((i+j:Nat):Int) / 2)=((m:Nat):Int) by omega,iD _ od];rfl
def Fu(x:Va){y:Va}(c:x.size<=20000000):Hd ⟨236,[pF x,pF y],.of (iA (gT (fU x) y))⟩:=by have a:=HZ x;have b:=Tc (x:=fU x) (y:=y) (by have:=Bu x;omega);generalize gT (fU x) y=r at *;generalize fU x=u at *;have⟨m,n,l,q,o,p,k⟩:=x;have⟨v,w,t,B,z,A,s⟩:=y;have⟨f,g,e,j,h,i,d⟩:=u;exact aF func236 [⟨_,a⟩,⟨_,b⟩]
def seQ (l:ao) (y:Va) (i:Nat):St:=[((0,0),.of (qi l)),((0,2),.of (EF 236)),((0,4),.of (.one (.p 4 0))),((5,0),.of (iA y.k)),((5,1),.of (iA y.n)),((5,2),.of (iA y.a)),((5,3),.of (.one (.d (.v (.string y.s))))),((5,4),.of (qi y.args)),((5,5),.of (.one (.d (.s 2 (tysD y.types))))),((5,6),.of (.one (.d (.s 5 (ndsD y.code))))),((0,8),lW (vasD l).length),((0,9),.of (jA i))]
def seS (l:ao) (y:Va) (i j:Nat):St:=((0,10),.of (jA j))::seQ l y i
abbrev seL (l:ao) (y:Va) (i j:Nat) (q:St):Prop:=vO prog f235.ntmps ⟨gF f235,seS l y i j,2,q⟩
def IE{l:ao}{y:Va}(s:vsizes l<=20000000)(hi:VM l):∀n i j,j - i<=n->i<=j4 l y->j4 l y<=j->j<=l.length->seL l y i j (seQ l y (j4 l y))
 | n,i,j,T,L,M,N=>by
  have S:=kS l
  by_cases O:i<j
  .have⟨m,P⟩:∃m,m=(i+j) / 2:=⟨_,rfl⟩;have c:m<l.length:=by omega
   have Q:=qu c;have q:=Fu l[m] (y:=y) (by have:=fO (yy c);omega);have h:=λo=>TH (key:=y) hi c o;have g:=λo=>TI (key:=y) c o;generalize l[m]=x at *;generalize gT (fU x) y=r at *;have f:=is_lt (a:=Int.ofNat i) (b:=Int.ofNat j) ov;have t:=Xo P od;have u:=PT Q;have R:mD (lW (IntKind.i64.wrap (Int.ofNat m+1))) (jA (m+1)):=yY (zF oe ov ov);have⟨z,A,w,D,B,C,v⟩:=x;obtain⟨n,rfl⟩:∃k,n=k+1:=⟨n - 1,od⟩
   by_cases d:r<0
   .have p:=IE s hi n (m+1) j od (h d) M N;have⟨G,H,F,K,I,J,E⟩:=y;exact LG [(17,bA true),(23,jA m),(27,.one (.e (vaD (.mk z A w D B C v)) 0)),(31,bA true),(33,jA (m+1))] [⟨_,q⟩] p (al f (al t (al u (al (is_lt d) (al R al0)))))
   .have p:=IE s hi n i m od L (g d) od;have⟨G,H,F,K,I,J,E⟩:=y;exact LG [(17,bA true),(23,jA m),(27,.one (.e (vaD (.mk z A w D B C v)) 0)),(31,bA false)] [⟨_,q⟩] p (al f (al t (al u (al (wH d) al0))))
  .obtain rfl:i=j4 l y:=by omega
   have f:=wH (a:=Int.ofNat (j4 l y)) (b:=Int.ofNat j) ov;have⟨G,H,F,K,I,J,E⟩:=y;exact xQ (e:=1) [(17,bA false)] [] (al f al0)
def Ro{l:ao}{y:Va}(c:vsizes l<=20000000)(k:risesF l):Hd ⟨235,[qi l,pF y,EF 236],.rz [iA (j4 l y:Nat),bA (fJ l y)]⟩:=by
 have g:=IE (y:=y) c ((rises_inc l).1 k) l.length 0 l.length od (yv _) (Yq l y) (jj _);have H:=Yq l y;have I:=kS l;have i:=wI (S:=seS l y 0 l.length) (q:=gF f235=gF f235) rfl (ps:=[mD (lW (vasD l).length) (jA l.length)]) (al (yY (by rw[qY];rfl)) al0)
 by_cases d:j4 l y<l.length
 .have h:=qu d;have j:=Fu l[j4 l y] (y:=y) (by have:=fO (yy d);omega);have f:=is_lt (a:=Int.ofNat (j4 l y)) (b:=((vasD l).length:Int)) oX;have n:=PT h;have e:fJ l y=decide (gT (fU l[j4 l y]) y=0):=by unfold fJ;rw[h]
  rw[e];generalize l[j4 l y]=x at *;generalize gT (fU x) y=r at *;generalize j4 l y=m at *;have⟨s,t,p,w,u,v,o⟩:=x;have⟨C,D,B,G,E,F,A⟩:=y;exact Ce func235 [(14,jA l.length),(38,bA true),(43,.one (.e (vaD (.mk s t p w u v o)) 0))] [_] (by intro z c;rw[qv]at c;subst c;exact g) [⟨_,j⟩] (jX i (al f (al n al0)))
 .have f:=wH (a:=Int.ofNat (j4 l y)) (b:=((vasD l).length:Int)) oX;have e:fJ l y=false:=by unfold fJ;rw[List.getElem?_eq_none od]
  rw[e];generalize j4 l y=m at *;have⟨C,D,B,G,E,F,A⟩:=y;exact Ce func235 [(14,jA l.length),(38,bA false)] [_] (by intro z c;rw[qv]at c;subst c;exact g) [] (jX i (al f al0))
def FN{l:ao}{y:Va}(c:vsizes l<=20000000)(a:risesF l):Hd ⟨217,[qi l,pF y],.rz [iA (j4 l y:Nat),bA (fJ l y)]⟩:=by have h:=Ro (y:=y) c a;generalize fJ l y=b at *;generalize j4 l y=m at *;have⟨f,g,e,k,i,j,d⟩:=y;exact aF func217 [⟨_,h⟩]
set_option maxHeartbeats 1000000
def uG{ok:br}{B:Nat}{w:cg}{v:cm}{l:ao}{us:bo}(r:dF B w v us)(M:us.length=l.length)(h:∀(i:Nat) (x:Va) (u:cm),l[i]?=some x->us[i]?=some u->aA ok w x u)(t:∀g,v.ownBlock=some g->ok g)(hm:l.length<=maxLen) :
 ∃(a:bj) (c:Nat) (V:bt),v =.slice a l.length c/\l.length<=c/\aT ok w l a V:=by
 have d:∀i (f:i<l.length),∃u,us[i]?=some u/\aA ok w l[i] u:=λi f=>⟨us[i],qu od,h i l[i] us[i] (qu f) (qu od)⟩;have H:∀u∈us,(nodeCells u).length=7:=λu O=>by obtain⟨i,f,rfl⟩:=qc5 O;have⟨u,e,h⟩:=d i od;rw[qu f]at e;simp at e;have⟨k,n,p,s,z,al,ac,E,tl,F,A,D,C,m⟩:=h.bg;rw[e,m];rfl
 unfold dF at r;rcases r.2 with⟨rfl,h0⟩|⟨g,o,G,rfl,I,Q,N,J,K,y⟩
 .have q:l.length=0:=by omega
  exact⟨none,0,λ_=>.i 0,by rw[q],od,od,λi f=>od,λi f=>od⟩
 .refine⟨some ⟨g,0,none⟩,o,λi=>(us[i]?).getD (.i 0),by rw[M],od,hm,λi f=>?_,λi f=>?_⟩
  .have⟨u,e,h⟩:=d i f;have⟨k,n,p,s,z,al,ac,E,tl,F,A,D,C,m⟩:=h.bg;have b:∀j x,j<7->(nodeCells u)[j]?=some x->w.cell? ⟨g,0+i*7+j,none⟩=some x:=by
    intro j x L P;have:=qd7 r (g:=g) rfl (i*7+j) x (by rw[flatV_get us H i j u e L];exact P);rw[gI,<-qg2]at this;exact this
   rw[m]at b;exact⟨g,0,rfl,t g rfl,k,n,p,s,z,al,ac,E,tl,F,A,D,C,by show (us[i]?).getD _=_;rw[e];exact m,b 0 _ od rfl,b 1 _ od rfl,b 2 _ od rfl,b 3 _ od rfl,b 4 _ od rfl,b 5 _ od rfl,b 6 _ od rfl⟩
  .have⟨u,e,h⟩:=d i f;show aA ok w l[i] ((us[i]?).getD _);rw[e];exact h
structure nI (O:br) (W w:cg) (v:cm) (l:ao) (us:bo):Prop where
 own:dF W.heap.size w v us
 len:us.length=l.length
 lies:∀(i:Nat) (x:Va) (u:cm),l[i]?=some x->us[i]?=some u->aA (λb=>¬O b) W x u
def nI.more{O:br}{W w w':cg}{v v':cm}{l l2:ao}{us ns:bo}(h:nI O W w v l us)(g:dF W.heap.size w' v' (us++ns))(f:ns.length=l2.length)(hn:∀(i:Nat) (x:Va) (u:cm),l2[i]?=some x->ns[i]?=some u->aA (λb=>¬O b) W x u):nI O W w' v' (l++l2) (us++ns):=by
 have a:=h.len;refine⟨g,by simp[a,f],λi x u d c=>?_⟩
 by_cases e:i<l.length
 .exact h.lies i x u (by rw[zd e]at d;exact d) (by rw[zd od]at c;exact c)
 .exact hn (i - l.length) x u (by rw[xf od]at d;exact d) (by rw[xf od,a]at c;exact c)
section
variable {ok:br}{w:cg}{x y:Va}
def BK{k:Int}{l:ao}(h:bD k)(a:okVs l):okV (mkV k l):=⟨⟨h,i64,i64,ot⟩,a,trivial,trivial⟩
def oN{k n:Int}(h:bD k)(hn:bD n):okV (aW k n):=⟨⟨h,hn,i64,ot⟩,trivial,trivial,trivial⟩
def si(h:okV x)(k:okV y):okV (aY x y):=BK i64 ⟨h,k,trivial⟩
def pO(h:okV x):okV (aV x):=BK i64 ⟨h,trivial⟩
def ok_none:okV noneV:=BK i64 trivial
def mP(b:Bool):okV (aZ b):=oN i64 (by cases b<;>exact i64)
end
section
variable {x y:Va}
def EA(k:Int)(l:ao):Hd ⟨213,[iA k,qi l],.of (pF (mkV k l))⟩:=Holds.val (i:=7) (j:=0) (q:=0) (al:=l) (ty:=[]) (co:=[]) (aF func213 []) (.inl rfl) (.inr rfl) (.inr rfl)
def EB(k:Int):Hd ⟨213,[iA k,nilA],.of (pF (mkV k []))⟩:=Holds.val (i:=0) (j:=0) (q:=0) (al:=[]) (ty:=[]) (co:=[]) (aF func213 []) (.inr rfl) (.inr rfl) (.inr rfl)
def eU(k n:Int):Hd ⟨214,[iA k,iA n],.of (pF (aW k n))⟩:=Holds.val (i:=0) (j:=0) (q:=0) (al:=[]) (ty:=[]) (co:=[]) (aF func214 []) (.inr rfl) (.inr rfl) (.inr rfl)
def Pq(s:bp):Hd ⟨226,[.one (.d (.v (.string s)))],.of (pF (di s))⟩:=Holds.val (i:=0) (j:=0) (q:=0) (al:=[]) (ty:=[]) (co:=[]) (aF func226 []) (.inr rfl) (.inr rfl) (.inr rfl)
def H_none:Hd ⟨210,[],.of (pF noneV)⟩:=aF func210 [⟨_,EB 9⟩]
def mU(x:Va):Hd ⟨212,[pF x],.of (pF (aV x))⟩:=by have⟨k,n,a,s,r,t,c⟩:=x;exact aF func212 [⟨_,EA 9 [.mk k n a s r t c]⟩]
def pX(x y:Va):Hd ⟨211,[pF x,pF y],.of (pF (aY x y))⟩:=by have⟨k,n,a,s,r,t,c⟩:=x;have⟨e,f,b,h,g,i,d⟩:=y;exact aF func211 [⟨_,EA 11 [.mk k n a s r t c,.mk e f b h g i d]⟩]
def AQ(a n:Int)(x:Va):Hd ⟨245,[iA a,iA n,pF x],.of (pF (aM a n x))⟩:=by have⟨k,n,a,s,r,t,c⟩:=x;exact Holds.val (i:=7) (j:=0) (q:=0) (al:=[.mk k n a s r t c]) (ty:=[]) (co:=[]) (aF func245 []) (.inl rfl) (.inr rfl) (.inr rfl)
def pJ(b:Bool):Hd ⟨225,[bA b],.of (pF (aZ b))⟩:=by
 cases b
 .exact aF func225 [⟨_,eU 2 0⟩]
 .exact aF func225 [⟨_,eU 2 1⟩]
def wX(x:Va):Hd ⟨195,[pF x],aQ (kJ x)⟩:=by have⟨k,n,a,s,r,t,c⟩:=x;exact aF func195 []
def aae(a:okV x)(b:okV y)(c:x.size<=20000000):Hd ⟨52,[pF x,pF y],aQ (Ij x y)⟩:=Te a b c
def OG (r:Int×Int):AV:=.rz [iA r.1,iA r.2]
def EC{f:FuncId}{args:List A1}{r:Int×Int}(a:∀(args:Array cm) (w:cg),(callFunc f args).run prog w =.ok (.enter f args) w)(h:∀ok w vs,dU (gm (λ_=>none) ok w) args vs->Calls prog f vs.toArray w (P2 w r)):Hd ⟨f,args,OG r⟩ :=
 ⟨⟨a,rfl⟩,λok w vs b=>(h ok w vs b).mono (by rintro e c ⟨rfl,rfl⟩;exact⟨au _ _,_,rfl,_,rfl,fI.v _,fI.v _,trivial⟩)⟩
def yD{ok:br}{w:cg}{vs:bo}{a b:Int}(h:dU (gm (λ_=>none) ok w) [iA a,iA b] vs):vs=[.i a,.i b]:=by
 match vs,h with
 | [u,v],⟨c,d,_⟩=>rw[bW c,bW d]
def VI(a b:Int):Hd ⟨157,[iA a,iA b],OG (addN a b)⟩:=EC (bK func157) λok w c h=>by rw[yD h];exact Lc a b w
def X8(a b:Int):Hd ⟨239,[iA a,iA b],OG (Iu a b)⟩:=EC (bK func239) λok w c h=>by rw[yD h];exact Vo a b w
def X6(a b:Int)(c:kE a)(hb:kE b):Hd ⟨240,[iA a,iA b],OG (mulN a b)⟩:=EC (bK func240) λok w d h=>by rw[yD h];exact Ur a b w c hb
def X3(a:Int):Hd ⟨220,[iA a],OG (EJ a)⟩:=EC (bK func220) λok w c h=>by
 match c,h with
 | [u],⟨b,_⟩=>rw[bW b];exact TA a w
def Pd(a b:Int)(f:kE a)(hb:kE b):Hd ⟨238,[iA a,iA b],.rz [iA (if b=0 then 0 else a / b),iA (if b=0 then 0 else a % b),iA (if b=0 then 6 else 0)]⟩:=⟨tF func238,λok w i h=>by
 rw[yD h];refine (Qi a b w f hb).mono ?_;rintro e j ⟨q,r,g,rfl,c,d,n,rfl⟩;refine⟨iW (au _ _) ,_,rfl,_,rfl,?_⟩
 by_cases e:b=0
 .obtain⟨rfl,rfl,rfl⟩:=c e;simp only[if_pos e];exact⟨fI.v _,fI.v _,fI.v _,trivial⟩
 .obtain⟨rfl,rfl,rfl⟩:=d e;simp only[if_neg e];exact⟨fI.v _,fI.v _,fI.v _,trivial⟩⟩
def Pj{t:Tr}(b:okN t)(a:fu t):Hd ⟨159,[ndA t],.rz [tyA (kreadT t),iA 0]⟩:=U2 b a
def tK{t:Tr}(b:okN t)(a:fu t):Hd ⟨219,[ndA t],.of (tyA (kreadT t))⟩:=by have:=Pj b a;generalize kreadT t=T at this|-;have⟨k,c⟩:=T;have⟨e,f,g,h,d⟩:=t;exact aF func219 [⟨_,this⟩]
def Pv{T:Ty}{t:Tr}(a:okT T)(b:okN t)(c:t.size<=4611686018427387903)(h:jf T t=some x):Hd ⟨154,[tyA T,ndA t],.rz [pF x,iA 0]⟩:=by have:=aet a b c;rw[h]at this;exact this
end
def fitsAll:aw->ao->Bool
 | T::s,x::l=>qC T x&&fitsAll s l
 | _,_=>true
def Yw (s:aw) (l:ao) (j:Nat):St:=[((0,1),.of (dZ s)),((0,24),.of (qi l)),((0,25),lW (vasD l).length),((0,26),.of (jA j))]
def Zv (b:Bool):Nat:=if b then 2 else 1
def Zw (b:Bool):St:=if b then []else [((0,6),aQ false)]
def JQ{s:aw}{l:ao}(A:okTs s)(y:okVs l)(r:s.length=l.length)(E:l.length<=100000)(B:∀x∈l,x.size<=6000000) :
 ∀(k j:Nat),j+k=l.length->vO prog f170.ntmps ⟨gF f170,Yw s l j,Zv (fitsAll (s.drop j) (l.drop j)),Zw (fitsAll (s.drop j) (l.drop j))⟩:=λk=>by
 induction k with
 | zero =>
  intro j w;have f:=wH (a:=Int.ofNat j) (b:=((vasD l).length:Int)) oX;have v:fitsAll (s.drop j) (l.drop j):=by rw[qb6 (by omega:l.length<=j)];cases s.drop j<;>rfl
  rw[v];exact xQ (e:=1) [(27,bA false)] [] (al f al0)
 | succ k D =>
  intro j w;have d:j<l.length:=od
  have c:j<s.length:=od
  have f:=is_lt (a:=Int.ofNat j) (b:=((vasD l).length:Int)) oX;have u:=PT (qu d);have C:mD (lW (IntKind.i64.wrap (Int.ofNat j+1))) (jA (j+1)):=yY (zF oe ov ov);have hF:=VJ (okTs_at.1 A _ (yy c)) (okVs_at.1 y _ (yy d)) (B _ (yy d));have z:=D (j+1) od;rw[km d,km c];have g:∀t a,s[j] =.nd t a->OQ s j t a:=λt a e=>EK (by rw[qu c,e]);simp only[fitsAll];generalize l[j]=x at *;generalize s[j]=T at *;generalize qC T x=b at *;have⟨t,a⟩:=T;have g:=g t a rfl;have⟨m,n,i,q,o,p,h⟩:=x
  cases b with
  | false =>
   rw[qh1];exact xQ (e:=0) [(27,bA true),(29,.one (.e (vaD (.mk m n i q o p h)) 0)),(33,.one (.e (tyD (.nd t a)) 0))] [⟨_,hF⟩] (al f (al u (al g al0)))
  | true =>
   rw[qa7];exact LG [(27,bA true),(29,.one (.e (vaD (.mk m n i q o p h)) 0)),(33,.one (.e (tyD (.nd t a)) 0)),(38,jA (j+1))] [⟨_,hF⟩] z (al f (al u (al g (al C al0))))
def rW (n:Tr) (s:aw) (l:ao):Bool:=(match codeF n s with
 | .no _=>false
 | .ok _ _=>true)&&decide (l.length=s.length)&&fitsAll s l
def Gm{n:Tr}{s x:aw}{f:Bool}(h:codeF n s =.ok f x):s.length<=40:=by
 unfold codeF at h;split at h
 .cases h
 split at h
 .cases h
 split at h
 .cases h
 omega
theorem Pn{n:Tr}{s:aw}{l:ao}(hn:okN n)(hz0:n.size<=4611686018427387904)(hs:okTs s)(hl:okVs l)(hz:∀x∈l,x.size<=6000000)(hE:∀e,codeF n s =.no e->e≠0):Hd ⟨170,[ndA n,dZ s,qi l],aQ (rW n s l)⟩:=by
 have hC:=IY hn hz0 hs;unfold rW;have⟨nk,nn,np,nz,na⟩:=n
 cases hc:codeF (.nd nk nn np nz na) s with
 | no e =>
  rw[hc]at hC;have he:=hE e hc;simp only[qh1];exact runT func170 [(18,bA true)] [⟨_,hC⟩] (ob:=[jJ (!decide (e=0)) true]) (al (eT (by simp[he])) al0)
 | ok f ts =>
  rw[hc]at hC;simp only[qa7]
  by_cases hlen:l.length=s.length
  .have hL:=JQ hs hl hlen.symm (by have:=Gm hc;omega) hz l.length 0 (by omega);rw[ja4,ja4]at hL;rw[show decide (l.length=s.length) by simpa using hlen,qa7];generalize fitsAll s l=b at *;have i1:jJ (!decide (((vasD l).length:Int)=((tysD s).length:Int))) false:=eT (by rw[qY,eY];simp[hlen])
   cases b with
   | true=>exact Ce func170 [(23,bA false)] [⟨gF f170,Yw s l 0,2,[]⟩] (by intro x hx;rw[qv]at hx;subst hx;exact hL) [⟨_,hC⟩] (ob:=[jJ (!decide (((vasD l).length:Int)=((tysD s).length:Int))) false]++((gF f170=gF f170)::(Yw s l 0).map (λx=>some x.2=some x.2))) (wI rfl (al i1 al0))
   | false=>exact Ce func170 [(23,bA false)] [⟨gF f170,Yw s l 0,1,[((0,6),aQ false)]⟩] (by intro x hx;rw[qv]at hx;subst hx;exact hL) [⟨_,hC⟩] (ob:=[jJ (!decide (((vasD l).length:Int)=((tysD s).length:Int))) false]++((gF f170=gF f170)::(Yw s l 0).map (λx=>some x.2=some x.2))) (wI rfl (al i1 al0))
  .rw[show decide (l.length=s.length)=false by simpa using hlen,qh1];have i1:jJ (!decide (((vasD l).length:Int)=((tysD s).length:Int))) true:=eT (by rw[qY,eY];simp;omega);exact runT func170 [(23,bA true)] [⟨_,hC⟩] (ob:=[jJ (!decide (((vasD l).length:Int)=((tysD s).length:Int))) true]) (al i1 al0)
def zL (n:Int):Bool:=decide (0<=n)&&decide (n<12)
def Gb (n:Int):Bool:=decide (0<=n)&&kE n
def Ah (en:En):Bool:=zL en.self&&zL en.sender&&Gb en.amount&&Gb en.balance
def vZ(n:Int)(w:cg):Calls prog 181 #[.i n] w λe w'=>e =.returned (.bool (zL n))/\w'=w:=by
 unfold zL
 by_cases h:0<=n
 .have a:decide (0<=n):=by simpa using h
  go_enter func181,ntmps181;go_wp2;go_ret;exact⟨by rw[a];rfl,rfl⟩
 .have a:decide (0<=n)=false:=by simpa using h
  have b:n<0:=od
  rw[a];go_enter func181,ntmps181;go_wp2;go_ret;exact⟨rfl,rfl⟩
def xO(n:Int)(w:cg):Calls prog 182 #[.i n] w λe w'=>e =.returned (.bool (Gb n))/\w'=w:=by
 unfold Gb;have b:=jh (jI n)
 by_cases h:0<=n
 .have a:decide (0<=n):=by simpa using h
  go_enter func182,ntmps182;go_wp2_with ((go_at_call 87;(with_reducible refine (b.out _).mono ?_);rintro e w' ⟨rfl,rfl⟩));go_ret;exact⟨by rw[a];rfl,rfl⟩
 .have a:decide (0<=n)=false:=by simpa using h
  have c:n<0:=od
  rw[a];go_enter func182,ntmps182;go_wp2;go_ret;exact⟨rfl,rfl⟩
def DD(en:En)(w:cg):Calls prog 169 #[.agg #[.i en.self,.i en.sender,.i en.amount,.i en.balance]] w λe w'=>e =.returned (.bool (Ah en))/\cq w w' none:=by
 unfold Ah;have⟨a,b,c,d⟩:=we (vZ en.self) (vZ en.sender) (xO en.amount) (xO en.balance);generalize zL en.self=f at a|-;generalize zL en.sender=g at b|-;generalize Gb en.amount=h at c|-;generalize Gb en.balance=j at d|-;cases f<;>cases g<;>cases h<;>cases j
 all_goals
  go_enter func169,ntmps169;go_wp2_with (first
   | (go_at_call 181;(with_reducible refine (a.out _).mono ?_);rintro e w' ⟨rfl,rfl⟩)
   | (go_at_call 181;(with_reducible refine (b.out _).mono ?_);rintro e w' ⟨rfl,rfl⟩)
   | (go_at_call 182;(with_reducible refine (c.out _).mono ?_);rintro e w' ⟨rfl,rfl⟩)
   | (go_at_call 182;(with_reducible refine (d.out _).mono ?_);rintro e w' ⟨rfl,rfl⟩))
  go_ret;exact⟨by first|rfl|simp,Lf.gb _⟩
noncomputable def Xf (en:En) (aC:Int) (m:Ma):Out:=open Classical in if h:∃N,fq en aC N m ≠ .stuck then fq en aC (Classical.choose h) m else .stuck
def xA{en:En}{aC:Int}{m:Ma}{N:Nat}(h:fq en aC N m ≠ .stuck):Xf en aC m=fq en aC N m:=by
 have b:∃N,fq en aC N m ≠ .stuck:=⟨N,h⟩;unfold Xf;rw[dif_pos b];have c:=Classical.choose_spec b;rcases Nat.le_total (Classical.choose b) N with a|a
 .exact (Ew _ _ c a).symm
 .exact Ew _ _ h a
structure Rs where
 code:Int
 stack:ao
 said:Va
 aC:Int
 aO:Int
def rsO:Out->Rs
 | .go m=>⟨0,m.st,zeroVa,m.paid,m.aO⟩
 | .no e m=>⟨e,[],if e=10 then m.said else zeroVa,m.paid,0⟩
 | .stuck=>⟨14,[],zeroVa,0,0⟩
noncomputable def Fy (en:En) (n:Tr) (s:aw) (l:ao) (aC:Int):Rs:=if Ah en/\rW n s l then rsO (Xf en aC (jO l n.args0))else rsO .stuck
def CU{en:En}(h:Ah en):yH en:=by simp only[Ah,zL,Gb,kE,qt,jt]at h;simp only[yH,lY,gN,jt];omega
def fitsAll_iff:∀{s:aw}{l:ao},s.length=l.length->(fitsAll s l ↔ FitS s l)
 | [],[],_=>by simp[fitsAll,FitS]
 | T::s,x::l,h=>by simp only[fitsAll,FitS,Fit,qt];rw[fitsAll_iff (by simpa using h)]
 | [],_::_,h=>by simp at h
 | _::_,[],h=>by simp at h
def zb{n:Tr}{s:aw}{l:ao} : rW n s l ↔ (∃f x,codeF n s =.ok f x)/\FitS s l:=by
 unfold rW
 cases c:codeF n s with
 | no e=>simp
 | ok f x =>
  simp only[qa7,qt,jt];constructor
  .rintro⟨a,b⟩;exact⟨⟨f,x,rfl⟩,(fitsAll_iff a.symm).1 b⟩
  .rintro⟨_,h⟩;exact⟨(fitS_len h).symm,(fitsAll_iff (fitS_len h)).2 h⟩
def Cg[Nr]{en:En}{n:Tr}{s x z:aw}{l:ao}{f:Bool}{aC:Int}(a:yH en)(hc:codeF n s =.ok f x)(e:f=false->z=x)(b:z.length<=342)(c:FitS s l)(d:Sq l):∃N,Done aC z (fq en aC N (jO l n.args0)) :=
 VE a b _ _ (Nat.lt_succ_self _) (Gg hc e c d)
def uW[Nr]{aC:Int}{z:aw}{o:Out}(h:Done aC z o):o ≠ .stuck:=λe=>by rw[e]at h;exact h
structure Fn (m:Ma):Prop where
 ok:okVs m.st
 st:m.st.length<=50000000
 fr:m.fr.length<=50000000
section
variable {c:Mc}{m:Ma}{p:Int}{ps:Nat->Ma->Prop}
def GZ{a:Va}{s:ao}(h:(sm m (a::s)).st.length<=50000000):s.length<=50000000:=by simp at h;omega
def OU{a b:Va}{s:ao}(h:(sm m (a::b::s)).st.length<=50000000):s.length<=50000000:=by simp at h;omega
def Zu{a b d:Va}{s:ao}(h:(sm m (a::b::d::s)).st.length<=50000000):s.length<=50000000:=by simp at h;omega
def pt (m:Ma) (s l:ao) (i:Nat) (hk:okVs l) (hne:bz (sm m s) l ≠ .stuck) (hl:s.length<=50000000) (hi:∀x,ps i x->EM (sm m s) x:=by exact λ_ h=>h) (hj:∀x,oP (bz (sm m s) l) x->ps (i+1) x:=by exact λ_ h=>h):{ s:Sp // @Holds (c.res ps) prog s }:=pu (IX (m:=sm m s) (l:=l) 7 hk (.inl rfl) hne hl) i hi hj
def YV (m:Ma) (s:ao) (k n a:Int) (z:bp) (x y q:Nat) (args:ao) (types:aw) (code:aE) (i:Nat) (hk:okV (.mk k n a z args types code)) (h1:x=7\/args=[]) (h2:y=2\/types=[]) (h3:q=5\/code=[]) (hne:bz (sm m s) [.mk k n a z args types code] ≠ .stuck) (hl:s.length<=50000000) (hi:∀x,ps i x->EM (sm m s) x:=by exact λ_ h=>h) (hj:∀x,oP (bz (sm m s) [.mk k n a z args types code]) x->ps (i+1) x:=by exact λ_ h=>h):{ s:Sp // @Holds (c.res ps) prog s }:=pu (SE (m:=sm m s) k n a z x y q args types code hk h1 h2 h3 hne hl) i hi hj
def YB{x y:Va} : bD (gT x y):=by unfold bD;rcases Hq x y with h|h|h<;>omega
def SI(A:p=46\/p=47\/p=48\/p=49\/p=50\/p=51\/p=53\/p=54)(y:Fn m)(e:l8 p m ≠ .stuck):HO c m 198 [iA p] (l8 p m):=by
 obtain⟨m,s,rfl⟩:∃M s,m=sm M s:=⟨m,m.st,rfl⟩;have⟨x,f,C⟩:=y;rcases A with rfl|rfl|rfl|rfl|rfl|rfl|rfl|rfl
 rotate_right
 .simp only[l8,↓reduceIte]at e|-;exact eH [] func198 [up H_none,pt m s [noneV] 0 ⟨ok_none,trivial⟩ e f]
 all_goals
  rcases s with _|⟨a,s⟩
  .exact absurd rfl e
  have⟨g,B⟩:=x;have⟨k,n,i,z,r,t,d⟩:=a
 .rcases s with _|⟨b,s⟩
  .exact absurd rfl e
  simp only[l8,Int.reduceEq,↓reduceIte]at e|-;exact eH [sm m (b::s),sm m s] func198 [tk m (.mk k n i z r t d) (b::s) 0,tk m b s 1,up (pX (.mk k n i z r t d) b),pt m s [aY (.mk k n i z r t d) b] 2 ⟨si g B.1,trivial⟩ e (OU f)]
 .simp only[l8,Int.reduceEq,↓reduceIte]at e|-;exact eH [sm m s] func198 [tk m (.mk k n i z r t d) s 0,pt m s r 1 g.2.1 e (GZ f)]
 .rcases r with _|⟨⟨l,o,j,w,q,v,h⟩,r⟩
  .exact absurd rfl e
  simp only[l8,Int.reduceEq,↓reduceIte]at e|-;exact eH [sm m s] func198 [tk m (.mk k n i z _ t d) s 0,pt m s [.mk l o j w q v h] 1 ⟨g.2.1.1,trivial⟩ e (GZ f)]
 .rcases r with _|⟨u,_|⟨⟨l,o,j,w,q,v,h⟩,r⟩⟩
  .exact absurd rfl e
  .exact absurd rfl e
  simp only[l8,Int.reduceEq,↓reduceIte]at e|-;exact eH [sm m s] func198 [tk m (.mk k n i z _ t d) s 0,pt m s [.mk l o j w q v h] 1 ⟨g.2.1.2.1,trivial⟩ e (GZ f)]
 .simp only[l8,Int.reduceEq,↓reduceIte]at e|-;exact eH [sm m s] func198 [tk m (.mk k n i z r t d) s 0,YV m s 12 0 0 ⟨#[]⟩ 7 0 0 [.mk k n i z r t d] [] [] 1 ⟨⟨i64,i64,i64,ot⟩,⟨g,trivial⟩,trivial,trivial⟩ (.inl rfl) (.inr rfl) (.inr rfl) e (GZ f)]
 .simp only[l8,Int.reduceEq,↓reduceIte]at e|-;exact eH [sm m s] func198 [tk m (.mk k n i z r t d) s 0,YV m s 12 1 0 ⟨#[]⟩ 7 0 0 [.mk k n i z r t d] [] [] 1 ⟨⟨i64,i64,i64,ot⟩,⟨g,trivial⟩,trivial,trivial⟩ (.inl rfl) (.inr rfl) (.inr rfl) e (GZ f)]
 .simp only[l8,Int.reduceEq,↓reduceIte]at e|-;exact eH [sm m s] func198 [tk m (.mk k n i z r t d) s 0,up (mU (.mk k n i z r t d)),pt m s [aV (.mk k n i z r t d)] 1 ⟨pO g,trivial⟩ e (GZ f)]
def Ww(l:p=73\/p=74\/p=75\/p=76\/p=77\/p=78\/p=79)(v:Fn m)(w:∀x∈m.st,x.size<=20000000)(e:xm p m ≠ .stuck):HO c m 203 [iA p] (xm p m):=by
 obtain⟨m,s,rfl⟩:∃M s,m=sm M s:=⟨m,m.st,rfl⟩;have⟨u,f,A⟩:=v;rcases s with _|⟨a,s⟩
 .rcases l with rfl|rfl|rfl|rfl|rfl|rfl|rfl<;>exact absurd rfl e
 have⟨B,C⟩:=u;have⟨k,n,i,z,r,t,d⟩:=a;rcases l with rfl|rfl|rfl|rfl|rfl|l
 .rcases s with _|⟨b,s⟩
  .exact absurd rfl e
  have o:bD (gT (.mk k n i z r t d) b):=YB;simp only[xm,Int.reduceEq,↓reduceIte]at e|-;exact eH [sm m (b::s),sm m s] func203 [tk m (.mk k n i z r t d) (b::s) 0,tk m b s 1,up (Tc (y:=b) (w _ (.head _))),up (eU 3 (gT (.mk k n i z r t d) b)),pt m s [aW 3 (gT (.mk k n i z r t d) b)] 2 ⟨oN i64 o,trivial⟩ e (OU f)]
 .exact eH [sm m s] func203 [tk m (.mk k n i z r t d) s 0,up (pJ (decide (n=0))),pt m s [aZ (decide (n=0))] 1 ⟨mP _,trivial⟩ e (GZ f)]
 .exact eH [sm m s] func203 [tk m (.mk k n i z r t d) s 0,up (pJ (decide (n<0))),pt m s [aZ (decide (n<0))] 1 ⟨mP _,trivial⟩ e (GZ f)]
 .simp only[xm,Int.reduceEq,↓reduceIte]at e|-;exact eH [sm m s] func203 [tk m (.mk k n i z r t d) s 0,up (pJ (decide (0<n))),pt m s [aZ (decide (0<n))] 1 ⟨mP _,trivial⟩ e (GZ f)]
 .exact eH [sm m s] func203 [tk m (.mk k n i z r t d) s 0,up (wX (.mk k n i z r t d)),up (pJ (!kJ (.mk k n i z r t d))),pt m s [aZ (!kJ (.mk k n i z r t d))] 1 ⟨mP _,trivial⟩ e (GZ f)]
 rcases s with _|⟨b,s⟩
 .rcases l with rfl|rfl<;>exact absurd rfl e
 have j:=wX (.mk k n i z r t d);have q:=wX b;have g:xm 78 (sm m (.mk k n i z r t d::b::s))=bz (sm m s) [aZ (kJ (.mk k n i z r t d)&&kJ b)]:=rfl;have h:xm 79 (sm m (.mk k n i z r t d::b::s))=bz (sm m s) [aZ (kJ (.mk k n i z r t d)||kJ b)]:=rfl;rcases l with rfl|rfl
 all_goals
  first|rw[g]at e|- | rw[h]at e|-
  clear g h;generalize kJ (.mk k n i z r t d)=x at j e|-;generalize kJ b=y at q e|-;cases x
 .exact eH [sm m (b::s),sm m s] func203 [tk m (.mk k n i z r t d) (b::s) 0,tk m b s 1,up j,up (pJ false),pt m s [aZ false] 2 ⟨mP _,trivial⟩ e (OU f)]
 .exact eH [sm m (b::s),sm m s] func203 [tk m (.mk k n i z r t d) (b::s) 0,tk m b s 1,up j,up q,up (pJ y),pt m s [aZ y] 2 ⟨mP _,trivial⟩ e (OU f)]
 .exact eH [sm m (b::s),sm m s] func203 [tk m (.mk k n i z r t d) (b::s) 0,tk m b s 1,up j,up q,up (pJ y),pt m s [aZ y] 2 ⟨mP _,trivial⟩ e (OU f)]
 .exact eH [sm m (b::s),sm m s] func203 [tk m (.mk k n i z r t d) (b::s) 0,tk m b s 1,up j,up (pJ true),pt m s [aZ true] 2 ⟨mP _,trivial⟩ e (OU f)]
end
def tl (b v:Bool):Prop:=some (aQ b)=some (.of (bA v))
def zZ{b v:Bool}(h:b=v):tl b v:=by rw[h];rfl
def fE{b v:Bool}(h:b=v):∀p∈[tl b v],p:=by simp[zZ h]
def sM{b v a c:Bool}(h:b=v)(d:a=c):∀p∈[tl b v,tl a c],p:=by simp[zZ h,zZ d]
def IC{b v a d c e:Bool}(h:b=v)(f:a=d)(g:c=e):∀p∈[tl b v,tl a d,tl c e],p:=by simp[zZ h,zZ f,zZ g]
def df{p:Prop}[Decidable p](h:¬p):decide p=false:=zE h
def dt{p:Prop}[Decidable p](h:p):decide p:=xb h
def nt{p:Prop}[Decidable p](h:¬p):(!decide p):=by simp[h]
section
variable {c:Mc}{m:Ma}{p:Int}{ps:Nat->Ma->Prop}
theorem AP{K:Int}{l:ao}(hK:bD K)(hk:okVs l)(hne:jP m K l ≠ .stuck)(hlen:m.st.length<=50000000):HO c m 215 [iA K,qi l] (jP m K l):=by
 have hl:(vasD l).length=l.length:=by simp[vasD_map]
 by_cases h:24<l.length
 .have e:jP m K l =.no 13 m:=by unfold jP;rw[if_pos h]
  rw[e];exact Ol [] [(9,bA true)] func215 [] (ob:=[tl (decide ((24:Int)<((vasD l).length:Nat))) true]) (fE (dt (by omega))) (λx hx=>by cases hx;exact⟨by decide,rfl,rfl⟩)
 .have e:jP m K l=bz m [mkV K l]:=by unfold jP;rw[if_neg h]
  rw[e]at hne|-;exact sI [] [(9,bA false)] func215 [up (EA K l),pt m m.st [mkV K l] 0 ⟨BK hK hk,trivial⟩ hne hlen] (ob:=[tl (decide ((24:Int)<((vasD l).length:Nat))) false]) (fE (df (by omega)))
def Xr{l r:ao}{x:Va}(a:okVs l)(c:okV x)(d:okVs r):okVs (uO l x r):=okVs_at.2 λy b=>by
 unfold uO at b;rcases ki.1 b with h|h
 .exact okVs_at.1 a y (qe6 h)
 .rcases ki.1 h with h|h
  .obtain⟨z,e,rfl⟩:=kB.1 h;exact si c (okVs_at.1 d z e)
  .exact okVs_at.1 a y (qh2 h)
def Mo{HU:∀l x r,okVs l->okV x->okVs r->r.length<=1->vsizes l<=9000000->risesF l->Hd ⟨218,[qi l,pF x,qi r],.of (qi (uO l x r))⟩}
 (P:p=56\/p=57\/p=59\/p=61\/p=62\/p=63) (hf:Fn m) (hz:∀x∈m.st,x.size<=9000000/\x.s.size<=10000000) (h63:p=63->∀a b d s,m.st=a::b::d::s->b.args.length<=1) (hne:fG p m ≠ .stuck):HO c m 199 [iA p] (fG p m):=by
 obtain⟨m,s,rfl⟩:∃M s,m=sm M s:=⟨m,m.st,rfl⟩;have⟨Q,I,h3⟩:=hf;have O:∀l:ao,(vasD l).length=l.length:=λl=>Ks
 rcases P with rfl|rfl|rfl|rfl|rfl|rfl
 .simp only[fG,↓reduceIte]at hne|-;exact eH [] func199 [up (EB 10),pt m s [mkV 10 []] 0 ⟨BK i64 trivial,trivial⟩ hne I]
 .rcases s with _|⟨a,_|⟨b,s⟩⟩
  .exact absurd rfl hne
  .exact absurd rfl hne
  have⟨L,J,T⟩:=Q;have H:=hz b (.tail _ (.head _));have⟨k,n,i,z,r,t,d⟩:=a;have⟨o,n1,j,w,f,v,g⟩:=b;have hl:f.length<=10000000:=by have:=len_vsizes f;have:=H.1;simp only[Va.size]at this;omega
  simp only[fG,Int.reduceEq,↓reduceIte]at hne|-;exact eH [sm m (.mk o n1 j w f v g::s),sm m s] func199 [tk m (.mk k n i z r t d) (.mk o n1 j w f v g::s) 0,tk m (.mk o n1 j w f v g) s 1,up (Da (m:=7) (n:=7) (l:=[.mk k n i z r t d]) (r:=f) (.inl rfl) (.inl rfl) ov),pu (AP (m:=sm m s) (K:=10) (l:=.mk k n i z r t d::f) i64 ⟨L,J.2.1⟩ hne (OU I)) 2]
 .rcases s with _|⟨a,s⟩
  .exact absurd rfl hne
  have⟨L,J⟩:=Q;have H:=hz a (.head _);have⟨k,n,i,z,r,t,d⟩:=a;have hl:=O r;have aa:r.length<=10000000:=by have:=len_vsizes r;have:=H.1;simp only[Va.size]at this;omega
  have ab:z.size<=10000000:=H.2;simp only[fG,Int.reduceEq,↓reduceIte]at hne|-;exact sI [sm m s] [(39,iA ((z.size+r.length:Nat):Int))] func199 [tk m (.mk k n i z r t d) s 0,up (eU 4 ((z.size+r.length:Nat):Int)),pt m s [aW 4 ((z.size+r.length:Nat):Int)] 1 ⟨oN i64 vm,trivial⟩ hne (GZ I)]
   (ob:=[some (lW (IntKind.i64.wrap ((z.size:Int)+((vasD r).length:Int))))=some (.of (iA ((z.size+r.length:Nat):Int)))]) (by intro p P;rw[qv.1 P,hl,show (z.size:Int)+(r.length:Int)=((z.size+r.length:Nat):Int) by omega,iD _ od];rfl)
 .simp only[fG,Int.reduceEq,↓reduceIte]at hne|-;exact eH [] func199 [up (EB 13),pt m s [mkV 13 []] 0 ⟨BK i64 trivial,trivial⟩ hne I]
 .rcases s with _|⟨a,_|⟨b,s⟩⟩
  .exact absurd rfl hne
  .exact absurd rfl hne
  have⟨L,J,T⟩:=Q;have H:=hz b (.tail _ (.head _));have⟨o,n1,j,w,f,v,g⟩:=b;have N:risesF f:=by
   cases h:risesF f with
   | true=>rfl
   | false=>exact absurd (by simp only[fG,Va.args,Int.reduceEq,↓reduceIte,h];rfl) hne
  have R:=FN (y:=a) (by have:=H.1;simp only[Va.size]at this;omega) N;have e:fG 62 (sm m (a :: .mk o n1 j w f v g::s))=if fJ f a then (match f[j4 f a]? with
   | some x=>(match x.args with
    | _::y::_=>bz (sm m s) [aV y]
    | _=>.stuck)
   | none=>.stuck)else bz (sm m s) [noneV]:=by simp only[fG,Va.args,Int.reduceEq,↓reduceIte,N];rfl
  rw[e]at hne|-;clear e
  cases hF:fJ f a with
  | false =>
   rw[hF]at hne R;simp only[qd3,↓reduceIte]at hne|-;exact eH [sm m (.mk o n1 j w f v g::s),sm m s] func199 [tk m a (.mk o n1 j w f v g::s) 0,tk m (.mk o n1 j w f v g) s 1,up R,up H_none,pt m s [noneV] 2 ⟨ok_none,trivial⟩ hne (OU I)]
  | true =>
   rw[hF]at hne R;simp only[↓reduceIte]at hne|-
   cases S:f[j4 f a]? with
   | none=>rw[S]at hne;exact absurd rfl hne
   | some q =>
    rw[S]at hne;have Y:=okVs_at.1 J.2.1 q (ka S);have hi:Bp 7 7 (vasD f) (j4 f a)=some (.of (.one (.e (vaD q) 0))):=by unfold Bp;rw[vasD_map,qb0,S];have⟨X,nq,W,zq,rq,Z,U⟩:=q;rfl
    have⟨X,nq,W,zq,rq,Z,U⟩:=q;rcases rq with _|⟨u,_|⟨⟨D,E,C,G,A,F,B⟩,rq⟩⟩
    .exact absurd rfl hne
    .exact absurd rfl hne
    simp only at hne|-;exact sI [sm m (.mk o n1 j w f v g::s),sm m s] [(79,.one (.e (vaD (.mk X nq W zq (u :: .mk D E C G A F B::rq) Z U)) 0))] func199 [tk m a (.mk o n1 j w f v g::s) 0,tk m (.mk o n1 j w f v g) s 1,up R,up (mU (.mk D E C G A F B)),pt m s [aV (.mk D E C G A F B)] 2 ⟨pO Y.2.1.2.1,trivial⟩ hne (OU I)]
     (ob:=[Bp 7 7 (vasD f) (j4 f a)=some (.of (.one (.e (vaD (.mk X nq W zq (u :: .mk D E C G A F B::rq) Z U)) 0)))]) (λp P=>by rw[qv.1 P];exact hi)
 .rcases s with _|⟨a,_|⟨b,_|⟨d,s⟩⟩⟩
  .exact absurd rfl hne
  .exact absurd rfl hne
  .exact absurd rfl hne
  have⟨L,J,T,q4⟩:=Q;have H:=hz d (.tail _ (.tail _ (.head _)));have N:risesF d.args:=by
   cases h:risesF d.args with
   | true=>rfl
   | false=>exact absurd (by simp only[fG,Int.reduceEq,↓reduceIte,h];rfl) hne
  have V:=h63 rfl a b d s rfl;have e:fG 63 (sm m (a::b::d::s))=jP (sm m s) 13 (uO d.args a b.args):=by simp only[fG,Int.reduceEq,↓reduceIte,N]
  rw[e]at hne|-;have⟨o,n1,j,w,f,v,g⟩:=b;have⟨D,E,C,G,A,F,B⟩:=d;exact eH [sm m (.mk o n1 j w f v g :: .mk D E C G A F B::s),sm m (.mk D E C G A F B::s),sm m s] func199 [tk m a (.mk o n1 j w f v g :: .mk D E C G A F B::s) 0,tk m (.mk o n1 j w f v g) (.mk D E C G A F B::s) 1,tk m (.mk D E C G A F B) s 2,
   up (HU A a f T.2.1 L J.2.1 V (by have:=H.1;simp only[Va.size]at this;omega) N),pu (AP (m:=sm m s) (K:=13) (l:=uO A a f) i64 (Xr T.2.1 L J.2.1) hne (Zu I)) 3]
def pI{K n e:Int}(hK:bD K)(hn:bD n)(b:oV m K (n,e) ≠ .stuck)(a:m.st.length<=50000000):HO c m 221 [iA K,iA n,iA e] (oV m K (n,e)):=by
 by_cases h:e=0
 .subst h;simp only[oV,↓reduceIte]at b|-;exact eH [] func221 [up (eU K n),pt m m.st [aW K n] 0 ⟨oN hK hn,trivial⟩ b a]
 .have d:oV m K (n,e) =.no e m:=by unfold oV;rw[if_neg h]
  rw[d];exact Ol [] [(10,bA true)] func221 [] (fE (nt h)) (λx f=>by cases f;exact⟨h,rfl,rfl⟩)
def SK{a b:Int}(c:kE a)(hb:kE b)(h:b=0):Hd ⟨238,[iA a,iA b],.rz [iA 0,iA 0,iA 6]⟩:=by have:=Pd a b c hb;simp only[h,↓reduceIte]at this|-;exact this
def wV{a b:Int}(c:kE a)(hb:kE b)(h:b≠0):Hd ⟨238,[iA a,iA b],.rz [iA (a / b),iA (a % b),iA 0]⟩:=by have:=Pd a b c hb;simp only[h,↓reduceIte]at this|-;exact this
def Xb{a b:Int}(c:kE a)(hb:kE b)(h:b≠0):bD (a / b)/\bD (a % b):=by have d:=jr c;have e:=jr hb;have f:=R4 a h;have g:=Cs a h;unfold bD;omega
def Mm{a b:Va}(l:kE a.n)(hb:kE b.n)(g:Gu m a b ≠ .stuck)(j:m.st.length<=50000000):HO c m 222 [pF a,pF b] (Gu m a b):=by
 have⟨k,n,i,z,r,t,d⟩:=a;have⟨o,f,v,B,w,A,u⟩:=b;have l:kE n:=l;have hb:kE f:=hb
 by_cases h:f=0
 .have e:Gu m (.mk k n i z r t d) (.mk o f v B w A u)=bz m [noneV]:=by subst h;simp[Gu,Va.n,l,hb]
  rw[e]at g|-;exact eH [] func222 [up (SK l hb h),up H_none,pt m m.st [noneV] 0 ⟨ok_none,trivial⟩ g j]
 .have e:Gu m (.mk k n i z r t d) (.mk o f v B w A u)=bz m [aV (aY (aW (rH k o).1 (n / f)) (aW (rH k o).2 (n % f)))]:=by simp[Gu,Va.n,Va.k,l,hb,h]
  rw[e]at g|-;have⟨E,F⟩:=Xb l hb h;clear e;have ok:∀x y:Int,bD x->bD y->okVs [aV (aY (aW x (n / f)) (aW y (n % f)))]:=λx y C D=>⟨pO (si (oN C E) (oN D F)),trivial⟩
  by_cases q:k=5
  .subst q
   by_cases p:o=5
   .subst p;simp only[rH,and_self,↓reduceIte]at g|-;exact eH [] func222 [up (wV l hb h),up (eU 4 (n / f)),up (eU 5 (n % f)),up (pX (aW 4 (n / f)) (aW 5 (n % f))),up (mU (aY (aW 4 (n / f)) (aW 5 (n % f)))),pt m m.st [aV (aY (aW 4 (n / f)) (aW 5 (n % f)))] 0 (ok _ _ i64 i64) g j]
   .have e:rH 5 o=(5,5):=by simp[rH,p]
    rw[e]at g|-;exact sI [] [(39,bA false)] func222 [up (wV l hb h),up (eU 5 (n / f)),up (eU 5 (n % f)),up (pX (aW 5 (n / f)) (aW 5 (n % f))),up (mU (aY (aW 5 (n / f)) (aW 5 (n % f)))),pt m m.st [aV (aY (aW 5 (n / f)) (aW 5 (n % f)))] 0 (ok _ _ i64 i64) g j] (fE (df p))
  .by_cases s:k=4
   .subst s
    by_cases p:o=4
    .subst p;simp only[rH,Int.reduceEq,and_self,↓reduceIte]at g|-;exact eH [] func222 [up (wV l hb h),up (eU 4 (n / f)),up (eU 4 (n % f)),up (pX (aW 4 (n / f)) (aW 4 (n % f))),up (mU (aY (aW 4 (n / f)) (aW 4 (n % f)))),pt m m.st [aV (aY (aW 4 (n / f)) (aW 4 (n % f)))] 0 (ok _ _ i64 i64) g j]
    .have e:rH 4 o=(3,4):=by simp[rH,p]
     rw[e]at g|-;exact sI [] [(52,bA false)] func222 [up (wV l hb h),up (eU 3 (n / f)),up (eU 4 (n % f)),up (pX (aW 3 (n / f)) (aW 4 (n % f))),up (mU (aY (aW 3 (n / f)) (aW 4 (n % f)))),pt m m.st [aV (aY (aW 3 (n / f)) (aW 4 (n % f)))] 0 (ok _ _ i64 i64) g j] (fE (df p))
   .have e:rH k o=(3,4):=by simp[rH,q,s]
    rw[e]at g|-;exact sI [] [(35,bA false),(44,bA false),(48,bA false)] func222 [up (wV l hb h),up (eU 3 (n / f)),up (eU 4 (n % f)),up (pX (aW 3 (n / f)) (aW 4 (n % f))),up (mU (aY (aW 3 (n / f)) (aW 4 (n % f)))),pt m m.st [aV (aY (aW 3 (n / f)) (aW 4 (n % f)))] 0 (ok _ _ i64 i64) g j] (IC (df q) (df q) (df s))
def Mq{a b:Int}(d:p=69\/p=70\/p=71)(c:kE a)(hb:kE b):Hd ⟨223,[iA p,iA a,iA b],OG (iU p a b)⟩:=by
 rcases d with rfl|rfl|rfl
 .exact aF func223 [⟨_,VI a b⟩]
 .exact aF func223 [⟨_,X8 a b⟩]
 .exact aF func223 [⟨_,X6 a b c hb⟩]
def Ph{a b:Int}(f:p=69\/p=70\/p=71):Hd ⟨224,[iA p,iA a,iA b],.of (iA (mK p a b))⟩:=by
 by_cases d:a=5
 .subst d;rcases f with rfl|rfl|rfl<;>exact aF func224 []
 by_cases c:b=5
 .subst c;have e:mK p a 5=5:=by simp[mK]
  rw[e];rcases f with rfl|rfl|rfl<;>exact runT func224 [(9,bA false)] [] (fE (df d))
 by_cases g:a=4
 .subst g
  by_cases h:b=4
  .subst h;rcases f with rfl|rfl|rfl<;>exact aF func224 []
  .have e:mK p 4 b=3:=by simp[mK,c,h]
   rw[e];rcases f with rfl|rfl|rfl
   .exact runT func224 [(12,bA false),(23,bA false)] [] (sM (df c) (df h))
   .exact runT func224 [(12,bA false)] [] (fE (df c))
   .exact runT func224 [(12,bA false),(23,bA false)] [] (sM (df c) (df h))
 .have e:mK p a b=3:=by simp[mK,d,c,g]
  rw[e];rcases f with rfl|rfl|rfl
  .exact runT func224 [(9,bA false),(12,bA false),(19,bA false)] [] (IC (df d) (df c) (df g))
  .exact runT func224 [(9,bA false),(12,bA false)] [] (sM (df d) (df c))
  .exact runT func224 [(9,bA false),(12,bA false),(19,bA false)] [] (IC (df d) (df c) (df g))
def Xn{p a b:Int} : bD (mK p a b):=by
 unfold mK;split
 .exact i64
 .split<;>exact i64
def QB{r:Int} : bD (kF r).1:=by
 unfold kF;split
 .rename_i h;have:=jr h;unfold bD;omega
 .exact i64
def Ru{a b:Int} : bD (iU p a b).1:=by
 unfold iU addN Iu mulN
 repeat' split
 all_goals first|exact QB|exact i64
def Yk{a:Int} : bD (EJ a).1:=by
 unfold EJ;split
 .rename_i h;have:=jr h;unfold bD;show _/\_;simp only;omega
 .exact i64
def Mr(D:p=69\/p=70\/p=71\/p=72\/p=93\/p=94\/p=95)(Q:Fn m)(hb:(p=69\/p=70\/p=71\/p=72)->∀a b s,m.st=a::b::s->kE a.n/\kE b.n)(f:gL p m ≠ .stuck):HO c m 202 [iA p] (gL p m):=by
 obtain⟨m,s,rfl⟩:∃M s,m=sm M s:=⟨m,m.st,rfl⟩;have⟨P,N,R⟩:=Q;rcases s with _|⟨a,s⟩
 .exact absurd rfl f
 have⟨O,S⟩:=P;have⟨k,n,i,z,r,t,d⟩:=a;have B:=GZ N
 by_cases F:p=93
 .subst F;simp only[gL,↓reduceIte]at f|-;exact eH [sm m s] func202 [tk m (.mk k n i z r t d) s 0,up (X3 n),pu (pI (m:=sm m s) (K:=4) (n:=(EJ n).1) (e:=(EJ n).2) i64 Yk f B) 1]
 by_cases G:p=94
 .subst G
  by_cases h:n<0
  .have e:gL 94 (sm m (.mk k n i z r t d::s))=bz (sm m s) [noneV]:=by simp[gL,Va.n,h]
   rw[e]at f|-;exact sI [sm m s] [(30,bA true)] func202 [tk m (.mk k n i z r t d) s 0,up H_none,pt m s [noneV] 1 ⟨ok_none,trivial⟩ f B] (fE (dt h))
  .have e:gL 94 (sm m (.mk k n i z r t d::s))=bz (sm m s) [aV (aW 4 n)]:=by simp[gL,Va.n,h]
   rw[e]at f|-;exact sI [sm m s] [(30,bA false)] func202 [tk m (.mk k n i z r t d) s 0,up (eU 4 n),up (mU (aW 4 n)),pt m s [aV (aW 4 n)] 1 ⟨pO (oN i64 O.1.2.1),trivial⟩ f B] (fE (df h))
 by_cases H:p=95
 .subst H;simp only[gL,Int.reduceEq,↓reduceIte]at f|-;exact eH [sm m s] func202 [tk m (.mk k n i z r t d) s 0,up (eU 3 n),pt m s [aW 3 n] 1 ⟨oN i64 O.1.2.1,trivial⟩ f B]
 replace D:p=69\/p=70\/p=71\/p=72:=od
 rcases s with _|⟨b,s⟩
 .rcases D with rfl|rfl|rfl|rfl<;>exact absurd rfl f
 have⟨J,L⟩:=hb D _ b s rfl;have⟨o,l,u,x,v,w,q⟩:=b;replace B:=OU N
 by_cases E:p=72
 .subst E;simp only[gL,Int.reduceEq,↓reduceIte]at f|-;exact eH [sm m (.mk o l u x v w q::s),sm m s] func202 [tk m (.mk k n i z r t d) (.mk o l u x v w q::s) 0,tk m (.mk o l u x v w q) s 1,pu (Mm (m:=sm m s) J L f B) 2]
 replace D:p=69\/p=70\/p=71:=od
 have hK:=Ph (a:=k) (b:=o) D;have C:=Mq D J L;have A:=Ru (p:=p) (a:=n) (b:=l)
 by_cases I:p=70/\k=5
 .obtain⟨rfl,rfl⟩:=I;have e:gL 70 (sm m (.mk 5 n i z r t d :: .mk o l u x v w q::s))=bz (sm m s) [if (iU 70 n l).1<0 then noneV else aV (aW 5 (iU 70 n l).1)]:=by simp only[gL,Va.n,Va.k,Int.reduceEq,↓reduceIte,and_self];rfl
  rw[e]at f|-;clear e hK;simp only[Va.n]at C;generalize iU 70 n l=g at f C A|-
  by_cases h:g.1<0
  .simp only[h,↓reduceIte]at f|-;exact sI [sm m (.mk o l u x v w q::s),sm m s] [(76,bA true)] func202 [tk m (.mk 5 n i z r t d) (.mk o l u x v w q::s) 0,tk m (.mk o l u x v w q) s 1,up C,up H_none,pt m s [noneV] 2 ⟨ok_none,trivial⟩ f B] (fE (dt h))
  .simp only[h,↓reduceIte]at f|-;exact sI [sm m (.mk o l u x v w q::s),sm m s] [(76,bA false)] func202 [tk m (.mk 5 n i z r t d) (.mk o l u x v w q::s) 0,tk m (.mk o l u x v w q) s 1,up C,up (eU 5 g.1),up (mU (aW 5 g.1)),pt m s [aV (aW 5 g.1)] 2 ⟨pO (oN i64 A),trivial⟩ f B] (fE (df h))
 .have e:gL p (sm m (.mk k n i z r t d :: .mk o l u x v w q::s))=oV (sm m s) (mK p k o) (iU p n l):=by simp only[gL,F,G,H,E,I,↓reduceIte,Va.n,Va.k]
  rw[e]at f|-;clear e;have y:=Xn (p:=p) (a:=k) (b:=o);simp only[Va.n]at C;generalize iU p n l=g at f C A|-;generalize mK p k o=j at f hK y|-;have⟨g1,g2⟩:=g;rcases D with rfl|rfl|rfl
  .exact eH [sm m (.mk o l u x v w q::s),sm m s] func202 [tk m (.mk k n i z r t d) (.mk o l u x v w q::s) 0,tk m (.mk o l u x v w q) s 1,up C,up hK,pu (pI (m:=sm m s) (K:=j) (n:=g1) (e:=g2) y A f B) 2]
  .exact sI [sm m (.mk o l u x v w q::s),sm m s] [(73,bA false)] func202 [tk m (.mk k n i z r t d) (.mk o l u x v w q::s) 0,tk m (.mk o l u x v w q) s 1,up C,up hK,pu (pI (m:=sm m s) (K:=j) (n:=g1) (e:=g2) y A f B) 2] (fE (df (λh=>I ⟨rfl,h⟩)))
  .exact eH [sm m (.mk o l u x v w q::s),sm m s] func202 [tk m (.mk k n i z r t d) (.mk o l u x v w q::s) 0,tk m (.mk o l u x v w q) s 1,up C,up hK,pu (pI (m:=sm m s) (K:=j) (n:=g1) (e:=g2) y A f B) 2]
end
