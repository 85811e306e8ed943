import Derived.Test.YtgfdimkbfnpepaaGreatKfZan
namespace Go.Proofs.YtgfdimkbfnpepaaGreat
set_option linter.all false
open Go.Proofs.Tryz
open Pe
structure Mc where
 B:Nat
 mb:Nat
 en:En
 aC:Int
 W:bx
 O:br
abbrev Mc.res (c:Mc) (ps:Nat->Ma->Prop):pq where
 G i W ok:=∃m O,ps i m/\dm c.B O W c.mb c.en c.aC m/\dB c.O c.W O W/\∀b,ok b->¬O b
 grow:=λi W ok w ⟨m,O,h0,h1,h2,h3⟩ hg=>⟨m,O,h0,h1.grow hg,h2.trans (dB.grow hg),λb hb hO=>by
  rcases hb with hb|hb
  .exact h3 b hb.2 hO
  .have:=h1.high b hO;omega⟩
def YG (mb:Nat):cg:=.po mb
def XW (mb:Nat):A1:=.one (.d (.v (YG mb)))
def BF{O a ok:br}{w w':bx}(h:dB O w a w')(d:∀b,ok b->¬O b):∀b,b<w.heap.size->ok b->¬a b/\w'.heap[b]?=w.heap[b]?:=λb f hk =>
 ⟨λe=>by rcases h.new b e with c|c;exact d b hk c;omega,h.block b f (d b hk)⟩
def ec:Go.Proofs.YtgfdimkbfnpepaaGreat.Out->Int
 | .no e _=>e
 | _=>0
def oP:Go.Proofs.YtgfdimkbfnpepaaGreat.Out->Ma->Prop
 | .go m=>λx=>x=m
 | .no e m=>λx=>e≠0/\x.paid=m.paid/\x.said=m.said
 | .stuck=>λ_=>False
def EM (m:Ma):Ma->Prop:=λx=>x=m
def p2 (p q:Ma->Prop):Nat->Ma->Prop
 | 0=>p
 | _+1=>q
def HM (c:Mc) (p q:Ma->Prop) (f:FuncId) (args:List A1) (res:AV):Prop:=@Holds (c.res (p2 p q)) prog (@Sp.mk f (XW c.mb::args) res ⟨some (0,1)⟩ fr0)
def HO (c:Mc) (m:Ma) (f:FuncId) (args:List A1) (o:Go.Proofs.YtgfdimkbfnpepaaGreat.Out):Prop:=HM c (EM m) (oP o) f args (.of (iA (ec o)))
section
variable {c:Mc}{p q p' q':Ma->Prop}{f:FuncId}{args:List A1}{res:AV}{m:Ma}{o:Go.Proofs.YtgfdimkbfnpepaaGreat.Out}
def HM.at(h:HM c p q f args res){ps:Nat->Ma->Prop}(i:Nat)(hi:∀x,ps i x->p x:=by exact λ_ h=>h)(t:∀x,q x->ps (i+1) x:=by exact λ_ h=>h) : @Holds (c.res ps) prog (@Sp.mk f (XW c.mb::args) res ⟨some (i,i+1)⟩ fr0) :=
 have s:=@Holds.OT (c.res (p2 p q)) _ _ h
 @Holds.mk (c.res ps) _ _ s λB w C ⟨m,O,l,n,o,r⟩ u=>(@Holds.runM (c.res (p2 p q)) _ _ h 0 1 rfl B w C ⟨m,O,hi m l,n,o,r⟩ u).mono
  λe D ⟨g,a,⟨b,d,v,y,z,A⟩,j,k⟩=>⟨g,a,⟨b,d,t b v,y,z,A⟩,j,k⟩
def HM.mono(h:HM c p q f args res)(hi:∀x,p' x->p x)(a:∀x,q x->q' x):HM c p' q' f args res:=h.at (ps:=p2 p' q') 0 hi a
def Sq (p:Ma->Prop) (l:List (Ma->Prop)):Nat->Ma->Prop
 | 0=>p
 | i+1=>(l[i]?).getD λ_=>False
def runM(l:List (Ma->Prop))(T:Hints){f:FuncId}{a:Func}(z:prog.funcs[f]?=some a)(d:List { s:Sp // @Holds (c.res (Sq (EM m) l)) prog s }){args:List A1}{b:AV}{ob:List Prop}
 (h:asked (Wd (some (0,l.length)) false prog a (a.body.getD .skip) T [] (d.map (·.1)) (XW c.mb::args))=some (b,[],(d.map (·.1)).map (λs=>s.args=s.args),ob)) (hob:∀p∈ob,p) (hq:∀x,Sq (EM m) l l.length x->q x:=by exact λ_ h=>h)
 (hb:a.body.isSome:=by kernel_rfl) (hn:(a.name == "runtime.NumGoroutine")=false:=by kernel_rfl):HM c (EM m) q f args b:=by
 have:=@YJ (c.res (Sq (EM m) l)) ⟨some (0,l.length)⟩ f a z T [] ot d _ _ ob h hob hb hn;have y:=@Holds.OT (c.res (Sq (EM m) l)) _ _ this;exact @Holds.mk (c.res (p2 (EM m) q)) _ _ y λF w G ⟨m,O,r,t,u,v⟩ A=>(@Holds.runM (c.res (Sq (EM _) l)) _ _ this 0 l.length rfl F w G ⟨m,O,r,t,u,v⟩ A).mono
  λe H ⟨k,g,⟨i,j,B,C,D,E⟩,n,o⟩=>⟨k,g,⟨i,j,hq i B,C,D,E⟩,n,o⟩
def sI(l:List Ma)(T:Hints){f:FuncId}{a:Func}(g:prog.funcs[f]?=some a)(b:List { s:Sp // @Holds (c.res (Sq (EM m) (l.map EM++[oP o]))) prog s }){args:List A1}{ob:List Prop}
 (hob:∀p∈ob,p) (h:asked (Wd (some (0,l.length+1)) false prog a (a.body.getD .skip) T [] (b.map (·.1)) (XW c.mb::args))=some (.of (iA (ec o)),[],(b.map (·.1)).map (λs=>s.args=s.args),ob):=by kernel_rfl)
 (hb:a.body.isSome:=by kernel_rfl) (hn:(a.name == "runtime.NumGoroutine")=false:=by kernel_rfl):HO c m f args o:=by
 have d:(l.map EM++[oP o]).length=l.length+1:=ot
 refine runM (q:=oP o) (l.map EM++[oP o]) T g b (by rw[d];exact h) hob (λx e=>?_) hb hn;rw[d]at e;simpa[Sq]using e
def eH(l:List Ma){f:FuncId}{a:Func}(d:prog.funcs[f]?=some a)(b:List { s:Sp // @Holds (c.res (Sq (EM m) (l.map EM++[oP o]))) prog s }){args:List A1}
 (h:asked (Wd (some (0,l.length+1)) false prog a (a.body.getD .skip) [] [] (b.map (·.1)) (XW c.mb::args))=some (.of (iA (ec o)),[],(b.map (·.1)).map (λs=>s.args=s.args),[]):=by kernel_rfl)
 (hb:a.body.isSome:=by kernel_rfl) (hn:(a.name == "runtime.NumGoroutine")=false:=by kernel_rfl):HO c m f args o:=sI l [] d b ot h hb hn
def Ol(l:List Ma)(T:Hints){f:FuncId}{a:Func}(d:prog.funcs[f]?=some a)(b:List { s:Sp // @Holds (c.res (Sq (EM m) (l.map EM))) prog s }){args:List A1}{ob:List Prop}
 (hob:∀p∈ob,p) (hq:∀x,Sq (EM m) (l.map EM) l.length x->oP o x) (h:asked (Wd (some (0,l.length)) false prog a (a.body.getD .skip) T [] (b.map (·.1)) (XW c.mb::args))=some (.of (iA (ec o)),[],(b.map (·.1)).map (λs=>s.args=s.args),ob):=by kernel_rfl)
 (hb:a.body.isSome:=by kernel_rfl) (hn:(a.name == "runtime.NumGoroutine")=false:=by kernel_rfl):HO c m f args o :=
 runM (q:=oP o) (l.map EM) T d b (by rw[qe7];exact h) hob (by rw[qe7];exact hq) hb hn
def HO.of(y:∀(args:Array cg) (w:bx),(callFunc f args).run prog w =.ok (.enter f args) w)(h:∀O w vs,dm c.B O w c.mb c.en c.aC m->dU (gm (λ_=>none) (λb=>¬O b) w) args vs->Calls prog f (YG c.mb::vs).toArray w (jK c.B O w c.mb c.en c.aC o)):HO c m f args o :=
 @Holds.mk (c.res (p2 (EM m) (oP o))) _ _ ⟨y,rfl⟩ λok w vs s g=>by
  obtain⟨x,O,rfl,t,hF,k⟩:=s
  match vs,g with
  | v::vs,⟨z,g⟩ =>
   rw[bW z];refine (h O w vs t (g.mono λa v h=>gm.keep ⟨qS _,λb _ u=>⟨k b u,λ_=>rfl⟩⟩ (λ_ _ e=>e) a v h)).mono ?_;rintro e C ⟨j,d,i⟩;refine⟨d.size,λb=>¬j b,?_,BF d k,?_⟩
   .cases o with
    | stuck=>exact i.elim
    | no l m=>have⟨n,_,A,p,q,r⟩:=i;exact⟨A,j,⟨n,p,q⟩,r,hF.trans d,λb h=>h⟩
    | go m=>exact⟨m,j,rfl,i.2,hF.trans d,λb h=>h⟩
   .cases o with
    | stuck=>exact i.elim
    | no l m=>exact⟨_,i.2.1,fI.v _⟩
    | go m=>exact⟨_,i.1,fI.v _⟩
def HM.of{m':Ma}(q:∀(args:Array cg) (w:bx),(callFunc f args).run prog w =.ok (.enter f args) w)(h:∀O w vs,dm c.B O w c.mb c.en c.aC m->dU (gm (λ_=>none) (λb=>¬O b) w) args vs->Calls prog f (YG c.mb::vs).toArray w (K8 c.B O w c.mb c.en c.aC m')):HM c (EM m) (EM m') f args undefA :=
 @Holds.mk (c.res (p2 (EM m) (EM m'))) _ _ ⟨q,rfl⟩ λok w vs n g=>by
  obtain⟨x,O,rfl,o,hF,j⟩:=n
  match vs,g with
  | v::vs,⟨r,g⟩ =>
   rw[bW r];refine (h O w vs o (g.mono λa v h=>gm.keep ⟨qS _,λb _ p=>⟨j b p,λ_=>rfl⟩⟩ (λ_ _ e=>e) a v h)).mono ?_;rintro e s ⟨k,i,d,l⟩;exact⟨d.size,λb=>¬i b,⟨m',i,rfl,l,hF.trans d,λb h=>h⟩,BF d j,_,k,fI.v _⟩
def HO.go{B mb:Nat}{en:En}{aC:Int}{O:br}{w:bx}(h:HO ⟨B,mb,en,aC,w,O⟩ m f args o)(i:dm B O w mb en aC m){vs:bk}(c:dU (gm (λ_=>none) (λb=>¬O b) w) args vs):Calls prog f (YG mb::vs).toArray w (jK B O w mb en aC o):=by
 refine (@Holds.runM (Mc.res ⟨B,mb,en,aC,w,O⟩ (p2 (EM m) (oP o))) _ _ h 0 1 rfl (λb=>¬O b) w (YG mb::vs) ⟨m,O,rfl,i,dB.refl _ _,λ_ h=>h⟩ ⟨fI.v _,c⟩).mono ?_;rintro e r ⟨_,n,⟨l,g,a,d,k,q⟩,_,v,rfl,j⟩;have c:=bW j;subst c;refine⟨g,k,?_⟩
 cases o with
 | stuck=>exact a.elim
 | no p m=>exact⟨a.1,rfl,l,a.2.1,a.2.2,d⟩
 | go m=>cases a;exact⟨rfl,d⟩
def SC{x:Va}{st:an}(g:m.st=x::st):HM c (EM m) (EM { m with st:=st }) 118 [] (.of (pF x)) :=
 @Holds.mk (c.res (p2 (EM m) (EM _))) _ _ (vT func118) λok w o i f=>by
  obtain⟨y,O,rfl,j,hF,k⟩:=i
  match o,f with
  | [v],⟨n,_⟩ =>
   rw[bW n];refine (yB j g).mono ?_;rintro e p ⟨u,rfl,l,a,d⟩;exact⟨a.size,λb=>¬O b,⟨_,O,rfl,d,hF.trans a,λb h=>h⟩,BF a k,u,rfl,FJ l⟩
def HO_pay:HO c m 116 [] (uH c.aC m .go):=HO.of (bK func116) λO w d a b=>by
 match d,b with
 | [],_=>exact Ff a
def vE{l:an}(h:bz m l ≠ .stuck):vsizes l<=20000000:=by
 unfold bz at h;split at h
 .exact absurd rfl h
 .omega
def len_vsizes:∀l:an,l.length<=vsizes l
 | []=>zv _
 | x::l=>by have:=eP x;have:=len_vsizes l;simp only[vsizes,jn];omega
def IX{l:an}(n:Nat)(hk:okVs l)(hn:n=7\/l=[])(b:bz m l ≠ .stuck)(f:m.st.length<=50000000):HO c m 154 [.one (.d (.s n (vasD l)))] (bz m l):=HO.of (bK func154) λO w i g e=>by
 match i,e with
 | [v],⟨e,_⟩ =>
  obtain⟨a,c,V,rfl,j,h⟩:=lV hk hn e;have:=len_vsizes l;have:=vE b;exact Fh g h (vE b) od
def SE(k n a:Int)(s:bo)(i j q:Nat)(args:an)(types:ao)(code:aE)(hk:okV (.mk k n a s args types code))(A:i=7\/args=[])(B:j=2\/types=[])(C:q=5\/code=[])(o:bz m [.mk k n a s args types code] ≠ .stuck)(t:m.st.length<=50000000) :
 HO c m 154 [.one (.d (.s 7 [[.v (.i k),.v (.i n),.v (.i a),.v (.string s),.s i (vasD args),.s j (tysD types),.s q (ndsD code)]]))] (bz m [.mk k n a s args types code]):=HO.of (bK func154) λO w G D p=>by
 match G,p with
 | [v],⟨p,_⟩ =>
  have E:fI (λb=>¬O b) w (.s 7 (vasD [.mk k n a s args types code])) v:=by
   obtain⟨H,c,U,rfl,u,z,I,g⟩:=fH (p:fI _ w (.s 7 _) v);refine .s U u z (λx r e=>?_) (λx r y d h f=>?_) (λx r y d h f=>?_)
   .match x,e with
    | 0,e=>cases e;rfl
   .match x,h with
    | 0,h =>
     cases h
     match y,f with
     | 0,f|1,f|2,f|3,f|4,f|5,f|6,f=>exact (g 0 _ _ _ rfl rfl).1
   .match x,h with
    | 0,h =>
     cases h
     match y,f with
     | 0,f=>cases f;exact (g 0 _ 0 _ rfl rfl).2
     | 1,f=>cases f;exact (g 0 _ 1 _ rfl rfl).2
     | 2,f=>cases f;exact (g 0 _ 2 _ rfl rfl).2
     | 3,f=>cases f;exact (g 0 _ 3 _ rfl rfl).2
     | 4,f =>
      cases f;have:=(g 0 _ 4 _ rfl rfl).2;rcases A with rfl|rfl
      .exact this
      .exact gG this
     | 5,f =>
      cases f;have:=(g 0 _ 5 _ rfl rfl).2;rcases B with rfl|rfl
      .exact this
      .exact gG this
     | 6,f =>
      cases f;have:=(g 0 _ 6 _ rfl rfl).2;rcases C with rfl|rfl
      .exact this
      .exact gG this
  obtain⟨a,c,V,rfl,J,F⟩:=lV (n:=7) (l:=[.mk k n a s args types code]) ⟨hk,trivial⟩ (.inl rfl) E;exact Fh D F (vE o) oB
def OZ(f:Fr)(i j k:Nat)(l:f.op≠67/\bD f.op)(t:okNs f.rest)(p:i=5\/f.rest=[])(u:okNs f.row)(q:j=5\/f.row=[])(x:okVs f.aside)(r:k=7\/f.aside=[])(o:m.fr.length<=50000000) :
 HM c (EM m) (EM { m with fr:=f::m.fr }) 29 [.agg [.d (.s i (ndsD f.rest)),.d (.v (.i f.op)),.d (.s j (ndsD f.row)),.d (.s k (vasD f.aside))]] undefA:=HM.of (bK func29) λO w G z n=>by
 match G,n with
 | [v],⟨n,_⟩ =>
  obtain⟨H,rfl,B⟩:=n
  match H,B with
  | [a,b,c,d],⟨C,D,E,F,_⟩ =>
   obtain⟨N,P,J,rfl,e,hR⟩:=xU t p C;obtain⟨Q,wc,K,rfl,g,A⟩:=xU u q E;obtain⟨L,M,I,rfl,h,y⟩:=lV x r F;have:=bW D;subst this;exact Dp z od l hR A y ⟨e,g,h⟩
abbrev sm (m:Ma) (s:an):Ma:={ m with st:=s }
variable {ps:Nat->Ma->Prop}
def pu (h:HM c p q f args res) (i:Nat) (hi:∀x,ps i x->p x:=by exact λ_ h=>h) (hj:∀x,q x->ps (i+1) x:=by exact λ_ h=>h):{ s:Sp // @Holds (c.res ps) prog s }:=⟨_,h.at i hi hj⟩
def Hd.up{s:Sp}{R:pq}(h:Hd s)(e:s.mv=mv0)(b:s.fr=fr0) : @Holds R prog s:=by obtain⟨f,a,r,v,c⟩:=s;cases e;cases b;exact @Holds.mk R _ _ (@Holds.OT res0 _ _ h) (@Holds.runN res0 _ _ h rfl)
def up {s:Sp}{R:pq}(h:Hd s) (e:s.mv=mv0:=by rfl) (e2:s.fr=fr0:=by rfl):{ s:Sp // @Holds R prog s }:=⟨s,Hd.up h e e2⟩
def X0(m:Ma)(x:Va)(s:an):HM c (EM (sm m (x::s))) (EM (sm m s)) 118 [] (.of (pF x)):=SC rfl
def tk (m:Ma) (x:Va) (s:an) (i:Nat) (hi:∀y,ps i y->EM (sm m (x::s)) y:=by exact λ_ h=>h) (hj:∀y,EM (sm m s) y->ps (i+1) y:=by exact λ_ h=>h):{ s:Sp // @Holds (c.res ps) prog s }:=pu (X0 m x s) i hi hj
end
open Go.ChangeShapes Go.WideShapes Go.ChangeAt Go.RowKit
set_option maxRecDepth 100000
set_option maxHeartbeats 4000000
def kC{n:Int}(h:kE n):-1152921504606846976<=n/\n<=1152921504606846976:=qh3 h
def Zi{k:IntKind}{a b:Int}{w w':bx}(h:a=b)(c:w'=w):Ending.returned (.int k a) =.returned (.int k b)/\w'=w:=by rw[h];exact⟨rfl,c⟩
def P2 (w:bx) (r:Int×Int) (e:Ending) (w':bx):Prop:=e =.returned (.tuple #[.i r.1,.i r.2])/\w'=w
def GM(a:Int)(w:bx):Calls prog 212 #[.i a] w (P2 w (kF a)):=by
 unfold kF;cases h:kE a
 all_goals
  simp only[ja2,↓reduceIte];go_enter func212,ntmps212;go_wp2_with (go_at_call 78;refine (jI _ _).mono ?_;rintro e b ⟨rfl,rfl⟩;rw[h]);go_ret2;exact⟨rfl,rfl⟩
def Lc(a b:Int)(w:bx):Calls prog 200 #[.i a,.i b] w (P2 w (addN a b)):=by
 unfold addN;have c:=jh (GM (a+b));cases d:kE a<;>cases f:kE b
 all_goals simp only[ja2,and_self,and_false,false_and,↓reduceIte]
 rotate_left 3
 generalize kF (a+b)=r at c|-;have h:wrap64 (a+b)=a+b:=by have:=kC d;have:=kC f;unfold wrap64;omega
 rotate_right 3
 all_goals
  go_enter func200,ntmps200;go_wp2_with (first
   | (go_at_call 78;refine (jI _ _).mono ?_;rintro e g ⟨rfl,rfl⟩;first|rw[d]|rw[f])
   | (go_at_call 212;refine (c _).mono ?_;rintro e g ⟨rfl,rfl⟩))
  go_ret2;exact⟨rfl,rfl⟩
def Vo(a b:Int)(w:bx):Calls prog 201 #[.i a,.i b] w (P2 w (Iu a b)):=by
 unfold Iu;have c:=jh (GM (a - b));cases d:kE a<;>cases f:kE b
 all_goals simp only[ja2,and_self,and_false,false_and,↓reduceIte]
 rotate_left 3
 generalize kF (a - b)=r at c|-;have h:wrap64 (a - b)=a - b:=by have:=kC d;have:=kC f;unfold wrap64;omega
 rotate_right 3
 all_goals
  go_enter func201,ntmps201;go_wp2_with (first
   | (go_at_call 78;refine (jI _ _).mono ?_;rintro e g ⟨rfl,rfl⟩;first|rw[d]|rw[f])
   | (go_at_call 212;refine (c _).mono ?_;rintro e g ⟨rfl,rfl⟩))
  go_ret2;exact⟨rfl,rfl⟩
def o8(a:Int)(w:bx)(h:kE a):Calls prog 198 #[.i a] w λe w'=>e =.returned (.int .u64 (a.natAbs:Int))/\w'=w:=by
 have⟨c,d⟩:=kC h;rcases (by omega:a<0\/0<=a)with b|b
 all_goals
  go_enter func198,ntmps198
  go_wp2
  go_ret;exact Zi od rfl
def TA(a:Int)(w:bx):Calls prog 167 #[.i a] w (P2 w (EJ a)):=by
 unfold EJ;cases b:kE a
 all_goals simp only[ja2,↓reduceIte]
 rotate_left
 have d:(a.natAbs:Int)<=1152921504606846976:=by have:=kC b;omega
 rotate_right
 all_goals
  go_enter func167,ntmps167;go_wp2_with (first
   | (go_at_call 78;refine (jI _ _).mono ?_;rintro e c ⟨rfl,rfl⟩;rw[b])
   | (go_at_call 198;refine (o8 _ _ b).mono ?_;rintro e c ⟨rfl,rfl⟩))
  go_ret2;exact⟨rfl,rfl⟩
def ES{a b q r:Int}(hb:b≠0)(e:b*q+r=a)(d:0<=r)(g:r<(b.natAbs:Int)):a / b=q/\a % b=r:=by
 have c:a % b=r:=by
  rw[<-e,Int.mul_add_emod_self_left];rcases Int.lt_or_gt_of_ne hb with h|i
  .rw[<-Int.emod_neg];exact Int.emod_eq_of_lt d od
  .exact Int.emod_eq_of_lt d od
 have f:b*(a / b)=b*q:=by have:=Int.mul_ediv_add_emod a b;rw[c]at this;omega
 exact⟨Int.eq_of_mul_eq_mul_left hb f,c⟩
def Cs(a:Int){b:Int}(hb:b≠0):(a.tdiv b).natAbs<=a.natAbs/\(a.tmod b).natAbs<b.natAbs/\(0<=a->0<=a.tmod b)/\(a<=0->a.tmod b<=0)/\b*a.tdiv b+a.tmod b=a:=by
 refine⟨Int.natAbs_tdiv_le_natAbs a b,?_,λh=>Int.tmod_nonneg b h,λh=>?_,Int.mul_tdiv_add_tmod a b⟩
 .rw[Int.natAbs_tmod];exact Nat.mod_lt _ od
 .have:=Int.tmod_nonneg (a:=-a) b od;rw[Int.neg_tmod]at this;omega
def R4(a:Int){b:Int}(hb:b≠0):(0<=a.tmod b->a / b=a.tdiv b/\a % b=a.tmod b)/\(a.tmod b<0->0<b->a / b=a.tdiv b - 1/\a % b=a.tmod b+b)/\(a.tmod b<0->b<0->a / b=a.tdiv b+1/\a % b=a.tmod b - b):=by
 have⟨_,d,_,_,c⟩:=Cs a hb;generalize a.tdiv b=q at *;generalize a.tmod b=r at *;refine⟨λh=>ES hb c h od,λh f=>ES hb ?_ od od,λh e=>ES hb ?_ od od⟩
 .rw[Int.mul_sub];omega
 .rw[Int.mul_add];omega
def Qi(a b:Int)(w:bx)(d:kE a)(hb:kE b):Calls prog 199 #[.i a,.i b] w λe w'=>∃q r m,e =.returned (.tuple #[.i q,.i r,.i m])/\(b=0->q=0/\r=0/\m=6)/\(b≠0->q=a / b/\r=a % b/\m=0)/\∃n,w'=w.drewN n:=by
 by_cases f:b=0
 .subst f;go_enter func199,ntmps199;go_wp2_with (go_at_call 78;refine (jI _ _).mono ?_;rintro e w' ⟨rfl,rfl⟩;first|rw[d]|rw[hb])
  go_ret3
  exact⟨0,0,6,rfl,λ_=>⟨rfl,rfl,rfl⟩,λh=>absurd rfl h,0,rfl⟩
 .have⟨g,j,k⟩:=R4 a f;have⟨t,u,v,x,y⟩:=Cs a f;have p:=kC d;have s:=kC hb;have H:(b==0)=false:=qa1.2 f;have⟨D,E⟩:-1152921504606846976<=a.tdiv b/\a.tdiv b<=1152921504606846976:=by omega
  have⟨F,G⟩:-1152921504606846976<=a.tmod b/\a.tmod b<=1152921504606846976:=od
  have⟨z,A⟩:=p;have⟨B,C⟩:=s;have l:=jh f;rcases (by omega:0<=a.tmod b\/a.tmod b<0/\0<b\/a.tmod b<0/\b<0)with h|⟨h,o⟩|⟨h,o⟩
  .have c:=jh (g h);clear g j k t u v x y;go_enter func199,ntmps199;go_wp2_with (go_at_call 78;refine (jI _ _).mono ?_;rintro e w' ⟨rfl,rfl⟩;first|rw[d]|rw[hb])
   go_quiet (fail)
   go_wp2
   go_ret3
   exact⟨_,_,0,rfl,λh=>absurd h l,λ_=>⟨c.1.symm,c.2.symm,rfl⟩,_,rfl⟩
  .have c:=jh (j h o);clear g j k t u v x y;go_enter func199,ntmps199;go_wp2_with (go_at_call 78;refine (jI _ _).mono ?_;rintro e w' ⟨rfl,rfl⟩;first|rw[d]|rw[hb])
   go_quiet (fail)
   go_wp2
   go_ret3
   exact⟨_,_,0,rfl,λh=>absurd h l,λ_=>⟨c.1.symm,c.2.symm,rfl⟩,_,rfl⟩
  .have c:=jh (k h o);clear g j k t u v x y;go_enter func199,ntmps199;go_wp2_with (go_at_call 78;refine (jI _ _).mono ?_;rintro e w' ⟨rfl,rfl⟩;first|rw[d]|rw[hb])
   go_quiet (fail)
   go_wp2
   go_ret3
   exact⟨_,_,0,rfl,λh=>absurd h l,λ_=>⟨c.1.symm,c.2.symm,rfl⟩,_,rfl⟩
def He{a b:Int}(h:(a<0/\b<0)\/(0<=a/\0<=b)):a*b=((a.natAbs*b.natAbs:Nat):Int):=by
 have c:(a*b).natAbs=a.natAbs*b.natAbs:=Int.natAbs_mul a b;have d:0<=a*b:=by
  rcases h with⟨x,y⟩|⟨x,y⟩
  .exact Int.mul_nonneg_of_nonpos_of_nonpos od od
  .exact Int.mul_nonneg x y
 rw[<-c];omega
def DY{a b:Int}(h:(a<0/\0<=b)\/(0<=a/\b<0)):a*b = -((a.natAbs*b.natAbs:Nat):Int):=by
 have c:(a*b).natAbs=a.natAbs*b.natAbs:=Int.natAbs_mul a b;have d:0 <= -(a*b):=by
  rcases h with⟨x,y⟩|⟨x,y⟩
  .rw[<-Int.neg_mul];exact Int.mul_nonneg od y
  .rw[<-Int.mul_neg];exact Int.mul_nonneg x od
 rw[<-c];omega
def Ur(a b:Int)(w:bx)(g:kE a)(hb:kE b):Calls prog 202 #[.i a,.i b] w (P2 w (mulN a b)):=by
 have p:=kC g;have q:=kC hb;have o:=λw=>DX a.natAbs b.natAbs od od w;have t:mulN a b=kF (a*b):=by unfold mulN;rw[if_pos ⟨g,hb⟩]
 rw[t];have l:(a*b).natAbs=a.natAbs*b.natAbs:=Int.natAbs_mul a b;have⟨k,j,s,f,h⟩:∃k j:Nat,a.natAbs*b.natAbs / 18446744073709551616=k/\a.natAbs*b.natAbs % 18446744073709551616=j/\(kF (a*b)=(0,11)/\(k≠0\/k=0/\(1152921504606846976:Int)<(j:Int))\/kF (a*b)=(a*b,0)/\k=0/\((j:Int)<=1152921504606846976)/\j=a.natAbs*b.natAbs):=by
  refine⟨_,_,rfl,rfl,?_⟩
  by_cases h:kE (a*b)
  .have:=kC h;exact .inr ⟨by unfold kF;rw[if_pos h],od,od,od⟩
  .have : ¬(-1152921504606846976<=a*b/\a*b<=1152921504606846976):=λc=>h (qh1 c);exact .inl ⟨by unfold kF;rw[if_neg h],od⟩
 rw[s,f]at o;have HM:=jh o;clear o s f t;have n:=jh l;clear l p q;rcases h with⟨e,h|⟨rfl,h⟩⟩|⟨e,rfl,h,f⟩
 .rw[e];have y:((k:Int) != 0):=by rw[bne_iff_ne];omega
  clear e h;go_enter func202,ntmps202;go_wp2_with (first
   | (go_at_call 78;refine (jI _ _).mono ?_;rintro e d ⟨rfl,rfl⟩;first|rw[g]|rw[hb])
   | (go_at_call 198;first|((with_reducible refine (o8 _ _ g).mono ?_);rintro e d ⟨rfl,rfl⟩)|((with_reducible refine (o8 _ _ hb).mono ?_);rintro e d ⟨rfl,rfl⟩))
   | (go_at_call 213;refine (HM _).mono ?_;rintro e d ⟨rfl,rfl⟩))
  go_ret2;exact⟨rfl,rfl⟩
 .rw[e];clear e;go_enter func202,ntmps202;go_wp2_with (first
   | (go_at_call 78;refine (jI _ _).mono ?_;rintro e d ⟨rfl,rfl⟩;first|rw[g]|rw[hb])
   | (go_at_call 198;first|((with_reducible refine (o8 _ _ g).mono ?_);rintro e d ⟨rfl,rfl⟩)|((with_reducible refine (o8 _ _ hb).mono ?_);rintro e d ⟨rfl,rfl⟩))
   | (go_at_call 213;refine (HM _).mono ?_;rintro e d ⟨rfl,rfl⟩))
  go_ret2;exact⟨rfl,rfl⟩
 .rw[e];have⟨r,u,m⟩:∃r,a*b=r/\(decide (a<0)=decide (b<0)/\r=(j:Int)\/decide (a<0) = !decide (b<0)/\r = -(j:Int)):=by
   refine⟨_,rfl,?_⟩;rcases (by omega:(a<0/\b<0)\/(0<=a/\0<=b)\/(a<0/\0<=b)\/(0<=a/\b<0))with h|h|h|h
   .exact .inl ⟨by rw[decide_eq_decide];omega,by rw[He (.inl h),f]⟩
   .exact .inl ⟨by rw[decide_eq_decide];omega,by rw[He (.inr h),f]⟩
   .exact .inr ⟨by rw[<-decide_not,decide_eq_decide];omega,by rw[DY (.inl h),f]⟩
   .exact .inr ⟨by rw[<-decide_not,decide_eq_decide];omega,by rw[DY (.inr h),f]⟩
  rw[u];clear e u f n;cases v:decide (a<0)<;>cases x:decide (b<0)<;>rw[v,x]at m<;>rcases m with⟨m,rfl⟩|⟨m,rfl⟩<;>first|cases m|skip
  all_goals
   go_enter func202,ntmps202;go_wp2_with (first
    | (go_at_call 78;refine (jI _ _).mono ?_;rintro e d ⟨rfl,rfl⟩;first|rw[g]|rw[hb])
    | (go_at_call 198;first|((with_reducible refine (o8 _ _ g).mono ?_);rintro e d ⟨rfl,rfl⟩)|((with_reducible refine (o8 _ _ hb).mono ?_);rintro e d ⟨rfl,rfl⟩))
    | (go_at_call 213;refine (HM _).mono ?_;rintro e d ⟨rfl,rfl⟩))
   go_ret2;exact⟨rfl,rfl⟩
