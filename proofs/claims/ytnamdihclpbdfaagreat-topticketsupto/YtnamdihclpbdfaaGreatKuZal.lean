import Derived.Test.YtnamdihclpbdfaaGreatKuZak
namespace Go.Proofs.YtnamdihclpbdfaaGreat
set_option linter.all false
open Go.Proofs.Tryz
open Pe
set_option maxRecDepth 100000
def Hy(p:Int):Hd ⟨142,[iA p],.of (.one (.d (.v (.string ⟨(bR p).toArray⟩))))⟩:=by
 unfold bR;split
 .rename_i h;rcases h with rfl|rfl|rfl<;>exact aF func142 []
 split
 .rename_i h;subst h;exact aF func142 []
 split
 .rename_i h;rcases h with rfl|rfl|rfl|rfl|rfl|rfl<;>exact aF func142 []
 split
 .rename_i h;subst h;exact aF func142 []
 split
 .rename_i h;rcases h with rfl|rfl|rfl|rfl<;>exact aF func142 []
 split
 .rename_i h;rcases h with rfl|rfl|rfl<;>exact aF func142 []
 split
 .rename_i h;subst h;exact aF func142 []
 have q:∀k,k∈[41,43,44,45,50,51,54,56,82,88,61,52,55,58,64,60,65,68,(66:Int)]->nq p k:=λk a=>oL (λe=>by subst e;simp at a;omega);exact runT func142 ([5,6,7,9,11,12,13,14,15,16,18,20,21,22,23,25,26,27,29].map λs=>(s,fA)) [] (λx b=>by obtain⟨k,a,rfl⟩:=kB.1 b;exact q k a)
def tyX (k:Nat):List bd->X
 | []=>.d (.s 0 [])
 | _::r=>.g k 2 (r.length+1)
def tyL (k:Nat):List bd->List (Nat×AV)
 | []=>[]
 | x::r=>[(k,.kv 25 2 (x::r))]
def rwX (k:Nat):List bd->X
 | []=>.d (.s 0 [])
 | _::r=>.g k 1 (r.length+1)
def rwL (k:Nat):List bd->List (Nat×AV)
 | []=>[]
 | x::r=>[(k,.kv 26 1 (x::r))]
def inX (kt kr:Nat) (p n:Int) (ty rw da:List bd):List X:=[.d (.v (.i p)),.d (.v (.i n)),tyX kt ty,rwX kr rw]++(da.flatten).map .d
def EP (kt kr:Nat) (p n:Int) (ty rw da:List bd):Hp:=⟨[(800900,inX kt kr p n ty rw da)],tyL kt ty++rwL kr rw⟩
def z5:List bd:=[[.v (.i 0),.v (.i 0),.v (.i 0),.v (.string ⟨#[]⟩),.s 0 []]]
abbrev u8A (n:Int):A1:=.one (.d (.v (.int .u8 n)))
abbrev Tk (f:Int) (x:Tr) (b:Bool) (H H':Hp):Prop:=HX 143 [.one (.p 800900 0),u8A f,ndA x] (aQ b) H H'
def ad2{p:Int}(x:Tr):Tk 110 x (decide (x.k0=0/\0<=x.n0/\x.n0<=40)) (EP 2900070 2900071 p 0 [] [] z5) (EP 2900170 2900171 p x.n0 [] [] z5):=by
 have⟨k,n,q,s,a⟩:=x
 by_cases b:k=0
 .by_cases c:0<=n
  .rw[show decide ((Tr.nd k n q s a).k0=0/\0<=(Tr.nd k n q s a).n0/\(Tr.nd k n q s a).n0<=40)=decide (n<=40) by simp[Tr.k0,Tr.n0,b,c]];subst b;exact bH func143 [(23,bA true)] [] [] oe (al (is_le c) al0)
  .rw[show decide ((Tr.nd k n q s a).k0=0/\0<=(Tr.nd k n q s a).n0/\(Tr.nd k n q s a).n0<=40)=false by simp[Tr.k0,Tr.n0,b,c]];subst b;exact bH func143 [(23,bA false)] [] [] oe (al (QA c) al0)
 .rw[show decide ((Tr.nd k n q s a).k0=0/\0<=(Tr.nd k n q s a).n0/\(Tr.nd k n q s a).n0<=40)=false by simp[Tr.k0,b]];exact bH func143 [(19,bA false)] [] [] oe (al (oL b) al0)
def rZ (x:Tr):bd:=if fu x then tyD (kreadT x)else [.v (.i 0),.s 0 []]
def g2{ty:List bd}{r:bd}(h:jl [r])(a:ty.length<=100):zV 32 ty.length ty [r]:=iL (jj _) oe h ov ot
def g1{ro:List bd}{r:bd}(h:jl [r])(a:ro.length<=100):zV 24 ro.length ro [r]:=iL (jj _) oe h ov ot
def ad3{p:Int}{x:Tr}(d:okN x):Tk 116 x (fu x) (EP 2900070 2900071 p 0 [] [] z5) (EP 2900170 2900171 p 0 [rZ x] [] z5):=by
 have b:=Vi d;unfold rZ;have⟨k,n,q,s,a⟩:=x;cases c:fu (.nd k n q s a)<;>rw[c]at b
 .exact HX.post (res:=aQ false) (H':=EP 2000045 2900171 p 0 [[.v (.i 0),.s 0 []]] [] z5) (bH func143 [] [] [⟨_,b⟩] oe (al (rows_refl [[.v (.i 0),.s 0 []]]) (al (g2 (ty:=[]) (r:=[.v (.i 0),.s 0 []]) rfl ot) (al (show 0+2<=1*2 by decide) al0)))) 2000045 2900170
 .exact HX.post (res:=aQ true) (H':=EP 2000045 2900171 p 0 [tyD (kreadT (.nd k n q s a))] [] z5) (bH func143 [] [] [⟨_,b⟩] oe (al (rows_refl [[.v (.i 0),.s 0 []]]) (al (g2 (ty:=[]) (r:=[.v (.i 0),.s 0 []]) rfl ot) (al (show 0+2<=1*2 by decide) al0)))) 2000045 2900170
def ad4{p:Int}{x y:Tr}{R:bd}(l:okN x)(h:R=tyD (kreadT y)):Tk 117 x (fu x) (EP 2900070 2900071 p 0 [R] [] z5) (EP 2900170 2900171 p 0 [R,rZ x] [] z5):=by
 subst h;have g:=Vi l;unfold rZ;have⟨k,n,q,s,a⟩:=x;have⟨c,d,e,f,b⟩:=y;cases j:fu (.nd k n q s a)<;>rw[j]at g
 .exact HX.post (res:=aQ false) (H':=EP 2000045 2900171 p 0 [tyD (kreadT (.nd c d e f b)),[.v (.i 0),.s 0 []]] [] z5) (bH func143 [] [] [⟨_,g⟩] oe (al (rows_refl [tyD (kreadT (.nd c d e f b)),[.v (.i 0),.s 0 []]]) (al (g2 (ty:=[tyD (kreadT (.nd c d e f b))]) (r:=[.v (.i 0),.s 0 []]) rfl oe) (al (show 2+2<=2*2 by decide) al0)))) 2000045 2900170
 .exact HX.post (res:=aQ true) (H':=EP 2000045 2900171 p 0 [tyD (kreadT (.nd c d e f b)),tyD (kreadT (.nd k n q s a))] [] z5) (bH func143 [] [] [⟨_,g⟩] oe (al (rows_refl [tyD (kreadT (.nd c d e f b)),[.v (.i 0),.s 0 []]]) (al (g2 (ty:=[tyD (kreadT (.nd c d e f b))]) (r:=[.v (.i 0),.s 0 []]) rfl oe) (al (show 2+2<=2*2 by decide) al0)))) 2000045 2900170
def adA{p:Int}{ty:List bd}(x:Tr)(b:ty=[]\/∃A B,ty=[A,B]):Tk 99 x (decide (x.k0=3)) (EP 2900070 2900071 p 0 ty [] z5) (EP 2900170 2900171 p 0 ty [[.s 5 (ndsD x.args0)]] z5):=by
 have⟨k,n,q,s,a⟩:=x;have o:=al (rows_refl [[.s 5 (ndsD a)]]) (al (g1 (ro:=[]) (r:=[.s 5 (ndsD a)]) rfl ot) al0);rcases b with rfl|⟨A,B,rfl⟩
 .exact HX.post (res:=aQ (decide (k=3))) (H':=EP 2900070 2000062 p 0 [] [[.s 5 (ndsD a)]] z5) (bH func143 [] [] [] oe o) 2000062 2900171
 .exact HX.post (res:=aQ (decide (k=3))) (H':=EP 2900070 2900171 p 0 [A,B] [[.s 5 (ndsD a)]] z5) (HX.post (res:=aQ (decide (k=3))) (H':=EP 2900070 2000062 p 0 [A,B] [[.s 5 (ndsD a)]] z5) (bH func143 [] [] [] oe o) 2000062 2900171) 2900070 2900170
def ad1{p:Int}{r:aE}(x:Tr):Tk 100 x (decide (x.k0=3)) (EP 2900070 2900071 p 0 [] [[.s 5 (ndsD r)]] z5) (EP 2900170 2900171 p 0 [] [[.s 5 (ndsD r)],[.s 5 (ndsD x.args0)]] z5):=by have⟨k,n,q,s,a⟩:=x;exact HX.post (res:=aQ (decide (k=3))) (H':=EP 2900070 2000062 p 0 [] [[.s 5 (ndsD r)],[.s 5 (ndsD a)]] z5) (bH func143 [] [] [] oe (al (rows_refl [[.s 5 (ndsD r)],[.s 5 (ndsD a)]]) (al (g1 (ro:=[[.s 5 (ndsD r)]]) (r:=[.s 5 (ndsD a)]) rfl oe) al0))) 2000062 2900171
def ad5{p:Int}{y x:Tr} : Tk 118 x true (EP 2900070 2900071 p 0 [tyD (kreadT y)] [] z5) (EP 2900170 2900171 p 0 [tyD (kreadT y)] [] [ndD x]):=by have⟨k,n,q,s,a⟩:=x;have⟨c,d,e,f,b⟩:=y;exact HX.post (res:=aQ true) (H':=EP 2900070 2900071 p 0 [tyD (kreadT (.nd c d e f b))] [] [ndD (.nd k n q s a)]) (bH func143 [] [] [] oe al0) 2900070 2900170
def z9:List X:=[.d (.v (.i 0)),.d (.v (.i 0)),.d (.s 0 []),.d (.s 0 []),.d (.v (.i 0)),.d (.v (.i 0)),.d (.v (.i 0)),.d (.v (.string ⟨#[]⟩)),.d (.s 0 [])]
def rdI (p n:Int) (ty rw da:List bd):St:=oC 2 0 z9++oC 5 0 (inX 3000070 3000071 p n ty rw da)++(tyL 3000070 ty++rwL 3000071 rw).map λe=>((e.1+1,0),e.2)
def Gt (p n:Int) (ty rw da:List bd) (fs:bw) (az:aE) (j:Nat):St:=[((0,2),.of (.one (.p 2 0))),((0,4),.of (.one (.d (.v (.string ⟨fs.toArray⟩))))),((0,5),.of (.one (.p 5 0))),((0,32),.of (CW az)),((0,33),lW (ndsD az).length),((0,34),.of (jA j))]++rdI p n ty rw da
def ZT (p n:Int) (ty rw da:List bd):St:=[((0,2),.of (.one (.p 2 0))),((0,5),.of (.one (.p 5 0)))]++rdI p n ty rw da
def rdN:St:=[((0,2),.of (.one (.p 2 0))),((0,3),aQ false)]++oC 2 0 z9
abbrev Mf (S:St) (ex:Nat) (q:St):Prop:=vO prog f116.ntmps ⟨gF f116,S,ex,q⟩
def ab7{xs ys:bd}{b:A1}{β:Nat->Option Nat}{ok:br}{w:cg}{v:cm}(h:L2 Ja xs ys)(i:iZ β ok w (.rz [.agg (xs.map .d),b]) v):iZ β ok w (.rz [.agg (ys.map .d),b]) v:=by
 obtain⟨l,rfl,i⟩:=i
 match l,i with
 | [x,y],⟨⟨f,e,g⟩,j,_⟩ =>
  refine⟨_,rfl,⟨f,e,?_⟩,j,trivial⟩;have : ∀(xs ys:bd) (f:bo),L2 Ja xs ys->dU (jm β ok w) (xs.map .d) f->dU (jm β ok w) (ys.map .d) f:=λxs=>by
   induction xs with
   | nil=>intro ys f h g;cases ys with|nil=>exact g|cons=>exact h.elim
   | cons x xs k =>
    intro ys f h g
    match ys,f,h,g with
    | y::ys,u::f,⟨a,b⟩,⟨c,d⟩=>exact⟨Bv a c,k ys f b d⟩
  exact this _ _ _ h g
def V7(ys:bd)(b:Bool):(AV.rz [.agg (ys.map .d),bA b]).keys=[]:=by
 have h:(ys.map X.d).flatMap X.keys=[]:=by rw[List.flatMap_eq_nil_iff];intro x a;obtain⟨y,_,rfl⟩:=kB.1 a;rfl
 show (ys.map X.d).flatMap X.keys++([]++[])=[];rw[h];rfl
def daD (t:Tr):bd:=[.v (.i t.k0),.v (.i t.n0),.v (.i t.p0),.v (.string t.s0),.s 5 (ndsD t.args0)]
def roD (l:List aE):List bd:=l.map λr=>[.s 5 (ndsD r)]
def rdV:Option Ins->AV
 | none=>.rz [.agg z9,bA false]
 | some i=>.rz [.agg ((([.v (.i i.p),.v (.i i.n),.s 2 (tysD i.types),.s 1 (roD i.rows)]:bd)++daD i.data).map .d),bA true]
section
variable {p n:Int}{s:bp}
def Gz{a:bw}{az:aE}(i:40<=p)(d:bR p=a)(e:az.length=a.length)(c:Mf (Gt p 0 [] [] z5 a az 0) 1 rdN):Hd ⟨116,[ndA (.nd 2 n p s az)],rdV none⟩:=by have hF:=Hy p;rw[d]at hF;have f:mD (aQ (decide (p<40))) (bA false):=wH od;have g:jJ (!decide (((ndsD az).length:Int)=((⟨a.toArray⟩:bp).size:Int))) false:=eT (by rw[Hf,e];simp[ByteArray.size]);have h:=wI (S:=Gt p 0 [] [] z5 a az 0) (q:=gF f116=gF f116) rfl (ps:=[mD (aQ (decide (p<40))) (bA false),jJ (!decide (((ndsD az).length:Int)=((⟨a.toArray⟩:bp).size:Int))) false]) (al f (al g al0));exact Ce func116 [(17,bA false),(25,bA false)] [_] (λx b=>by rw[qv]at b;subst b;exact c) [⟨_,hF⟩] h
def slD (n:Nat):List bd->D
 | []=>.s 0 []
 | x::l=>.s n (x::l)
def abK{n:Nat}(h:n≠0):∀l:List bd,Ja (slD n l) (.s n l)
 | []=>.inr ⟨rfl,n,h,rfl⟩
 | _::_=>.inl rfl
def inD (p n:Int) (ty rw da:List bd):bd:=[.v (.i p),.v (.i n),slD 2 ty,slD 1 rw]++da.flatten
def tY{a:bw}{az:aE}(y:40<=p)(l:bR p=a)(m:az.length=a.length){c:Int}{ty rw da:List bd}{tl:aw}{rl:List aE}{t:Tr}{ob:List Prop}(k:Mf (Gt p 0 [] [] z5 a az 0) 2 (ZT p c ty rw da))(e:∀q∈ob,q)(g:tysD tl=ty)(j:roD rl=rw)(b:L2 Ja da.flatten (daD t))
 (h:∀hF:Hd ⟨142,[iA p],.of (.one (.d (.v (.string ⟨a.toArray⟩))))⟩,asked (evF prog f116 (f116.body.getD .skip) [(17,bA false),(25,bA false)] [⟨gF f116,Gt p 0 [] [] z5 a az 0,2,ZT p c ty rw da⟩] (([⟨_,hF⟩]:HL).map (·.1)) [ndA (.nd 2 n p s az)])=some (.rz [.agg ((inD p c ty rw da).map .d),bA true],[],(([⟨_,hF⟩]:HL).map (·.1)).map (λs=>s.need=s.need),([mD (aQ (decide (p<40))) (bA false),jJ (!decide (((ndsD az).length:Int)=((⟨a.toArray⟩:bp).size:Int))) false]++((gF f116=gF f116)::(Gt p 0 [] [] z5 a az 0).map (λx=>some x.2=some x.2)))++ob)):Hd ⟨116,[ndA (.nd 2 n p s az)],rdV (some ⟨p,c,tl,rl,t⟩)⟩:=by
 have b:L2 Ja (inD p c ty rw da) ([.v (.i p),.v (.i c),.s 2 (tysD tl),.s 1 (roD rl)]++daD t):=by subst g;subst j;exact⟨.inl rfl,.inl rfl,abK ot _,abK ot _,b⟩
 have hF:=Hy p;rw[l]at hF;have o:mD (aQ (decide (p<40))) (bA false):=wH od;have r:jJ (!decide (((ndsD az).length:Int)=((⟨a.toArray⟩:bp).size:Int))) false:=eT (by rw[Hf,m];simp[ByteArray.size]);have u:=wI (S:=Gt p 0 [] [] z5 a az 0) (q:=gF f116=gF f116) rfl (ps:=[mD (aQ (decide (p<40))) (bA false),jJ (!decide (((ndsD az).length:Int)=((⟨a.toArray⟩:bp).size:Int))) false]) (al o (al r al0));exact (Ce func116 [(17,bA false),(25,bA false)] [_] (λx f=>by rw[qv]at f;subst f;exact k) [⟨_,hF⟩] (jX u e) (h hF)).conv (λ_ _ _ h=>h) (λz w v h=>ab7 b h) (V7 _ _)
def z5_le:L2 Ja z5.flatten (daD tr0):=⟨.inl rfl,.inl rfl,.inl rfl,.inl rfl,.inr ⟨rfl,5,ot,rfl⟩,trivial⟩
def adU{x:Tr}(d:40<=p)(c:bR p=[110]):Hd ⟨116,[ndA (.nd 2 n p s [x])],rdV (takesF ⟨p,0,[],[],tr0⟩ [110] [x])⟩:=by
 have h:=(((((ad2 (p:=p) x).to 800900 5).to 2900070 3000070).to 2900071 3000071).post 2900170 2000070).post 2900171 2000071
 by_cases a:x.k0=0/\0<=x.n0/\x.n0<=40
 .rw[xb a]at h;rw[show takesF ⟨p,0,[],[],tr0⟩ [110] [x]=some ⟨p,x.n0,[],[],tr0⟩ by simp only[takesF,iy,if_true,if_pos a]];have⟨g,b,i,j,f⟩:=x;have k:Mf (Gt p b [] [] z5 [110] [.nd g b i j f] 1) 2 (ZT p b [] [] z5):=xQ (e:=1) [] [] al0;exact tY d c rfl (LG [] [⟨_,h⟩] k al0) al0 rfl rfl z5_le (λhF=>oA)
 .rw[zE a]at h;rw[show takesF ⟨p,0,[],[],tr0⟩ [110] [x]=none by simp only[takesF,iy,if_true,if_neg a]];have⟨g,b,i,j,f⟩:=x;exact Gz d c rfl (xQ (e:=0) [] [⟨_,h⟩] al0)
def adz{p:Int}{ty:aw}{rw:List aE}{d x:Tr}{a:bw}{l:aE}{f:UInt8}(b:f=116\/f=117):takesF ⟨p,0,ty,rw,d⟩ (f::a) (x::l)=if fu x then takesF ⟨p,0,ty++[kreadT x],rw,d⟩ a l else none:=by
 have : iy ⟨p,0,ty,rw,d⟩ f x=if fu x then some ⟨p,0,ty++[kreadT x],rw,d⟩else none:=by rcases b with rfl|rfl<;>rfl
 simp only[takesF,this]
 by_cases h:fu x<;>simp[h]
def acJ{p:Int}{ty:aw}{rw:List aE}{d x:Tr}{a:bw}{l:aE}{f:UInt8}(b:f=99\/f=100):takesF ⟨p,0,ty,rw,d⟩ (f::a) (x::l)=if x.k0=3 then takesF ⟨p,0,ty,rw++[x.args0],d⟩ a l else none:=by
 have : iy ⟨p,0,ty,rw,d⟩ f x=if x.k0=3 then some ⟨p,0,ty,rw++[x.args0],d⟩else none:=by rcases b with rfl|rfl<;>rfl
 simp only[takesF,this]
 by_cases h:x.k0=3<;>simp[h]
def acC{x:Tr}{a:bw}{l:aE}(j:okN x)(g:40<=p)(f:bR p=116::a)(c:a.length=l.length)(hk:a=[]\/a=[118]\/a=[117]\/a=[117,99])(H:fu x->(∀{ex:Nat}{q:St},Mf (Gt p 0 [tyD (kreadT x)] [] z5 (116::a) (x::l) 1) ex q->Mf (Gt p 0 [] [] z5 (116::a) (x::l) 0) ex q)->Hd ⟨116,[ndA (.nd 2 n p s (x::l))],rdV (takesF ⟨p,0,[kreadT x],[],tr0⟩ a l)⟩):Hd ⟨116,[ndA (.nd 2 n p s (x::l))],rdV (takesF ⟨p,0,[],[],tr0⟩ (116::a) (x::l))⟩:=by
 have h:=(((((ad3 (p:=p) j).to 800900 5).to 2900070 3000070).to 2900071 3000071).post 2900170 2000070).post 2900171 2000071;rw[adz (.inl rfl)]
 cases b:fu x with
 | false =>
  rw[b]at h;simp only[qd3,if_false];rw[show rZ x=[.v (.i 0),.s 0 []] by unfold rZ;rw[b];rfl]at h;have⟨m,o,r,t,k⟩:=x;refine Gz g f (by simp[c]) ?_;rcases hk with rfl|rfl|rfl|rfl<;>(match l,c with|[],_=>?_|[_],_=>?_|[_,_],_=>?_)<;>exact xQ (e:=0) [] [⟨_,h⟩] al0
 | true =>
  rw[b]at h;simp only[if_true];refine H b λ{ex q} d=>?_;rw[show rZ x=tyD (kreadT x) by unfold rZ;rw[b];rfl]at h;have⟨m,o,r,t,k⟩:=x;rcases hk with rfl|rfl|rfl|rfl<;>(match l,c with|[],_=>?_|[_],_=>?_|[_,_],_=>?_)<;>exact LG [] [⟨_,h⟩] d al0
def adj{x:Tr}(j:okN x)(h:40<=p)(g:bR p=[116]):Hd ⟨116,[ndA (.nd 2 n p s [x])],rdV (takesF ⟨p,0,[],[],tr0⟩ [116] [x])⟩:=by refine acC j h g rfl (.inl rfl) λk F=>?_;obtain⟨b,c,d,f,a⟩:=x;have i:Mf (Gt p 0 [tyD (kreadT (.nd b c d f a))] [] z5 [116] [.nd b c d f a] 1) 2 (ZT p 0 [tyD (kreadT (.nd b c d f a))] [] z5):=xQ (e:=1) [] [] al0;exact tY h g rfl (F i) (ob:=[0+1=1]) (al rfl al0) (tl:=[kreadT (.nd b c d f a)]) rfl (rl:=[]) rfl z5_le (λhF=>oA)
def adk{x y:Tr}(q:okN x)(o:40<=p)(m:bR p=[116,118]):Hd ⟨116,[ndA (.nd 2 n p s [x,y])],rdV (takesF ⟨p,0,[],[],tr0⟩ [116,118] [x,y])⟩:=by refine acC q o m rfl (.inr (.inl rfl)) λr F=>?_;have h:=(((((ad5 (p:=p) (y:=x) (x:=y)).to 800900 5).to 2900070 3000070).to 2900071 3000071).post 2900170 2000070).post 2900171 2000071;obtain⟨b,c,d,f,a⟩:=x;obtain⟨i,j,k,l,g⟩:=y;have L2:Mf (Gt p 0 [tyD (kreadT (.nd b c d f a))] [] [ndD (.nd i j k l g)] [116,118] [.nd b c d f a,.nd i j k l g] 2) 2 (ZT p 0 [tyD (kreadT (.nd b c d f a))] [] [ndD (.nd i j k l g)]):=xQ (e:=1) [] [] al0;exact tY o m rfl (F (LG [] [⟨_,h⟩] L2 al0)) (ob:=[0+1=1]) (al rfl al0) (tl:=[kreadT (.nd b c d f a)]) rfl (rl:=[]) rfl (t:=.nd i j k l g) (row_refl _) (λhF=>oA)
def abD{x y:Tr}{b:bw}{l:aE}(j:okN x)(k:okN y)(f:40<=p)(d:bR p=116::117::b)(c:b.length=l.length)(hk:b=[]\/b=[99])(H:(∀{ex:Nat}{q:St},Mf (Gt p 0 [tyD (kreadT x),tyD (kreadT y)] [] z5 (116::117::b) (x::y::l) 2) ex q->Mf (Gt p 0 [] [] z5 (116::117::b) (x::y::l) 0) ex q)->Hd ⟨116,[ndA (.nd 2 n p s (x::y::l))],rdV (takesF ⟨p,0,[kreadT x,kreadT y],[],tr0⟩ b l)⟩):Hd ⟨116,[ndA (.nd 2 n p s (x::y::l))],rdV (takesF ⟨p,0,[],[],tr0⟩ (116::117::b) (x::y::l))⟩:=by
 refine acC j f d (by simp[c]) (by rcases hk with rfl|rfl<;>simp) λD F=>?_;have h:=(((((ad4 (p:=p) (x:=y) (y:=x) k rfl).to 800900 5).to 2900070 3000070).to 2900071 3000071).post 2900170 2000070).post 2900171 2000071;rw[adz (.inr rfl)]
 cases a:fu y with
 | false =>
  rw[a]at h;simp only[qd3,if_false];rw[show rZ y=[.v (.i 0),.s 0 []] by unfold rZ;rw[a];rfl]at h;have⟨o,r,t,u,m⟩:=x;have⟨z,A,B,C,w⟩:=y;refine Gz f d (by simp[c]) (F ?_);rcases hk with rfl|rfl<;>(match l,c with|[],_=>?_|[_],_=>?_)<;>exact xQ (e:=0) [] [⟨_,h⟩] al0
 | true =>
  rw[a]at h;simp only[if_true];refine H λ{ex q} g=>F ?_;rw[show rZ y=tyD (kreadT y) by unfold rZ;rw[a];rfl]at h;have⟨o,r,t,u,m⟩:=x;have⟨z,A,B,C,w⟩:=y;rcases hk with rfl|rfl<;>(match l,c with|[],_=>?_|[_],_=>?_)<;>exact LG [] [⟨_,h⟩] g al0
def acE{x y:Tr}(o:okN x)(q:okN y)(m:40<=p)(l:bR p=[116,117]):Hd ⟨116,[ndA (.nd 2 n p s [x,y])],rdV (takesF ⟨p,0,[],[],tr0⟩ [116,117] [x,y])⟩:=by refine abD o q m l rfl (.inl rfl) λF=>?_;obtain⟨b,c,d,f,a⟩:=x;obtain⟨h,i,j,k,g⟩:=y;have L2:Mf (Gt p 0 [tyD (kreadT (.nd b c d f a)),tyD (kreadT (.nd h i j k g))] [] z5 [116,117] [.nd b c d f a,.nd h i j k g] 2) 2 (ZT p 0 [tyD (kreadT (.nd b c d f a)),tyD (kreadT (.nd h i j k g))] [] z5):=xQ (e:=1) [] [] al0;exact tY m l rfl (F L2) (ob:=[1+1=2]) (al rfl al0) (tl:=[kreadT (.nd b c d f a),kreadT (.nd h i j k g)]) rfl (rl:=[]) rfl z5_le (λhF=>oA)
def acF{x y z:Tr}(B:okN x)(C:okN y)(r:40<=p)(q:bR p=[116,117,99]):Hd ⟨116,[ndA (.nd 2 n p s [x,y,z])],rdV (takesF ⟨p,0,[],[],tr0⟩ [116,117,99] [x,y,z])⟩:=by
 refine abD B C r q rfl (.inr rfl) λF=>?_;have h:=(((((adA (p:=p) (ty:=[tyD (kreadT x),tyD (kreadT y)]) z (.inr ⟨_,_,rfl⟩)).to 800900 5).to 2900070 3000070).to 2900071 3000071).post 2900170 2000070).post 2900171 2000071;rw[acJ (.inl rfl)]
 by_cases o:z.k0=3
 .rw[xb o]at h;rw[if_pos o];obtain⟨b,c,d,f,a⟩:=x;obtain⟨i,j,k,l,g⟩:=y;obtain⟨t,u,v,w,m⟩:=z;have A:Mf (Gt p 0 [tyD (kreadT (.nd b c d f a)),tyD (kreadT (.nd i j k l g))] [[.s 5 (ndsD m)]] z5 [116,117,99] [.nd b c d f a,.nd i j k l g,.nd t u v w m] 3) 2 (ZT p 0 [tyD (kreadT (.nd b c d f a)),tyD (kreadT (.nd i j k l g))] [[.s 5 (ndsD m)]] z5):=xQ (e:=1) [] [] al0;exact tY r q rfl (F (LG [] [⟨_,h⟩] A al0)) (ob:=[1+1=2,0+1=1]) (al rfl (al rfl al0)) (tl:=[kreadT (.nd b c d f a),kreadT (.nd i j k l g)]) rfl (rl:=[m]) rfl z5_le (λhF=>oA)
 .rw[zE o]at h;rw[if_neg o];obtain⟨b,c,d,f,a⟩:=x;obtain⟨i,j,k,l,g⟩:=y;obtain⟨t,u,v,w,m⟩:=z;exact Gz r q rfl (F (xQ (e:=0) [] [⟨_,h⟩] al0))
def rd_c{x:Tr}{a:bw}{l:aE}(g:40<=p)(f:bR p=99::a)(c:a.length=l.length)(hk:a=[]\/a=[100])(H:(∀{ex:Nat}{q:St},Mf (Gt p 0 [] [[.s 5 (ndsD x.args0)]] z5 (99::a) (x::l) 1) ex q->Mf (Gt p 0 [] [] z5 (99::a) (x::l) 0) ex q)->Hd ⟨116,[ndA (.nd 2 n p s (x::l))],rdV (takesF ⟨p,0,[],[x.args0],tr0⟩ a l)⟩):Hd ⟨116,[ndA (.nd 2 n p s (x::l))],rdV (takesF ⟨p,0,[],[],tr0⟩ (99::a) (x::l))⟩:=by
 have h:=(((((adA (p:=p) (ty:=[]) x (.inl rfl)).to 800900 5).to 2900070 3000070).to 2900071 3000071).post 2900170 2000070).post 2900171 2000071;rw[acJ (.inl rfl)]
 by_cases b:x.k0=3
 .rw[xb b]at h;rw[if_pos b];refine H λ{ex q} d=>?_;have⟨j,k,m,o,i⟩:=x;rcases hk with rfl|rfl<;>(match l,c with|[],_=>?_|[_],_=>?_)<;>exact LG [] [⟨_,h⟩] d al0
 .rw[zE b]at h;rw[if_neg b];have⟨j,k,m,o,i⟩:=x;refine Gz g f (by simp[c]) ?_;rcases hk with rfl|rfl<;>(match l,c with|[],_=>?_|[_],_=>?_)<;>exact xQ (e:=0) [] [⟨_,h⟩] al0
def adh{x:Tr}(c:40<=p)(b:bR p=[99]):Hd ⟨116,[ndA (.nd 2 n p s [x])],rdV (takesF ⟨p,0,[],[],tr0⟩ [99] [x])⟩:=by refine rd_c c b rfl (.inl rfl) λF=>?_;obtain⟨f,g,h,i,a⟩:=x;have d:Mf (Gt p 0 [] [[.s 5 (ndsD a)]] z5 [99] [.nd f g h i a] 1) 2 (ZT p 0 [] [[.s 5 (ndsD a)]] z5):=xQ (e:=1) [] [] al0;exact tY c b rfl (F d) (ob:=[0+1=1]) (al rfl al0) (tl:=[]) rfl (rl:=[a]) rfl z5_le (λhF=>oA)
def adi{x y:Tr}(f:40<=p)(d:bR p=[99,100]):Hd ⟨116,[ndA (.nd 2 n p s [x,y])],rdV (takesF ⟨p,0,[],[],tr0⟩ [99,100] [x,y])⟩:=by
 refine rd_c f d rfl (.inr rfl) λF=>?_;have h:=(((((ad1 (p:=p) (r:=x.args0) y).to 800900 5).to 2900070 3000070).to 2900071 3000071).post 2900170 2000070).post 2900171 2000071;rw[acJ (.inr rfl)];obtain⟨l,m,o,q,c⟩:=x
 by_cases b:y.k0=3
 .rw[xb b]at h;rw[if_pos b];obtain⟨g,i,j,k,a⟩:=y;have L2:Mf (Gt p 0 [] [[.s 5 (ndsD c)],[.s 5 (ndsD a)]] z5 [99,100] [.nd l m o q c,.nd g i j k a] 2) 2 (ZT p 0 [] [[.s 5 (ndsD c)],[.s 5 (ndsD a)]] z5):=xQ (e:=1) [] [] al0;exact tY f d rfl (F (LG [] [⟨_,h⟩] L2 al0)) (ob:=[1+1=2]) (al rfl al0) (tl:=[]) rfl (rl:=[c,a]) rfl z5_le (λhF=>oA)
 .rw[zE b]at h;rw[if_neg b];obtain⟨g,i,j,k,a⟩:=y;exact Gz f d rfl (F (xQ (e:=0) [] [⟨_,h⟩] al0))
def adT(c:40<=p)(b:bR p=[]):Hd ⟨116,[ndA (.nd 2 n p s [])],rdV (takesF ⟨p,0,[],[],tr0⟩ [] [])⟩:=by have a:Mf (Gt p 0 [] [] z5 [] [] 0) 2 (ZT p 0 [] [] z5):=xQ (e:=1) [] [] al0;exact tY c b rfl a al0 (tl:=[]) rfl (rl:=[]) rfl z5_le (λhF=>oA)
end
def acs{α:Type}{l:List α}(h:l.length=2):∃x y,l=[x,y]:=match l,h with|[x,y],_=>⟨x,y,rfl⟩
def adR{α:Type}{l:List α}(h:l.length=3):∃x y z,l=[x,y,z]:=match l,h with|[x,y,z],_=>⟨x,y,z,rfl⟩
def abT{t:Tr}(f:okN t):Hd ⟨116,[ndA t],rdV (iY t)⟩:=by
 have⟨k,n,p,s,az⟩:=t;have hF:=Hy p;rw[show iY (.nd k n p s az)=if k=2/\40<=p/\az.length=(bR p).length then takesF ⟨p,0,[],[],tr0⟩ (bR p) az else none from rfl]
 by_cases hk:k=2
 .subst hk
  by_cases d:40<=p
  .have g:mD (aQ (decide (p<40))) (bA false):=wH od
   by_cases c:az.length=(bR p).length
   .rw[if_pos ⟨rfl,d,c⟩];have b:=okNs_at.1 f.2;have e:bR p=[110]\/bR p=[116,118]\/bR p=[116]\/bR p=[116,117]\/bR p=[99,100]\/bR p=[99]\/bR p=[116,117,99]\/bR p=[]:=by
     unfold bR;repeat' split
     all_goals simp
    rcases e with a|a|a|a|a|a|a|a<;>rw[a]at c|-
    .obtain⟨x,rfl⟩:=ja6.1 c;exact adU d a
    .obtain⟨x,y,rfl⟩:=acs c;exact adk (b x oe) d a
    .obtain⟨x,rfl⟩:=ja6.1 c;exact adj (b x oe) d a
    .obtain⟨x,y,rfl⟩:=acs c;exact acE (b x oe) (b y oe) d a
    .obtain⟨x,y,rfl⟩:=acs c;exact adi d a
    .obtain⟨x,rfl⟩:=ja6.1 c;exact adh d a
    .obtain⟨x,y,z,rfl⟩:=adR c;exact acF (b x oe) (b y oe) d a
    .obtain rfl:=List.length_eq_zero_iff.1 c;exact adT d a
   .rw[if_neg (λh=>c h.2.2)];have i:jJ (!decide (((ndsD az).length:Int)=((⟨(bR p).toArray⟩:bp).size:Int))) true:=eT (by rw[Hf];simp[ByteArray.size];omega);exact runT func116 [(17,bA false),(25,bA true)] [⟨_,hF⟩] (al g (al i al0))
  .rw[if_neg (λh=>d h.2.1)];exact runT func116 [(17,bA true)] [⟨_,hF⟩] (al (is_lt (show p<40 by omega)) al0)
 .rw[if_neg (λh=>hk h.1)];exact runT func116 [(13,bA true)] [⟨_,hF⟩] (al (oZ (xb hk)) al0)
def ZA (p:Int):Nat:=((bR p).filter (λf=>decide (f=116\/f=117))).length
def Cc{st:Tr->aw->iF} : ∀(l:aE) (f:Bool) (s:aw) {g:Bool}{ts:aw},s.length<=1001->s.all ai->iG st l f s =.ok g ts->ts.length<=1001/\ts.all ai
 | [],f,s,g,ts,a,b,h=>by simp only[iG,iF.ok.injEq]at h;obtain⟨rfl,rfl⟩:=h;exact⟨a,b⟩
 | t::l,f,s,g,ts,a,b,h=>by
  simp only[iG]at h
  by_cases c:f
  .simp[c]at h
  .simp only[c]at h
   cases hk:keptF (st t s)with
   | no e=>simp[hk]at h
   | ok d j =>
    simp only[hk]at h;have⟨e,k,i⟩:=nP hk;exact Cc l d j od i (by simpa using h)
def og{l:aE}{t:Tr}(h:t∈l):t.size<=sizes l:=by
 induction l with
 | nil=>cases h
 | cons x l a =>
  simp only[sizes];rcases kl.1 h with rfl|h
  .omega
  .have:=a h;omega
def GX{N:Nat} : ∀{l:aE},(∀t∈l,t.size<=N)->sizes l<=l.length*N
 | [],_=>by simp[sizes]
 | x::l,h=>by have b:=h x oe;have c:=GX (l:=l) λt a=>h t (by simp[a]);simp only[sizes,js,qg3];omega
def Zy (p:Int):Nat:=((bR p).filter (λf=>decide (f=99\/f=100))).length
def J9{t:Tr}(h:fu t):ai (kreadT t):=by unfold fu at h;rw[qt]at h;exact h.2
def Iy{i j:Ins}{f:UInt8}{t:Tr}(h:iy i f t=some j) :
 j.p=i.p/\j.types.length=i.types.length+(if f=116\/f=117 then 1 else 0)/\j.rows.length=i.rows.length+(if f=99\/f=100 then 1 else 0)/\(i.types.all ai->j.types.all ai) /\
 (∀P:aE->Prop,(∀l∈i.rows,P l)->P t.args0->∀l∈j.rows,P l)/\(j.data=i.data\/j.data=t)/\(0<=i.n->0<=j.n)/\(i.n<=40->j.n<=40):=by
 unfold iy at h
 by_cases e:f=110
 .subst e;rw[if_pos rfl]at h;split at h
  .rename_i c;cases h;exact⟨rfl,oe,oe,id,λP h _=>h,.inl rfl,λ_=>c.2.1,λ_=>c.2.2⟩
  .cases h
 .rw[if_neg e]at h
  by_cases a:f=116\/f=117
  .rw[if_pos a]at h;have b:¬(f=99\/f=100):=by rcases a with rfl|rfl<;>decide
   split at h
   .rename_i c;cases h;refine⟨rfl,by simp[a],by simp[b],λk=>um k (by simp[J9 c]),λP h _=>h,.inl rfl,id,id⟩
   .cases h
  .rw[if_neg a]at h
   by_cases b:f=99\/f=100
   .rw[if_pos b]at h;split at h
    .cases h;refine⟨rfl,by simp[a],by simp[b],id,λP h g l d=>?_,.inl rfl,id,id⟩;simp only[ki,qv]at d;rcases d with d|rfl
     .exact h l d
     .exact g
    .cases h
   .rw[if_neg b]at h;cases h;exact⟨rfl,by simp[a],by simp[b],id,λP h _=>h,.inr rfl,id,id⟩
def takesF_facts:∀(a:bw) (l:aE) (i j:Ins),a.length=l.length->takesF i a l=some j ->
 j.p=i.p/\j.types.length=i.types.length+(a.filter (λf=>decide (f=116\/f=117))).length/\j.rows.length=i.rows.length+(a.filter (λf=>decide (f=99\/f=100))).length/\(i.types.all ai->j.types.all ai) /\
 (∀P:aE->Prop,(∀r∈i.rows,P r)->(∀t∈l,P t.args0)->∀r∈j.rows,P r)/\(j.data=i.data\/j.data∈l)/\(0<=i.n->0<=j.n)/\(i.n<=40->j.n<=40)
 | [],l,i,j,_,h=>by simp only[takesF,qq]at h;subst h;exact⟨rfl,oe,oe,id,λP h _=>h,.inl rfl,id,id⟩
 | f::a,[],i,j,e,h=>by simp at e
 | f::a,t::l,i,j,e,h=>by
  simp only[takesF]at h
  cases d:iy i f t with
  | none=>simp[d]at h
  | some k =>
   simp only[d]at h;have⟨o,q,s,u,v,c,w,x⟩:=Iy d;have⟨y,z,A,B,C,b,D,E⟩:=takesF_facts a l k j (by simpa using e) h;refine⟨y.trans o,?_,?_,λh=>B (u h),λP F m=>C P (v P F (m t oe)) (λG g=>m G (by simp[g])),?_,λh=>D (w h),λh=>E (x h)⟩
   .rw[z,q,List.filter_cons];split<;>simp_all<;>omega
   .rw[A,s,List.filter_cons];split<;>simp_all<;>omega
   .rcases b with b|b
    .rcases c with c|c
     .exact .inl (b.trans c)
     .exact .inr (by rw[b,c];simp)
    .exact .inr (by simp[b])
structure VO (N:Nat) (i:Ins):Prop where
 p40:40<=i.p
 nt:i.types.length=ZA i.p
 nr:i.rows.length=Zy i.p
 gt:i.types.all ai
 rows:∀r∈i.rows,∀x∈r,x.size<=N
 data:i.data.size<=N+1
 n0:0<=i.n
 n1:i.n<=40
 Zx:∀r∈i.rows,okNs r
 Zg:okN i.data
def BJ{t:Tr}(h:okN t):okNs t.args0:=by cases t;exact h.2
def Rm{t:Tr}{i:Ins}{N:Nat}(hk:okN t)(v:t.size<=N+1)(h:iY t=some i):VO N i:=by
 unfold iY at h;split at h
 .rename_i g;have⟨b,j,k,l,f,a,m,n⟩:=takesF_facts _ _ _ _ g.2.2.symm h;have o:t.size=sizes t.args0+1:=by cases t;rfl
  refine⟨by rw[b];exact g.2.1,by rw[j,b];simp[ZA],by rw[k,b];simp[Zy],l rfl,λr c x e=>?_,?_,m oe,n oe,λr c=>?_,?_⟩
  .refine f (λr=>∀x∈r,x.size<=N) oe (λu d x e=>?_) r c x e;have q:=og d;have s:=og e;have p:u.size=sizes u.args0+1:=by cases u;rfl
   omega
  .rcases a with a|a
   .rw[a];show tr0.size<=_;simp[tr0,Tr.size,sizes]
   .have:=og a;omega
  .exact f okNs oe (λu d=>BJ (okNs_at.1 (BJ hk) u d)) r c
  .rcases a with a|a
   .rw[a];show okN tr0;simp[tr0,okN,okNs,bD,maxLen,ByteArray.size]
   .exact okNs_at.1 (BJ hk) _ a
 .cases h
def U7{t:Tr}{i:Ins}(h:iY t=some i){l:aE}(c:l∈i.rows):l.length<=sizes t.args0:=by
 unfold iY at h;split at h
 .rename_i b;have⟨e,f,g,j,a,_⟩:=takesF_facts _ _ _ _ b.2.2.symm h;refine a (λr=>r.length<=sizes t.args0) oe (λu d=>?_) l c;have m:=og d;have n:=cB u.args0;have k:u.size=sizes u.args0+1:=by cases u;rfl
  omega
 .cases h
def acL{a b:Int}(h:a=b)(c:0<=b)(d:b<=4611686018427387905):IntKind.i64.wrap a=b:=by subst h;rw[yb];omega
def kX{α:Type}{l r:List α}{x:α}{j:Nat}(h:l.drop j=x::r):j<l.length/\l[j]?=some x/\l.drop (j+1)=r:=by
 have a:j<l.length:=qb4 λb=>by rw[qb6 od]at h;cases h
 rw[km a]at h;exact⟨a,by rw[qu a];exact congrArg some (qe3 h).1,(qe3 h).2⟩
def ksA (l:List Int):A1:=.one (.d (.s 1 (l.map λk=>[.v (.i k)])))
abbrev sdL (S:St) (ex:Nat) (q:St):Prop:=vO prog f144.ntmps ⟨gF f144,S,ex,q⟩
def sdS (s:aw) (ks:List Int) (j:Nat):St:=[((0,0),.of (dZ s)),((0,12),.of (ksA ks)),((0,13),lW (ks.map λk=>[D.v (.i k)]).length),((0,14),.of (jA j))]
def Li{s:aw}{ks:List Int}(hk:ks.length<=8):∀(r:List Int) (u:aw) (j:Nat),ks.drop j=r->s.drop j=u->r.length<=u.length->(standF u r->sdL (sdS s ks j) 2 [])/\(standF u r=false->sdL (sdS s ks j) 1 [((0,4),aQ false)])
 | [],u,j,f,l,d=>by
  have z:ks.length<=j:=by have:=congrArg List.length f;simp at this;omega
  exact⟨λ_=>xQ (e:=1) [(15,bA false)] [] (al (show mD (aQ (decide (Int.ofNat j<((ks.map λk=>[D.v (.i k)]).length:Int)))) (bA false) from wH ov) al0),λh=>by simp[standF]at h⟩
 | k::r,[],j,f,l,d=>by simp at d
 | k::r,.nd t a::u,j,f,l,d=>by
  have⟨z,hK,y⟩:=kX f;have⟨A,p,g⟩:=kX l;have x:=Li hk r u (j+1) y g (by simpa using d);have m:mD (aQ (decide (Int.ofNat j<((ks.map λk=>[D.v (.i k)]).length:Int)))) (bA true):=is_lt ov;have n:Bp 1 1 (ks.map λk=>[D.v (.i k)]) j=some (.of (.one (.e [.v (.i k)] 0))):=by unfold Bp;rw[qb0,hK];rfl
  have w:mD (lW (IntKind.i64.wrap (Int.ofNat j+1))) (jA (j+1)):=yY (zF oe ov ov);have F:=λ{ex:Nat} {q:St} (h:sdL (sdS s ks (j+1)) ex q) (b:k=0\/t=k)=>(by
   by_cases c:k=0
   .subst c;exact LG [(15,bA true),(17,.one (.e [.v (.i 0)] 0)),(30,jA (j+1))] [] h (al m (al n (al w al0)))
   .obtain rfl:=b.resolve_left c;have o:=EK p;exact LG [(15,bA true),(17,.one (.e [.v (.i t)] 0)),(20,bA true),(24,.one (.e (tyD (.nd t a)) 0)),(28,bA false),(30,jA (j+1))] [] h (al m (al n (al (oZ (xb c)) (al o (al (oZ (t:=t) (k:=t) (zE oe)) (al w al0)))))):sdL (sdS s ks j) ex q)
  by_cases b:k=0\/t=k
  .have e:standF (.nd t a::u) (k::r)=standF u r:=by simp only[standF,Ty.t];rcases b with h|h<;>simp[h]
   rw[e];exact⟨λh=>F (x.1 h) b,λh=>F (x.2 h) b⟩
  .have e:standF (.nd t a::u) (k::r)=false:=by simp only[standF,Ty.t];simp only[not_or]at b;simp[b.1,b.2]
   rw[e];simp only[not_or]at b;have o:=EK p;exact⟨λh=>(by cases h),λ_=>xQ (e:=0) [(15,bA true),(17,.one (.e [.v (.i k)] 0)),(20,bA true),(24,.one (.e (tyD (.nd t a)) 0)),(28,bA true)] [] (al m (al n (al (oZ (xb b.1)) (al o (al (oZ (xb b.2)) al0)))))⟩
def stand_short:∀(s:aw) (ks:List Int),s.length<ks.length->standF s ks=false
 | [],_::_,_=>rfl
 | _::s,_::ks,h=>by simp only[standF,stand_short s ks (by simpa using h),Bool.and_false]
def ZY{s:aw}{ks:List Int}(f:ks.length<=8):Hd ⟨144,[dZ s,ksA ks],aQ (standF s ks)⟩:=by
 by_cases h:s.length<ks.length
 .rw[stand_short s ks h];exact runT func144 [(11,bA true)] [] (al (show mD (aQ (decide (((tysD s).length:Int)<((ks.map λk=>[D.v (.i k)]).length:Int)))) (bA true) from is_lt Ok) al0)
 .have g:mD (aQ (decide (((tysD s).length:Int)<((ks.map λk=>[D.v (.i k)]).length:Int)))) (bA false):=wH Ok;have⟨d,e⟩:=Li (s:=s) f ks s 0 rfl rfl od;have c:=wI (S:=sdS s ks 0) (q:=gF f144=gF f144) rfl (ps:=[mD (aQ (decide (((tysD s).length:Int)<((ks.map λk=>[D.v (.i k)]).length:Int)))) (bA false)]) (al g al0)
  cases b:standF s ks with
  | true=>exact Ce func144 [(11,bA false)] [_] (λx a=>by rw[qv]at a;subst a;exact d b) [] c
  | false=>exact Ce func144 [(11,bA false)] [_] (λx a=>by rw[qv]at a;subst a;exact e b) [] c
abbrev itL (S:St) (ex:Nat) (q:St):Prop:=vO prog f115.ntmps ⟨gF f115,S,ex,q⟩
def itS (s:aw) (j:Nat):St:=[((0,0),.of (dZ s)),((0,1),.of (.one (Ey 97))),((0,7),lW (tysD s).length),((0,8),.of (jA j))]
def abe{s:aw}(m:s.length<=1000)(f:okTs s):∀(u:aw) (j:Nat),s.drop j=u->(u.all ai->itL (itS s j) 2 [])/\(u.all ai=false->∃k:Nat,itL (itS s j) 1 [((0,4),.of (jA k))])
 | [],j,c=>by
  have p:s.length<=j:=by have:=congrArg List.length c;simp at this;omega
  exact⟨λ_=>xQ (e:=1) [(9,bA false)] [] (al (show mD (aQ (decide (Int.ofNat j<((tysD s).length:Int)))) (bA false) from wH Ok) al0),λh=>by simp at h⟩
 | .nd t a::u,j,c=>by
  have⟨p,d,o⟩:=kX c;have n:=Cb (okTs_at.1 f _ (ka d));have hF:Hd ⟨97,[tyA (.nd t a)],aQ (!ai (.nd t a))⟩:=aF func97 [⟨_,n⟩];have g:mD (aQ (decide (Int.ofNat j<((tysD s).length:Int)))) (bA true):=is_lt Ok;have i:=EK d;have r:mD (lW (IntKind.i64.wrap (Int.ofNat j+1))) (jA (j+1)):=yY (zF oe ov ov)
  cases b:ai (.nd t a)with
  | false =>
   rw[b]at hF;exact⟨λh=>by simp[b]at h,λ_=>⟨j,xQ (e:=0) [(9,bA true),(14,.one (.e (tyD (.nd t a)) 0))] [⟨_,hF⟩] (al g (al i al0))⟩⟩
  | true =>
   rw[b]at hF;have l:=abe m f u (j+1) o;have F:=λ{ex:Nat} {q:St} (h:itL (itS s (j+1)) ex q)=>(LG [(9,bA true),(14,.one (.e (tyD (.nd t a)) 0)),(18,jA (j+1))] [⟨_,hF⟩] h (al g (al i (al r al0))):itL (itS s j) ex q);rw[xj,b,qa7];exact⟨λh=>F (l.1 h),λh=>(l.2 h).imp λk h=>F h⟩
def Rl{s:aw}(h:s.length<=1000)(j:okTs s):Hd ⟨70,[dZ s],aQ (s.all ai)⟩:=by
 have⟨f,g⟩:=abe h j s 0 rfl;have e:=wI (S:=itS s 0) (q:=gF f115=gF f115) rfl (ps:=[]) al0
 cases d:s.all ai with
 | true =>
  have c:Hd ⟨115,[dZ s,.one (Ey 97)],.of (iA (-1))⟩:=Ce func115 [] [_] (λx a=>by rw[qv]at a;subst a;exact f d) [] e;have b:Hd ⟨96,[dZ s,.one (Ey 97)],aQ false⟩:=aF func96 [⟨_,c⟩];exact aF func70 [⟨_,b⟩]
 | false =>
  have⟨k,i⟩:=g d;have c:Hd ⟨115,[dZ s,.one (Ey 97)],.of (jA k)⟩:=Ce func115 [] [_] (λx a=>by rw[qv]at a;subst a;exact i) [] e;have b:Hd ⟨96,[dZ s,.one (Ey 97)],aQ true⟩:=runT func96 [(8,bA true)] [⟨_,c⟩] (al (show mD (aQ (decide ((0:Int)<=Int.ofNat k))) (bA true) from is_le oe) al0);exact aF func70 [⟨_,b⟩]
abbrev inL (S:St) (ex:Nat) (q:St):Prop:=vO prog f101.ntmps ⟨gF f101,S,ex,q⟩
def inS (l:aE) (j:Nat):St:=[((0,0),.of (CW l)),((0,1),.of (.one (Ey 74))),((0,7),lW (ndsD l).length),((0,8),.of (jA j))]
abbrev Mt (t:Tr):Prop:=Hd ⟨74,[ndA t],aQ (mintsT t)⟩
def abz{l:aE}(m:l.length<=4611686018427387904)(H:∀t∈l,Mt t):∀(u:aE) (j:Nat),l.drop j=u->(mintsTs u=false->inL (inS l j) 2 [])/\(mintsTs u->∃k:Nat,inL (inS l j) 1 [((0,4),.of (jA k))])
 | [],j,c=>by
  have r:l.length<=j:=by have:=congrArg List.length c;simp at this;omega
  exact⟨λ_=>xQ (e:=1) [(9,bA false)] [] (al (show mD (aQ (decide (Int.ofNat j<((ndsD l).length:Int)))) (bA false) from wH (by simp[Hf];omega)) al0),λh=>by simp[mintsTs]at h⟩
 | .nd k n p s a::u,j,c=>by
  have⟨r,d,o⟩:=kX c;have hF:=H _ (ka d);have f:mD (aQ (decide (Int.ofNat j<((ndsD l).length:Int)))) (bA true):=is_lt (by simp[Hf];omega);have g:=WV d;have v:mD (lW (IntKind.i64.wrap (Int.ofNat j+1))) (jA (j+1)):=yY (acL oe ov ov);unfold Mt at hF
  cases b:mintsT (.nd k n p s a)with
  | true =>
   rw[b]at hF;exact⟨λh=>by simp[mintsTs,b]at h,λ_=>⟨j,xQ (e:=0) [(9,bA true),(14,.one (.e (ndD (.nd k n p s a)) 0))] [⟨_,hF⟩] (al f (al g al0))⟩⟩
  | false =>
   rw[b]at hF;have i:=abz m H u (j+1) o;have F:=λ{ex:Nat} {q:St} (h:inL (inS l (j+1)) ex q)=>(LG [(9,bA true),(14,.one (.e (ndD (.nd k n p s a)) 0)),(18,jA (j+1))] [⟨_,hF⟩] h (al f (al g (al v al0))):inL (inS l j) ex q);simp only[mintsTs,b,jd3];exact⟨λh=>F (i.1 h),λh=>(i.2 h).imp λk h=>F h⟩
def G8{l:aE}(h:l.length<=4611686018427387904)(H:∀t∈l,Mt t):Hd ⟨51,[CW l],aQ (mintsTs l)⟩:=by
 have⟨f,g⟩:=abz h H l 0 rfl;have e:=wI (S:=inS l 0) (q:=gF f101=gF f101) rfl (ps:=[]) al0
 cases d:mintsTs l with
 | false =>
  have c:Hd ⟨101,[CW l,.one (Ey 74)],.of (iA (-1))⟩:=Ce func101 [] [_] (λx a=>by rw[qv]at a;subst a;exact f d) [] e;have b:Hd ⟨73,[CW l,.one (Ey 74)],aQ false⟩:=aF func73 [⟨_,c⟩];exact aF func51 [⟨_,b⟩]
 | true =>
  have⟨k,i⟩:=g d;have c:Hd ⟨101,[CW l,.one (Ey 74)],.of (jA k)⟩:=Ce func101 [] [_] (λx a=>by rw[qv]at a;subst a;exact i) [] e;have b:Hd ⟨73,[CW l,.one (Ey 74)],aQ true⟩:=runT func73 [(8,bA true)] [⟨_,c⟩] (al (show mD (aQ (decide ((0:Int)<=Int.ofNat k))) (bA true) from is_le oe) al0);exact aF func51 [⟨_,b⟩]
def len_sizes:∀l:aE,l.length<=sizes l
 | []=>jj _
 | t::l=>by have:=len_sizes l;have:=size_pos t;simp only[js,sizes];omega
mutual
def E_mint1:∀t:Tr,t.size<=4611686018427387904->Mt t
 | .nd k n p s a,f=>by
  simp only[Tr.size]at f;have d:=G8 (l:=a) (by have:=len_sizes a;omega) (λt e=>E_mintl a od t e);unfold Mt
  by_cases b:k=2
  .subst b
   by_cases c:p=84
   .subst c;rw[show mintsT (.nd 2 n 84 s a) by simp[mintsT]];exact aF func74 []
   .rw[show mintsT (.nd 2 n p s a)=mintsTs a by simp[mintsT,c]];exact runT func74 [(9,bA false)] [⟨_,d⟩] (al (oL c) al0)
  .rw[show mintsT (.nd k n p s a)=mintsTs a by simp[mintsT,b]];exact runT func74 [(5,bA false)] [⟨_,d⟩] (al (oL b) al0)
def E_mintl:∀l:aE,sizes l<=4611686018427387904->∀t∈l,Mt t
 | [],_,_,h=>by cases h
 | t::l,b,a,h=>by
  simp only[sizes]at b
  by_cases e:a=t
  .rw[e];exact E_mint1 t od
  .exact E_mintl l od a (by rcases kl.1 h with h|h;exact absurd h e;exact h)
end
def ZW{l:aE}(a:sizes l<=4611686018427387904):Hd ⟨51,[CW l],aQ (mintsTs l)⟩:=G8 (by have:=len_sizes l;omega) (E_mintl l a)
abbrev cpL (S:St) (ex:Nat) (q:St):Prop:=vO prog f98.ntmps ⟨gF f98,S,ex,q⟩
def cpX (j:Nat):aw->St
 | []=>[((0,3),.of nilA)]
 | x::r=>[((0,3),.of (.one (.g 3000020 2 j))),((3000021,0),.kv 25 2 (tysD (x::r)))]
def cpS (s:aw) (j:Nat):St:=[((0,6),.of (dZ s)),((0,7),lW (tysD s).length),((0,8),.of (jA j))]++cpX j (s.take j)
def cpA (l:aw):AV:=match l with|[]=>.of nilA|_::_=>.of (dZ l)
abbrev CpH (l:aw):Prop:=Hd ⟨98,[dZ l],cpA l⟩
def abm{s:aw}(E:s.length<=1000000)(H:∀T∈s,CpH T.args):∀(u:aw) (j:Nat),j<=s.length->s.drop j=u->cpL (cpS s j) 2 (cpX s.length s)
 | [],j,g,p=>by
  have n:s.length<=j:=by have:=congrArg List.length p;simp at this;omega
  obtain rfl:j=s.length:=jh7 g n;unfold cpS;rw[je6];have o:=al (show mD (aQ (decide (Int.ofNat s.length<((tysD s).length:Int)))) (bA false) from wH (by simp[eY])) al0;generalize s.length=m at o;cases s<;>exact xQ (e:=1) [(9,bA false)] [] o
 | .nd t a::u,j,g,p=>by
  have⟨n,l,F⟩:=kX p;have f:=H _ (ka l);have d:=abm E H u (j+1) n F;have w:mD (aQ (decide (Int.ofNat j<((tysD s).length:Int)))) (bA true):=is_lt Ok;have x:=EK l;have z:mD (lW (IntKind.i64.wrap (Int.ofNat j+1))) (jA (j+1)):=yY (zF oe ov ov);have C:s.take (j+1)=s.take j++[.nd t a]:=by rw[jc1,l];rfl
  have c:(s.take j).length=j:=vc
  unfold cpS at d|-;rw[C]at d;generalize s.take j=k at d c|-;have B:∀r:bd,jl [r]->zV 32 j (tysD k) [r]:=λr h=>iL (by rw[eY];omega) oe h ov ot;have A:∀r:bd,L2 Ja r (tyD (.nd t a))->rowsLe ((tysD k).take j++[r]) (tysD (k++[.nd t a])):=λr h=>by rw[ux (by rw[eY];omega),tysD_map,tysD_map,qa0];exact vG h _
  simp only[CpH,Ty.args]at f
  cases a with
  | nil =>
   have o:=al w (al x (al (A [.v (.i t),.s 0 []] ⟨.inl rfl,.inr ⟨rfl,2,ot,rfl⟩,trivial⟩) (al (B [.v (.i t),.s 0 []] rfl) (al z al0))))
   cases k with
   | nil=>obtain rfl:j=0:=c.symm;exact LG [(9,bA true),(10,.one (.e (tyD (.nd t [])) 0)),(2000020,dZ [.nd t []]),(21,jA (0+1))] [⟨_,f⟩] d o
   | cons y q=>exact LG [(9,bA true),(10,.one (.e (tyD (.nd t [])) 0)),(2000020,dZ ((y::q)++[.nd t []])),(21,jA (j+1))] [⟨_,f⟩] d o
  | cons b bs =>
   have o:=al w (al x (al (A (tyD (.nd t (b::bs))) (row_refl _)) (al (B (tyD (.nd t (b::bs))) rfl) (al z al0))))
   cases k with
   | nil=>obtain rfl:j=0:=c.symm;exact LG [(9,bA true),(10,.one (.e (tyD (.nd t (b::bs))) 0)),(2000020,dZ [.nd t (b::bs)]),(21,jA (0+1))] [⟨_,f⟩] d o
   | cons y q=>exact LG [(9,bA true),(10,.one (.e (tyD (.nd t (b::bs))) 0)),(2000020,dZ ((y::q)++[.nd t (b::bs)])),(21,jA (j+1))] [⟨_,f⟩] d o
def abn{s:aw}(d:s.length<=1000000)(H:∀T∈s,CpH T.args):CpH s:=by
 have b:=abm d H s 0 (yv _) rfl;have c:=wI (S:=cpS s 0) (q:=gF f98=gF f98) rfl (ps:=[]) al0;unfold CpH
 cases s with
 | nil=>exact Ce func98 [] [_] (λx a=>by rw[qv]at a;subst a;exact b) [] c
 | cons x r=>exact Ce func98 [(22,dZ (x::r))] [_] (λx a=>by rw[qv]at a;subst a;exact b) [] (jX c (al (show (x::r).length=(tysD (x::r)).length by rw[eY]) al0))
mutual
def E_cpT:∀T:Ty,T.size<=1000000->CpH T.args
 | .nd t a,c=>by simp only[Ty.size]at c;exact abn (by show a.length<=_;have:=len_le a;omega) (λT b=>E_cpTs a od T b)
def E_cpTs:∀l:aw,tysizes l<=1000000->∀T∈l,CpH T.args
 | [],_,_,h=>by cases h
 | T::l,b,a,h=>by
  simp only[tysizes]at b
  by_cases e:a=T
  .rw[e];exact E_cpT T od
  .exact E_cpTs l od a (by rcases kl.1 h with h|h;exact absurd h e;exact h)
end
def U1{s:aw}(a:tysizes s<=1000000):Hd ⟨98,[dZ s],.of (dZ s)⟩:=by
 have h:=abn (s:=s) (by have:=len_le s;omega) (E_cpTs s a)
 cases s with
 | nil=>exact Pe.Holds.conv (h:Hd ⟨98,[dZ []],.of nilA⟩) (λ_ _ _ h=>h) (λok w v h=>gG h)
 | cons x r=>exact h
def E_copies0:Hd ⟨98,[nilA],.of nilA⟩:=by have b:cpL [((0,6),.of nilA),((0,7),lW 0),((0,8),.of (jA 0)),((0,3),.of nilA)] 2 [((0,3),.of nilA)]:=xQ (e:=1) [] [] al0;exact Ce func98 [] [_] (λx a=>by rw[qv]at a;subst a;exact b) [] (wI (S:=[((0,6),.of nilA),((0,7),lW 0),((0,8),.of (jA 0)),((0,3),.of nilA)]) (q:=gF f98=gF f98) rfl (ps:=[]) al0)
open Go.ChangeShapes Go.WideShapes Go.ChangeAt Go.RowKit Pe
def Qz (l:List Int):A1:=.one (.d (.s 1 (l.map λk=>[.v (.i k)])))
def rowsD:List aE->List bd
 | []=>[]
 | r::rs=>[.s 5 (ndsD r)]::rowsD rs
def uq (p n:Int) (types:aw) (rows:List aE) (dk dn dp:Int) (ds:bp) (da:aE):A1 :=
 .agg [.d (.v (.i p)),.d (.v (.i n)),.d (.s 2 (tysD types)),.d (.s 1 (rowsD rows)),.d (.v (.i dk)),.d (.v (.i dn)),.d (.v (.i dp)),.d (.v (.string ds)),.d (.s 5 (ndsD da))]
def ledA:iF->List A1
 | .no e=>[.agg [.d (.s 0 []),.d (.v (.bool false))],iA e]
 | .ok f ts=>[.agg [.d (.s 2 (tysD ts)),.d (.v (.bool f))],iA 0]
def iH (r:iF):AV:=.rz (ledA r)
def Ti{s:aw}{ks:List Int}(b:okTs s)(hk:0<ks.length)(a:ks.length<=8):Hd ⟨144,[dZ s,Qz ks],aQ (standF s ks)⟩:=ZY a
section
variable {T U:Ty}
def Wx(b:okT T)(a:T.size<=50000000):Hd ⟨86,[tyA T],aQ (oF T)⟩:=UY a
def Wy(b:okT T)(a:T.size<=50000000):Hd ⟨146,[tyA T],aQ (A7 T)⟩:=afe a
def WC(b:okT T)(a:T.size<=50000000):Hd ⟨153,[tyA T],aQ (eB T)⟩:=U4 a
def Tj(b:okT T)(a:T.size<=50000000):Hd ⟨107,[tyA T],aQ (storeT T)⟩:=Jg a
def Po(b:okT T)(a:T.size<=50000000)(c:okT U):Hd ⟨28,[tyA T,tyA U],aQ (sameT T U)⟩:=BR a
end
def KZ{l:aE}(a:sizes l<=4611686018427387904):Hd ⟨51,[CW l],aQ (mintsTs l)⟩:=ZW a
def C9{s:aw}(b:okTs s)(a:s.length<=1000):Hd ⟨70,[dZ s],aQ (s.all ai)⟩:=Rl a b
def nR(t:Int)(az:aw):Hd ⟨81,[iA t,dZ az],.of (tyA (.nd t az))⟩:=aF func81 []
def dA(t:Int):Hd ⟨81,[iA t,nilA],.of (tyA (.nd t []))⟩:=by
 have h:Hd ⟨81,[iA t,nilA],.of (.agg [.d (.v (.i t)),.d (.s 0 [])])⟩:=aF func81 [];exact h.conv (λ_ _ _ h=>h) (λg w v ⟨f,e,c⟩=>by
  match f,c with
  | [x,y],⟨a,b,_⟩=>exact⟨_,e,a,gG b,trivial⟩)
def vS{s top:aw}(b:okTs s)(c:okTs top)(a:top.length+s.length<=20000000):Hd ⟨145,[dZ s,dZ top],iH (bB s top)⟩ :=
 aF func145 [⟨_,lg (.inl rfl) (.inl rfl) a⟩]
def AO{s:aw}(b:okTs s)(a:s.length<=20000000):Hd ⟨145,[dZ s,nilA],iH (bB s [])⟩ :=
 aF func145 [⟨_,lg (m:=0) (x:=[]) (y:=s) (.inr rfl) (.inl rfl) (by simpa using a)⟩]
def ag(e:Int):Hd ⟨69,[iA e],iH (.no e)⟩:=aF func69 []
def iX{s:aw}{ks:List Int}(h:standF s (0::ks)):∃t a r,s =.nd t a::r/\standF r ks:=by
 cases s with
 | nil=>simp[standF]at h
 | cons T r =>
  simp only[standF,qt]at h;have⟨t,a⟩:=T;exact⟨t,a,r,rfl,h.2⟩
def fT{s:aw}{k:Int}{ks:List Int}(hk:k≠0)(h:standF s (k::ks)):∃a r,s =.nd k a::r/\standF r ks:=by
 cases s with
 | nil=>simp[standF]at h
 | cons T r =>
  simp only[standF,qt,qe2,jt]at h;have⟨t,a⟩:=T;obtain⟨b|b,c⟩:=h
  .exact absurd b hk
  .simp only[Ty.t]at b;subst b;exact⟨a,r,rfl,c⟩
def st2{u v j k:Int}{c d:aw}(f:j≠0)(hk:k≠0)(h:standF [.nd u c,.nd v d] [j,k]):u=j/\v=k:=by have⟨a,r,e,b⟩:=fT f h;simp only[qa5,Ty.nd.injEq]at e;obtain⟨⟨rfl,_⟩,rfl⟩:=e;have⟨a,r,e,_⟩:=fT hk b;simp only[qa5,Ty.nd.injEq]at e;exact⟨rfl,e.1.1⟩
def lZ{k:Int}{a:aw}(h:ai (.nd k a))(c:bT k=0):a=[]:=by have b:=xL h;simp only[Ty.args,Ty.t,c]at b;exact jz od
def GR{a:aw}(h:a.length=1):∃t b,a=[.nd t b]:=by
 match a,h with
 | [.nd t b],_=>exact⟨t,b,rfl⟩
def Uk{a:aw}(h:a.length=2):∃t b u c,a=[.nd t b,.nd u c]:=by
 match a,h with
 | [.nd t b,.nd u c],_=>exact⟨t,b,u,c,rfl⟩
def Bi{k:Int}{a:aw}(h:ai (.nd k a))(d:bT k=1):∃t b,a=[.nd t b]:=by have c:=xL h;simp only[Ty.args,Ty.t,d]at c;exact GR od
def vY{k:Int}{a:aw}(h:ai (.nd k a))(e:bT k=2):∃t b u c,a=[.nd t b,.nd u c]:=by have d:=xL h;simp only[Ty.args,Ty.t,e]at d;exact Uk od
def sz_len:∀{s:aw},s.all ai->tysizes s<=300*s.length
 | [],_=>by simp[tysizes]
 | T::s,h=>by simp only[xj,qt]at h;have a:=sz_len h.2;have:=h.1;simp only[ai,qt,jt]at this;simp only[tysizes,js];omega
def dD{s:aw}(h:s.all ai)(hn:s.length<=1000):tysizes s<=300000:=by have:=sz_len h;omega
section
variable {T U:Ty}{b:Bool}
def aN{s:aw}{k:Int}{ks:List Int}(c:okTs s)(h:standF s (k::ks)=b)(a:(k::ks).length<=8:=by simp):Hd ⟨144,[dZ s,Qz (k::ks)],aQ b⟩:=h ▸ Ti c oe a
def aS{s:aw}{k:Int}{ks:List Int}(b:okTs s)(h:standF s (k::ks):=by simp[standF,Ty.t])(a:(k::ks).length<=8:=by simp):Hd ⟨144,[dZ s,Qz (k::ks)],aQ true⟩:=aN b h a
def dQ{s top:aw}(b:okTs s:=by simp_all [okTs,okT,bD])(c:okTs top:=by simp_all [okTs,okT,bD])(a:top.length+s.length<=20000000:=by simp only[js,qa1]at *;omega):Hd ⟨145,[dZ s,dZ top],iH (bB s top)⟩:=vS b c a
abbrev HI (f:FuncId) (p n:Int) (types:aw) (rows:List aE) (dk dn dp:Int) (ds:bp) (da:aE) (s:aw) (F:Ins->aw->iF):Prop:=Hd ⟨f,[uq p n types rows dk dn dp ds da,dZ s],iH (F ⟨p,n,types,rows,.nd dk dn dp ds da⟩ s)⟩
def gu(a:okT T)(d:T.size<=50000000)(c:okT U)(h:sameT T U=b):Hd ⟨28,[tyA T,tyA U],aQ b⟩:=h ▸ Po a d c
def uQ(a:okT T)(c:T.size<=50000000)(h:oF T=b):Hd ⟨86,[tyA T],aQ b⟩:=h ▸ Wx a c
def Ak(a:okT T)(c:T.size<=50000000)(h:A7 T=b):Hd ⟨146,[tyA T],aQ b⟩:=h ▸ Wy a c
def pG(a:okT T)(c:T.size<=50000000)(h:eB T=b):Hd ⟨153,[tyA T],aQ b⟩:=h ▸ WC a c
def FO(a:okT T)(c:T.size<=50000000)(h:storeT T=b):Hd ⟨107,[tyA T],aQ b⟩:=h ▸ Tj a c
end
def H_two93:Hd ⟨151,[iA 93],aQ false⟩:=aF func151 []
def H_two94:Hd ⟨151,[iA 94],aQ false⟩:=aF func151 []
def H_two95:Hd ⟨151,[iA 95],aQ false⟩:=aF func151 []
def H_two69:Hd ⟨151,[iA 69],aQ true⟩:=aF func151 []
def H_two70:Hd ⟨151,[iA 70],aQ true⟩:=aF func151 []
def H_two71:Hd ⟨151,[iA 71],aQ true⟩:=aF func151 []
def H_two72:Hd ⟨151,[iA 72],aQ true⟩:=aF func151 []
