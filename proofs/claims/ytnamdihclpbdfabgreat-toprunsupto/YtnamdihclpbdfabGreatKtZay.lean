/- For every list of batches (and, in TopParts, every batch) whose reading holds at most 1048576 values and letters, TopMade, TopSpent, TopRuns and TopParts return true and leave their arguments as they were. Condition: that bound on the reading. -/
import Derived.Test.YtnamdihclpbdfabGreatKtZav
import Derived.OpenShut
import Derived.JoinedCond
namespace Go.Proofs.YtnamdihclpbdfabGreat
set_option linter.all false
open Go.Proofs.Tryz
set_option maxRecDepth 100000
set_option maxHeartbeats 4000000
open Pe
def aez(b:Bt):rM (rM b)=rM b:=by
 unfold rM;split
 .exact if_neg (show ¬(3000:Int)<3000 by decide)
 .first|rfl|(rename_i h;exact if_neg h)
def aeA(b:Bt):(rM b).aC=min b.aC 3000:=by
 unfold rM;split
 .show (3000:Int)=_;omega
 .omega
noncomputable def runB:List Bt->Lg->Int->Lg×Int
 | [],L,f=>(L,f)
 | b::bs,L,f=>runB bs (bn L f b).1 (bn L f b).2.1
def play_run:∀(n:Nat) (bs:List Bt) (L:Lg) (f:Int),bs.length<=n->playF n (bs.map rM) L f=runB (bs.map rM) L f
 | 0,[],L,f,_=>rfl
 | n+1,[],L,f,_=>rfl
 | n+1,b::bs,L,f,h=>by simp only[qb2,playF,runB,aez];exact play_run n bs _ _ (by simpa using h)
def su.aeS{bs:List Bt}(h:su bs):(∀b∈bs.map rM,pg b)/\su (bs.map rM):=by
 have d:∀b∈bs.map rM,pg b:=λb c=>by obtain⟨a,e,rfl⟩:=kl.1 c;exact h.cap e
 exact⟨d,λb c=>(d b c).ops⟩
def aaU (bs:List Bt) (j:Nat):List Bt:=(bs.take j).map rM++bs.drop j
def nR (bs:List Bt) (j:Nat):List bd:=(aaU bs j).map wo
def aeF(bs:List Bt)(j:Nat):(aaU bs j).length=bs.length:=by simp[aaU];omega
def Yy(bs:List Bt)(j:Nat):(nR bs j).length=bs.length:=by simp[nR,aeF]
def aej(bs:List Bt)(j:Nat):∀r∈nR bs j,r.length=5:=λr a=>by obtain⟨b,_,rfl⟩:=kl.1 a;rfl
def ael(bs:List Bt):nR bs 0=bs.map wo:=by simp[nR,aaU]
def aeE{bs:List Bt}{j:Nat}(h:bs.length<=j):nR bs j=(bs.map rM).map wo:=by simp[nR,aaU,ub h,qb7 h]
def PL{n:Nat}{A B:List bd}{r:bd}(a:∀x∈A,x.length=n)(c:r.length=n){o k:Nat}(hk:o+k<=n):((A++r::B).flatten.drop (A.length*n+o)).take k=(r.drop o).take k:=by have b:=zt a;rw[List.flatten_append,<-b,<-List.drop_drop,List.drop_left,ja2,jh1 od,jb0 ot]
def ae0{n:Nat}{A B:List bd}{r:bd}{x:D}(b:∀x∈A,x.length=n)(d:∀x∈B,x.length=n)(g:r.length=n){o:Nat}(j:o<n):fw n (A++r::B) (A.length*n+o) [x]=A++r.set o x::B:=by
 have i:=zt b;have f:∀y∈A++r::B,y.length=n:=λy c=>by
  rcases ka.1 c with h|h
  .exact b y h
  .rcases ke.1 h with rfl|h
   .exact g
   .exact d y h
 have a:∀y∈A++r.set o x::B,y.length=n:=λy c=>by
  rcases ka.1 c with h|h
  .exact b y h
  .rcases ke.1 h with rfl|h
   .simpa using g
   .exact d y h
 have e:(A++r::B).flatten.take (A.length*n+o)++([x]++(A++r::B).flatten.drop (A.length*n+o+1))=(A++r.set o x::B).flatten:=by rw[List.flatten_append,List.flatten_append,ja2,ja2,<-i,List.take_length_add_append,qg2,<-List.drop_drop,List.drop_left,jb0 od,jh1 od,qa6];rw[List.set_eq_take_append_cons_drop,oc];simp
 unfold fw;rw[qe1,e];have:=CL a;rw[show (A++r::B).length=(A++r.set o x::B).length by simp];exact this
def aek{bs:List Bt}{j:Nat}{b:Bt}(h:bs[j]?=some b):nR bs j=((bs.take j).map rM).map wo++wo b::(bs.drop (j+1)).map wo/\nR bs (j+1)=((bs.take j).map rM).map wo++wo (rM b)::(bs.drop (j+1)).map wo/\(((bs.take j).map rM).map wo).length=j:=by
 have⟨a,e⟩:=qS.1 h;refine⟨?_,?_,ot⟩
 .unfold nR aaU;rw[kB a,e];simp
 .unfold nR aaU;rw[qg0 a,e];simp
def aeG{bs:List Bt}{j:Nat}{s c f g:Int}{os:List lI}(h:bs[j]?=some ⟨s,c,f,g,os⟩){a:Int}(w:a=min g 3000):dY (nR bs j) (j*5+3) 1=some [.d (.v (.i g))]/\fw 5 (nR bs j) (j*5+3) [.v (.i a)]=nR bs (j+1):=by
 have⟨l,q,m⟩:=aek h;have n:∀x∈((bs.take j).map rM).map wo,x.length=5:=λx e=>by obtain⟨b,_,rfl⟩:=kl.1 e;rfl
 have t:∀x∈(bs.drop (j+1)).map wo,x.length=5:=λx e=>by obtain⟨b,_,rfl⟩:=kl.1 e;rfl
 have p:(nR bs j).flatten.length=bs.length*5:=by rw[zt (aej bs j),Yy]
 have y:=(qS.1 h).1;refine⟨?_,?_⟩
 .unfold dY;rw[oc,l];have:=PL (B:=(bs.drop (j+1)).map wo) (r:=wo ⟨s,c,f,g,os⟩) n rfl (o:=3) (k:=1) ov;rw[m]at this;rw[this];rfl
 .have:=ae0 (x:=D.v (.i a)) n t (r:=wo ⟨s,c,f,g,os⟩) rfl (o:=3) ov;rw[m]at this;rw[l,q,this];have : wo (rM ⟨s,c,f,g,os⟩)=(wo ⟨s,c,f,g,os⟩).set 3 (.v (.i a)):=by
   have u:=aeA ⟨s,c,f,g,os⟩;rw[w];show _=([.v (.i s),.v (.i c),.v (.i f),.v (.i (min g 3000)),.s 23 (os.map wO)]:bd);rw[<-show (rM ⟨s,c,f,g,os⟩).aC=min g 3000 from u];unfold rM;split<;>rfl
  rw[this]
def vO.Y2[pq]{P:Program}{nt:Nat}{body:Code}{pre q:St}{ex d k n l:Nat}{e:TypeId}{es:List bd}(hk:2000000<=k)(t:l=es.length)(S:get q (0,d)=some (.of (.one (.g k n l))))(H:get q (k+1,0)=some (.kv e n es))(h:vO P nt ⟨body,pre,ex,q⟩):vO P nt ⟨body,pre,ex,[((0,d),.of (.one (.d (.s n es)))),((k+1,0),.dead)]++q⟩:=by
 intro K G J F M β0 L Z Q B T;refine h K G J F M β0 L Z Q B λj f β a w i=>?_
 let β':Nat->Option Nat:=λx=>if x=k then none else β x
 have β1:∀x b,β' x=some b->β x=some b/\x≠k:=λx b h=>by
  simp only[β']at h;split at h
  .cases h
  .rename_i hk;exact⟨h,hk⟩
 have β2:∀x b,β x=some b->x≠k->β' x=some b:=λx b h hk=>by simp only[β'];rw[if_neg hk];exact h
 have A:∀b,okB j.heap.size f β b->okB j.heap.size f β' b:=λb r=>r.imp id (λh=>⟨h.1,λx e=>h.2 x (β1 x b e).1⟩);have Y:Dc q j f β w j f β' w [(k+1,0)]:={
  gr:=i.gr
  new:=λk b h=>i.new k b (β1 k b h).1
  inj:=λk o b h R=>i.inj k o b (β1 k b h).1 (β1 o b R).1
  sub:=λx b c h=>β2 x b h od
  fresh:=λk b h=>.inl (β1 k b h).1
  keep:=⟨jn _,λb _ h=>⟨A b h,λ_=>rfl⟩⟩
  own:=λ_ _ _ _ _ _ _=>⟨rfl,rfl⟩
  nT:=λx b _ h E=>⟨β2 x b h (λe=>E (by subst e;simp)),rfl⟩
  alive:=λn _ b h=>⟨(β1 n b h).1,rfl⟩
  nk:=by simp only[β'];split;rfl;exact i.nk
  qQ:=i.qQ }
 have⟨u,W,U⟩:=i.rep (0,d) _ oe S;have r:∀b,β k=some b->okB j.heap.size f β' b:=λb r=>by
  have z:∀o,β' o≠some b:=λo e=>by have⟨N,O⟩:=β1 o b e;exact O (i.inj o k b N r)
  rcases (i.new k b r).1 with t|t
  .exact .inr ⟨nT t,z⟩
  .rcases je4 b j.heap.size with m|m
   .exact .inl ⟨m,t⟩
   .exact .inr ⟨.inl m,z⟩
 have V:=(zI i (σ:=q) (okS:=okB j.heap.size f β') (x:=.g k n l) (y:=.d (.s n es)) A (λx c b C=>by simp only[X.keys,qu]at c;subst c;exact r b C) (by simp[mX,H,hk]) (λp I=>by simp only[QS,H,qu]at I;subst I;exact t) (λ_ _=>rfl) U).1;refine T j f β' a w ?_;exact i.next Y (wr:=[((0,d),.of (.one (.d (.s n es)))),((k+1,0),.dead)]) (d:=none) (u:=undef) (λx c=>by rw[qu]at c;subst c;simp) (λx e=>by cases e) (λx v c _=>by
  simp only[ke,js,qd7,or_false]at c;rcases c with⟨rfl,rfl⟩|⟨rfl,rfl⟩
  .exact⟨u,W,V⟩
  .trivial) ((i.FK.sub (λk b h=>(β1 k b h).1)).skip (λx c=>by
  simp only[qb2,qg6,ke,qd7,or_false]at c;rcases c with rfl|rfl
  .show (0:Nat)≠1000001;decide
  .show k+1≠1000001;omega)) (λx v c n E=>by
  simp only[ke,js,qd7,or_false]at c;rcases c with⟨rfl,rfl⟩|⟨rfl,rfl⟩<;>cases E)
abbrev rnL (S:St) (ex:Nat) (q:St):Prop:=vO prog f18.ntmps ⟨gF f18,S,ex,q⟩
def rnQ (L:Lg) (f:Int) (n:Nat) (E:List bd):St:=[((0,2),.of (.one (.p 2 0))),((0,5),.of (.one (.p 5 0))),((0,6),.of (.one (.g 3000016 5 n))),((3000017,0),.kv 43 5 E)]++(oC 2 0 ((ZQ 0).map .d)++oC 5 0 (Tp L f))
def rnS (bs:List Bt) (L:Lg) (f:Int) (n:Nat) (E:List bd) (j:Nat):St:=[((0,17),.of (vT bs)),((0,18),lW (bs.map wo).length),((0,19),.of (jA j))]++rnQ L f n E
def rcD (r:Rc):bd:=[.v (.i r.code),.v (.i r.done),.v (.i r.aC),.v (.i r.Ze),.s 1 (mkD r.made)]
section
variable {bs:List Bt}{L L':Lg}{f f':Int}{n j:Nat}{b:Bt}{r:Rc}{E:List bd}{ex:Nat}{q:St}
def aeZ(a:bs.length<=j):rnL (rnS bs L f n E j) 2 (rnQ L f n E) :=
 xQ (e:=1) [(20,bA false)] [] (al (show mD (aQ (decide (Int.ofNat j<((bs.map wo).length:Int)))) (bA false) from wH oY) al0)
def aeJ(a:bs[j]?=some b)(l:j<=1000)(o:Mg L f b L' f' (Me r))(hn:n=bs.length)(p:E.length=n)(y:rnL (rnS bs L' f' n (fw 5 E (j*5) (rcD r)) (j+1)) ex q):rnL (rnS bs L f n E j) ex q:=by
 have h:=(qS.1 a).1;have t:mD (aQ (decide (Int.ofNat j<((bs.map wo).length:Int)))) (bA true):=is_lt oY;have u:=Cm a;have v:(if 5=5/\j<n then some (AV.of (.one (.q 3000016 (j*5))))else none)=some (.of (.one (.q 3000016 (j*5)))):=if_pos ⟨rfl,od⟩;have w:j*5+5<=E.length*5:=od
 have x:mD (lW (IntKind.i64.wrap (Int.ofNat j+1))) (jA (j+1)):=yY (zF oe ot ot);clear a l hn p h;have⟨s,c,k,i,z⟩:=b;have⟨e,d,g,m,A⟩:=r;exact LG [(20,bA true),(22,.one (.e (wo ⟨s,c,k,i,z⟩) 0)),(32,.one (.q 3000016 (j*5))),(33,jA (j+1))] [⟨_,o⟩] y (al t (al u (al v (al w (al x al0)))))
end
def aeM{bs:List Bt}(hb:∀b∈bs,pg b)(l:bs.length<=200):∀(u:List Bt) (j:Nat) (L:Lg) (f:Int) (E:List bd),bs.drop j=u->GL L f->E.length=bs.length->∃c,c.length=bs.length/\rnL (rnS bs L f bs.length E j) 2 (rnQ (runB u L f).1 (runB u L f).2 bs.length c)
 | [],j,L,f,E,g,e,d=>⟨E,d,aeZ (by have:=congrArg List.length g;simp at this;omega)⟩
 | b::u,j,L,f,E,g,e,d=>by have⟨m,a,h⟩:=kX g;have i:=hb b (jz a);have⟨c,k,n⟩:=aeM hb l u (j+1) _ _ (fw 5 E (j*5) (rcD (bn L f b).2.2)) h (l6 e i) (by unfold fw;rw[nM];exact d);exact⟨c,k,aeJ a od (BV e i) rfl d n⟩
def aeP{bs:List Bt}(hb:∀b∈bs,pg b)(g:bs.length<=200):∃E,E.length=bs.length/\Hd ⟨18,[vT bs],.rz [lC (runB bs newL 0).1 (runB bs newL 0).2,.one (.d (.s 5 E)),iA 0]⟩:=by
 have⟨E,e,a⟩:=aeM hb g bs 0 newL 0 (List.replicate bs.length [.v (.i 0),.v (.i 0),.v (.i 0),.v (.i 0),.s 0 []]) rfl new_GL oe;refine⟨E,e,?_⟩;have h:=H_new;have j:mD (aQ (decide ((200:Int)<((bs.map wo).length:Int)))) (bA false):=wH oY;have k:(bs.map wo).length=(bs.map wo).length/\(bs.map wo).length<=1000000000/\56*(bs.map wo).length<=281474976710656:=⟨rfl,ot,ot⟩;have c:bs.length=(bs.map wo).length:=oe
 have l:(bs.map wo).length=E.length:=by rw[e,c]
 rw[c]at a;generalize runB bs newL 0=z at a|-;have⟨L2,n⟩:=z;have m:=wI (S:=rnS bs newL 0 (bs.map wo).length (List.replicate (bs.map wo).length [.v (.i 0),.v (.i 0),.v (.i 0),.v (.i 0),.s 0 []]) 0) (q:=gF f18=gF f18) rfl (ps:=[]) al0;exact Ce func18 [(11,bA false)] [_] (λx f=>by rw[qu]at f;subst f;exact a) [⟨_,h⟩] (al j (al k (jX m (al l al0))))
def run_GL:∀(bs:List Bt) (L:Lg) (f:Int),(∀b∈bs,pg b)->GL L f->GL (runB bs L f).1 (runB bs L f).2
 | [],L,f,_,h=>h
 | b::bs,L,f,a,h=>run_GL bs _ _ (λx c=>a x (jb6 _ c)) (l6 h (a b (ja3 ..)))
namespace topRuns
set_option maxRecDepth 100000
set_option maxHeartbeats 4000000
abbrev sD (L:Lg) (f:Int) (L':Lg) (f':Int) (b:Bt) (r:Rc):Prop:=Hd ⟨19,[lC L f,lC L' f',btA b,.agg (Me r)],aQ true⟩
abbrev yM (S:St) (ex:Nat) (q:St):Prop:=vO prog f8.ntmps ⟨gF f8,S,ex,q⟩
def QG (L:Lg) (f:Int):St:=oC 4 0 ((ZQ 0).map .d)++oC 6 0 (Tp L f)
def vF (bs:List Bt) (L:Lg) (f:Int) (i:Nat):St:=[((0,0),.of (vT bs)),((0,1),.of (ZP 19)),((0,4),.of (.one (.p 4 0))),((0,6),.of (.one (.p 6 0))),((0,7),.of (jA i))]++QG L f
def IA (L:Lg) (f:Int):St:=[((0,4),.of (.one (.p 4 0))),((0,6),.of (.one (.p 6 0)))]++QG L f
section
variable {bs:List Bt}{L L':Lg}{f f':Int}{i:Nat}{b:Bt}{r:Rc}{ex:Nat}{q:St}
def jN(hi:bs.length<=i):yM (vF bs L f i) 2 (IA L f) :=
 xQ (e:=1) [(18,bA false)] [] (al (show mD (aQ (decide (Int.ofNat i<((bs.map wo).length:Int)))) (bA false) from wH oY) al0)
def mZ(hi:i<bs.length)(h:40<=i):yM (vF bs L f i) 2 (IA L f) :=
 xQ (e:=1) [(18,bA true),(21,bA false)] [] (al (show mD (aQ (decide (Int.ofNat i<((bs.map wo).length:Int)))) (bA true) from is_lt oY) (al (show mD (aQ (decide (Int.ofNat i<40))) (bA false) from wH ot) al0))
def ni(hi:bs[i]?=some b)(h:i<40)(a:Mg L f (rM b) L' f' (Me r))(j:sD L f L' f' (rM b) r)(hn:yM (vF bs L' f' (i+1)) ex q):yM (vF bs L f i) ex q:=by
 have o:mD (aQ (decide (Int.ofNat i<((bs.map wo).length:Int)))) (bA true):=is_lt (by have:=(qS.1 hi).1;rw[xj];simp;omega);have p:mD (aQ (decide (Int.ofNat i<40))) (bA true):=is_lt ot;have t:=Cm hi;have u:mD (lW (IntKind.i64.wrap (Int.ofNat i+1))) (jA (i+1)):=yY (zF oe ot ot);have⟨s,c,n,l,v⟩:=b;have⟨e,d,g,m,w⟩:=r;unfold rM at a j
 by_cases k:3000<l
 .rw[if_pos k]at a j;exact LG [(18,bA true),(21,bA true),(27,.one (.e (wo ⟨s,c,n,l,v⟩) 0)),(31,bA true),(24,jA (i+1))] [⟨_,a⟩,⟨_,j⟩] hn (al o (al p (al t (al (is_lt k) (al u al0)))))
 .rw[if_neg k]at a j;exact LG [(18,bA true),(21,bA true),(27,.one (.e (wo ⟨s,c,n,l,v⟩) 0)),(31,bA false),(24,jA (i+1))] [⟨_,a⟩,⟨_,j⟩] hn (al o (al p (al t (al (wH k) (al u al0)))))
end
def oH{bs:List Bt}(hb:su bs)(hk:∀{L:Lg}{f:Int}{b:Bt},GL L f->pg b->sD L f (bn L f b).1 (bn L f b).2.1 b (bn L f b).2.2):∀(n i:Nat) (L:Lg) (f:Int),i+n=40->GL L f->yM (vF bs L f i) 2 (IA (playF n (bs.drop i) L f).1 (playF n (bs.drop i) L f).2)
 | 0,i,L,f,k,c=>by
  simp only[playF]
  by_cases h:i<bs.length
  .exact mZ h od
  .exact jN od
 | n+1,i,L,f,k,c=>by
  cases g:bs.drop i with
  | nil =>
   have : bs.length<=i:=by have:=congrArg List.length g;simp at this;omega
   simp only[playF];exact jN this
  | cons b m =>
   have⟨l,a,e⟩:=kX g;have d:=hb.cap (jz a);have j:=oH hb hk n (i+1) _ _ od (l6 c d);rw[e]at j;simp only[playF];exact ni a od (BV c d) (hk c d) j
def qR{bs:List Bt}(hb:su bs)(hk:∀{L:Lg}{f:Int}{b:Bt},GL L f->pg b->sD L f (bn L f b).1 (bn L f b).2.1 b (bn L f b).2.2):Hd ⟨8,[vT bs,ZP 19],.rz [lC (playF 40 bs newL 0).1 (playF 40 bs newL 0).2,bA true]⟩:=by have a:=oH hb hk 40 0 newL 0 rfl new_GL;rw[qg1]at a;have e:=H_new;have d:=H_alive;generalize playF 40 bs newL 0=z at a|-;have⟨L2,h⟩:=z;have g:=wI (S:=vF bs newL 0 0) (q:=gF f8=gF f8) rfl (ps:=[]) al0;exact Ce func8 [] [_] (λx c=>by rw[qu]at c;subst c;exact a) [⟨_,e⟩,⟨_,d⟩] g
def look{L:Lg}{f:Int}{b:Bt}(h:GL L f)(hb:pg b):sD L f (bn L f b).1 (bn L f b).2.1 b (bn L f b).2.2:=by generalize bn L f b=z;have⟨L2,j,e,d,g,m,k⟩:=z;have⟨s,c,i,a,l⟩:=b;exact aF func19 []
abbrev trL (S:St) (ex:Nat) (q:St):Prop:=vO prog f7.ntmps ⟨gF f7,S,ex,q⟩
def trQ (n:Nat) (E:List bd):St:=[((0,3),.of (.one (.g 3000019 5 n))),((3000020,0),.kv 39 5 E)]
def trS (n:Nat) (E:List bd) (j:Nat):St:=[((0,21),lW n),((0,22),.of (jA j))]++trQ n E
section
variable {bs:List Bt}{n j:Nat}{b:Bt}{E:List bd}{ex:Nat}{q:St}
def ae2(a:n<=j):trL (trS n E j) 2 (trQ n E) :=
 xQ (e:=1) [(23,bA false)] [] (al (show mD (aQ (decide (Int.ofNat j<(n:Int)))) (bA false) from wH ot) al0)
def aeK(f:bs[j]?=some b)(o:j<=1000)(hn:n=bs.length)(e:E=nR bs j)(h:trL (trS n (nR bs (j+1)) (j+1)) ex q):trL (trS n E j) ex q:=by
 have g:=(qS.1 f).1;have⟨s,c,v,a,w⟩:=b;have⟨i,k⟩:=aeG f rfl;rw[<-e]at i k;have d:E.length=bs.length:=by rw[e,Yy]
 rw[<-k]at h;have p:mD (aQ (decide (Int.ofNat j<(n:Int)))) (bA true):=is_lt ot;have l:(if 5=5/\j<n then some (AV.of (.one (.q 3000019 (j*5))))else none)=some (.of (.one (.q 3000019 (j*5)))):=if_pos ⟨rfl,od⟩;have r:=mR i;have m:mD (lW (if 3000<a then 3000 else a)) (iA (min a 3000)):=yY vy;have t:j*5+3+1<=E.length*5:=od
 have u:mD (lW (IntKind.i64.wrap (Int.ofNat j+1))) (jA (j+1)):=yY (zF oe ot ot);generalize min a 3000=g2 at h m;clear i k f o hn e g d;exact LG [(23,bA true),(29,.one (.q 3000019 (j*5))),(31,iA a),(32,iA g2),(33,.one (.q 3000019 (j*5))),(35,jA (j+1))] [] h (al p (al l (al r (al m (al l (al t (al u al0)))))))
end
def aeO{bs:List Bt}{n:Nat}(hn:n=bs.length)(a:bs.length<=1000):∀(d j:Nat),j+d=bs.length->trL (trS n (nR bs j) j) 2 (trQ n (nR bs bs.length))
 | 0,j,e=>by
  obtain rfl:j=bs.length:=od
  exact ae2 od
 | d+1,j,e=>by have b:bs[j]?=some bs[j]:=qt od;exact aeK b od hn rfl (aeO hn a d (j+1) od)
def aec(l:List Bt):jl (l.map wo):=by unfold jl;rw[ki];intro r a;obtain⟨b,_,rfl⟩:=kl.1 a;rfl
def xY{bs:List Bt}(hb:su bs):Hd ⟨7,[vT bs],aQ true⟩:=by
 have m:=H_alive
 by_cases u:40<bs.length
 .have C:mD (aQ (decide ((40:Int)<((bs.map wo).length:Int)))) (bA true):=is_lt Kd;exact runT func7 [(15,bA true)] [⟨_,m⟩,⟨_,m⟩] (al C al0)
 have o:=hb.aeS;have⟨E,v,A⟩:=aeP o.1 Kd;have p:=qR o.2 look;rw[play_run 40 bs newL 0 od]at p;have I:GL (runB (bs.map rM) newL 0).1 (runB (bs.map rM) newL 0).2:=run_GL _ _ _ o.1 new_GL;have r:=uY (f:=(runB (bs.map rM) newL 0).2) (f':=(runB (bs.map rM) newL 0).2) (λi _=>sQ.rfl' ((runB (bs.map rM) newL 0).1 i)) I.oks;rw[wS,zj rfl]at r;generalize runB (bs.map rM) newL 0=z at A p r;have⟨L2,H⟩:=z;clear I;have C:mD (aQ (decide ((40:Int)<((bs.map wo).length:Int)))) (bA false):=wH Kd
 cases c:bs with
 | nil =>
  subst c;obtain rfl:E=[]:=jx (by simpa using v);have B:Hd ⟨18,[nilA],.rz [lC L2 H,.one (.d (.s 5 [])),iA 0]⟩:=Holds.conv A (λok w G h=>by
   match G,h with
   | [a],⟨t,_⟩=>exact⟨gG t,trivial⟩) (λ_ _ _ h=>h)
  have y:Hd ⟨8,[nilA,ZP 19],.rz [lC L2 H,bA true]⟩:=Holds.conv p (λok w G h=>by
   match G,h with
   | [a,b],⟨t,J,_⟩=>exact⟨gG t,J,trivial⟩) (λ_ _ _ h=>h)
  have g:trL [((0,3),.of nilA),((0,21),lW 0),((0,22),.of (jA 0))] 2 [((0,3),.of nilA)]:=xQ (e:=1) [] [] al0;have F:=wI (S:=[((0,3),.of nilA),((0,21),lW 0),((0,22),.of (jA 0))]) (q:=gF f7=gF f7) rfl (ps:=[]) al0;exact Ce func7 [(19,nilA)] [_] (λx j=>by rw[qu]at j;subst j;exact g) [⟨_,m⟩,⟨_,B⟩,⟨_,y⟩,⟨_,r⟩] (al (show some (AV.of nilA)=some (.of nilA)/\([]:List bd)=[]/\A1.isS nilA from ⟨rfl,rfl,rfl⟩) (jX F al0))
 | cons M N =>
  rw[<-c];have g:=aeO (bs:=bs) (n:=0+(bs.map wo).length) oe od bs.length 0 od;rw[ael,aeE (jn _)]at g;have K:=vO.Y2 (k:=3000019) (d:=3) (n:=5) (l:=0+(bs.map wo).length) (e:=39) (es:=(bs.map rM).map wo) ov oe rfl rfl g;have g1:rowsLe (([]:List bd).take 0++bs.map wo) (([]:List bd).take 0++bs.map wo):=rows_refl _;have g2:zV 56 0 [] (bs.map wo):=iL (jn 0) (by rw[c];simp) (aec bs) ot ov;have L:jJ (decide ((E.length:Int)=(((bs.map rM).map wo).length:Int))) true:=eT (zj (by rw[v];simp));clear c hb o v u g;have F:=wI (S:=trS (0+(bs.map wo).length) (bs.map wo) 0) (q:=gF f7=gF f7) rfl (ps:=[]) al0;exact Ce func7 [(15,bA false),(57,bA true)] [_] (λx j=>by rw[qu]at j;subst j;exact K) [⟨_,m⟩,⟨_,A⟩,⟨_,p⟩,⟨_,r⟩] (al C (al g1 (al g2 (jX F (al L al0)))))
end topRuns
end Go.Proofs.YtnamdihclpbdfabGreat
namespace Go.Proofs.YtnamdihclpbdfabGreat.topRuns
set_option linter.all false
open Go.Proofs.Tryz
set_option maxRecDepth 100000
set_option maxHeartbeats 4000000
open Go.ChangeShapes Go.WideShapes Go.ChangeAt Go.RowKit
open Pe (fI gm dU iZ)
def own:ownKnob prog.godebug=none:=oA
def laidOut:laidOutB prog:=oA
def PY{w w':cg}(h:cq w w' none):Below w.heap.size w w':=⟨h.os,h.tape,h.output,h.size,λk a=>h.block k a oe⟩
def contract(H:Type)(enc:TypeId×cm->H)(W:cg)(c:Nat)(args:Array cm)(ds l:List (DataW H))(a:List MemPlace)
 (hval:∀(j:Nat) t v,f7.params[j]?=some t->args[j]?=some v->Value.okWide prog W .any c t v)
 (hW:DataW.Whole enc prog f7.params.toList Rows.topRunsSpec.vars false W args.toList ds l a) (hk:Rows.uptoSmall H (ds++l)) :
 Calls prog 7 args W λe k=>∃v,e =.returned v/\Rows.topRunsSpec.post enc prog f7 false true false false W args v k:=by
 have b:=hW;obtain⟨p,q,hA0,w,rfl,A,C⟩:=hW;have n:DataW.TrodAll enc prog W 0 (λ_=>true) true f7.params.toList args.toList ds p:=hA0;rw[params7]at n hval;obtain⟨i,I,J,s,r,K,f,rfl,rfl,m,G⟩:=trodAll_cons n;obtain⟨rfl,rfl,rfl⟩:=trodAll_nil G;obtain rfl:args=#[i]:=by cases args;simp_all
 obtain⟨rfl,rfl⟩:=trodVars_none w;have y:=qc4 hk;simp only[qb0,Rows.uptoBulkAll]at y;have⟨bs,g,D⟩:=nS od m (hval 0 22 i rfl rfl);clear hA0;simp only[qb0]at b;have d:∀x∈r,x.block<W.heap.size:=λx F=>b.lt x (by simp[F]);have u:=(xY g).runN rfl (λ_=>True) W [i] ⟨D,trivial⟩;refine u.mono λe k ⟨B,v,z,E⟩=>?_;obtain rfl:=Pe.bW E;subst z;have o:=PY B;exact⟨_,rfl,_,_,_,[],r++[],[],b,trodAll_cons_mk (shut_bool underlying4 _) ka3,trodAll_cons_mk (Below.trod laidOut oA (qc4 oA) m o d) ka3,rfl,o.frame _,λh=>by cases h⟩
def lifted(os:Os)(a:os.Started)(H:Type)(enc:TypeId×cm->H)(F:Stop.Interp) :
 ReturnsInHanded {} checked os 7 .any ((Rows.OpenSpec.upto Rows.topRunsSpec).pre6 enc prog f7 Rows.topRunsUptoRow.domain false) (((Rows.OpenSpec.upto Rows.topRunsSpec).at F).post enc prog f7 false true false false):=by
 refine jg4 (C:=checked) (s:=Rows.OpenSpec.upto Rows.topRunsSpec) (k:=Rows.uptoSmall) rfl own a oA func7
  (OpenSpec.witness (enc:=enc) (C:=checked) (s:=Rows.OpenSpec.upto Rows.topRunsSpec) (k:=Rows.uptoSmall) rfl false ⟨#[],#[.n0],[]⟩ 8 oA oA oA
   (x:=([.nil],[],[])) oA rfl oA) ?_
 intro W d c f g b e hW _ h _;exact contract H enc W d c f g b e hW h
def over:Rows.topRunsUptoRow.holds Tryz.pinned (Rows.OpenSpec.upto Rows.topRunsSpec) :=
 jg5 7 f7 rfl rfl rfl rfl rfl rfl rfl ⟨rfl,rfl,rfl,rfl,rfl⟩ rfl rfl rfl rfl rfl oA func7 oA
  (qc4 oA) oR
  (λc a H b _ F=>lifted c a H b F)
end Go.Proofs.YtnamdihclpbdfabGreat.topRuns
namespace Go.Proofs.YtnamdihclpbdfabGreat
set_option linter.all false
open Go.Proofs.Tryz
set_option maxRecDepth 100000
set_option maxHeartbeats 4000000
theorem topRuns_holds:Rows.TopRunsUptoSaid:=topRuns.over
#print axioms topRuns_holds
