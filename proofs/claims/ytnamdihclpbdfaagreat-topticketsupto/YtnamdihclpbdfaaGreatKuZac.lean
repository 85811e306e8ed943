import Derived.Test.YtnamdihclpbdfaaGreatKuZ0
import Derived.ArgAppend
import Derived.ChangeKeysEq
import Derived.Laws.AppendOwn
import Derived.Laws.Cells
import Derived.Laws.Entries
import Derived.Laws.IdiomCopy
import Derived.Laws.Rows
import Derived.OrdersHeld
namespace Go.Proofs.YtnamdihclpbdfaaGreat.Pe
set_option linter.all false
open Go.Proofs.Tryz
noncomputable section
inductive D where
 | v (x:Value)
 | s (n:Nat) (es:List (List D))
 | t
 /-- a pointer to a row -/
 | e (cs:List D)
abbrev bd:=List D
inductive fI (ok:Nat->Prop) (w:World):D->Value->Prop
 | v (x:Value):fI ok w (.v x) x
 | t (x:Value) (h:x.oneCell'):fI ok w .t x
 | e {cs:List D} {b q:Nat} (U:Nat->Value) (hb:ok b/\b<w.heap.size) (hc:∀(j:Nat) (x:D),cs[j]?=some x->w.cell? ⟨b,q+j,none⟩=some (U j)) (hr:∀(j:Nat) (x:D),cs[j]?=some x->fI ok w x (U j)):fI ok w (.e cs) (.pointer (some ⟨b,q,none⟩))
 | s {n:Nat} {es:List (List D)} {a:Option Addr} {c:Nat} (U:Nat->Nat->Value) (hc:es.length<=c) (hl:es.length<=maxLen)
  (hn:∀(i:Nat) (r:List D),es[i]?=some r->r.length=n)
  (ha:∀(i:Nat) (r:List D) (j:Nat) (x:D),es[i]?=some r->r[j]?=some x->∃b o,a=some ⟨b,o,none⟩/\ok b/\w.cell? ⟨b,o+(i*n+j),none⟩=some (U i j))
  (hr:∀(i:Nat) (r:List D) (j:Nat) (x:D),es[i]?=some r->r[j]?=some x->fI ok w x (U i j)) (hz:n=0->a=none/\c=0:=by intro h;omega):fI ok w (.s n es) (.slice a es.length c)
inductive X where
 | d (x:D)
 | p (k o:Nat)
 | e (cs:List D) (o:Nat)
 | f (n:Nat) (es:List (List D))
 /-- a growing list of the call's own: its key,its stride,its length -/
 | g (k n l:Nat)
 /-- a place in one -/
 | q (k o:Nat)
 /-- a function that captured boxes -/
 | c (f:FuncId) (ks:List Nat)
inductive A1 where
 | one (x:X)
 | agg (xs:List X)
inductive AV where
 | of (a:A1)
 | rz (xs:List A1)
 | kv (e:TypeId) (n:Nat) (es:List (List D))
 | dead
def X.keys:X->List Nat
 | .g k _ _=>[k]
 | .q k _=>[k]
 | _=>[]
def A1.keys:A1->List Nat
 | .one x=>x.keys
 | .agg xs=>xs.flatMap X.keys
def AV.keys:AV->List Nat
 | .of a=>a.keys
 | .rz az=>az.flatMap A1.keys
 | _=>[]
def Zp (w:cg) (b:Nat):Option (Nat×TypeId) :=
 match w.heap[b]? with
 | some (.cells cs e (0,0))=>some (cs.size,e)
 | _=>none
def zH (ok:br) (w:cg) (ok':br) (w':cg):Prop:=w.heap.size<=w'.heap.size/\∀b,b<w.heap.size->ok b->ok' b/\∀o,w'.cell? ⟨b,o,none⟩=w.cell? ⟨b,o,none⟩
def fI.keep{ok ok':Nat->Prop}{w w':World}{d:D}{v:Value}(h:fI ok w d v)(k:zH ok w ok' w'):fI ok' w' d v:=by
 induction h with
 | v x=>exact .v x
 | t x h=>exact .t x h
 | e U c f z g=>obtain⟨l,m⟩:=k.2 _ c.2 c.1;exact .e U ⟨l,kh c.2 k.1⟩ (λj x h=>(m _).trans (f j x h)) g
 | s U f u y q z A g =>
  refine .s U f u y (λi r j x n p=>?_) g A;obtain⟨b,o,e,c,a⟩:=q i r j x n p;obtain⟨l,m⟩:=k.2 b (qb7 w _ a) c;exact⟨b,o,e,l,(m _).trans a⟩
section
variable (β:Nat->Option Nat) (ok:br) (w:cg)
def jm:X->cm->Prop
 | .d x,v=>fI ok w x v
 | .p k o,v=>∃b,(β k=some b/\k<1000000)/\v =.pointer (some ⟨b,o,none⟩)
 | .e cs o,v=>∃b q,v =.pointer (some ⟨b,q+o,none⟩)/\(ok b/\b<w.heap.size)/\∀(j:Nat) (x:D),cs[j]?=some x->∃u,w.cell? ⟨b,q+j,none⟩=some u/\fI ok w x u
 | .f n es,v=>∃a,v =.slice a es.length es.length/\fI ok w (.s n es) v
 | .g k n l,v=>∃b0 c,v =.o b0 l c/\l<=c/\∀b,β k=some b->b=b0/\∃e,Zp w b=some (c*n,e)
 | .q k o,v=>∃b0,v =.pointer (some ⟨b0,o,none⟩)/\∀b,β k=some b->b=b0
 | .c f ks,v=>(∀k∈ks,(∃b,β k=some b)/\k<1000000)/\v =.func (.func f) #[] (ks.map λk=>Value.po ((β k).getD 0)).toArray
def dU {α:Type}(R:α->cm->Prop):List α->bo->Prop
 | [],[]=>True
 | x::xs,v::vs=>R x v/\dU R xs vs
 | _,_=>False
def gm:A1->cm->Prop
 | .one x,v=>jm β ok w x v
 | .agg xs,v=>∃vs,v =.agg vs.toArray/\dU (jm β ok w) xs vs
def iZ:AV->cm->Prop
 | .of a,v=>gm β ok w a v
 | .rz az,v=>∃vs,v =.tuple vs.toArray/\dU (gm β ok w) az vs
 | _,_=>False
end
def dU.mono{α:Type}{R R':α->cm->Prop}(h:∀x v,R x v->R' x v):∀{xs:List α}{vs:bo},dU R xs vs->dU R' xs vs
 | [],[],_=>trivial
 | x::xs,v::vs,⟨a,b⟩=>⟨h x v a,dU.mono h b⟩
def dU.length{α:Type}{R:α->cm->Prop} : ∀{xs:List α}{vs:bo},dU R xs vs->vs.length=xs.length
 | [],[],_=>rfl
 | x::xs,v::vs,⟨_,b⟩=>by simp[dU.length b]
def dU.get{α:Type}{R:α->cm->Prop} : ∀{xs:List α}{vs:bo},dU R xs vs->∀(i:Nat) (x:α),xs[i]?=some x->∃v,vs[i]?=some v/\R x v
 | x::xs,v::vs,⟨a,b⟩,0,y,h=>⟨v,rfl,by simpa using (by simpa using h:x=y) ▸ a⟩
 | x::xs,v::vs,⟨a,b⟩,i+1,y,h=>dU.get b i y (by simpa using h)
def dU.of{α:Type}{R:α->cm->Prop} : ∀{xs:List α}{vs:bo},vs.length=xs.length->(∀(i:Nat) (x:α) (v:cm),xs[i]?=some x->vs[i]?=some v->R x v)->dU R xs vs
 | [],[],_,_=>trivial
 | x::xs,v::vs,c,h=>⟨h 0 x v rfl rfl,dU.of (by simpa using c) (λi y u a b=>h (i+1) y u (by simpa using a) (by simpa using b))⟩
section
variable {β β':Nat->Option Nat}{ok ok':br}{w w':cg}
abbrev BP (β:Nat->Option Nat) (w:cg) (β':Nat->Option Nat) (w':cg) (n:Nat):Prop:=∀b,β' n=some b->β n=some b/\Zp w' b=Zp w b
def jm.kL(k:zH ok w ok' w')(hβ:∀x b,x<1000000->β x=some b->β' x=some b):∀(x:X) (v:cm),(∀n∈x.keys,BP β w β' w' n)->jm β ok w x v->jm β' ok' w' x v
 | .d x,v,_,h=>fI.keep h k
 | .p n o,v,_,⟨b,h,e⟩=>⟨b,⟨hβ _ _ h.2 h.1,h.2⟩,e⟩
 | .e cs o,v,_,⟨b,q,e,s,F⟩=>by have⟨H,I⟩:=k.2 b s.2 s.1;exact⟨b,q,e,⟨H,kh s.2 k.1⟩,λj x G=>by have⟨u,i,r⟩:=F j x G;exact⟨u,(I _).trans i,r.keep k⟩⟩
 | .f n J,v,_,⟨a,e,h⟩=>⟨a,e,h.keep k⟩
 | .g n m l,v,y,⟨t,c,i,r,C⟩=>⟨t,c,i,r,λb s=>by have⟨A,B⟩:=y n vp b s;have⟨D,e,E⟩:=C b A;exact⟨D,e,B.trans E⟩⟩
 | .q n o,v,y,⟨t,i,r⟩=>⟨t,i,λb s=>r b (y n vp b s).1⟩
 | .c f K,v,_,⟨i,r⟩=>⟨λn z=>by have⟨⟨b,e⟩,l⟩:=i n z;exact⟨⟨b,hβ n b l e⟩,l⟩,by rw[r,List.map_congr_left];intro n z;have⟨⟨b,e⟩,l⟩:=i n z;rw[e,hβ n b l e]⟩
def dU.P5{α:Type}{R R':α->cm->Prop} : ∀{xs:List α}{vs:bo},(∀x∈xs,∀v,R x v->R' x v)->dU R xs vs->dU R' xs vs
 | [],[],_,_=>trivial
 | x::xs,v::vs,h,⟨a,b⟩=>⟨h x oe v a,dU.P5 (λy c=>h y (by simp[c])) b⟩
def gm.kL(k:zH ok w ok' w')(hβ:∀x b,x<1000000->β x=some b->β' x=some b):∀(x:A1) (v:cm),(∀n∈x.keys,BP β w β' w' n)->gm β ok w x v->gm β' ok' w' x v
 | .one x,v,a,h=>jm.kL k hβ x v a h
 | .agg i,v,a,⟨g,e,h⟩=>⟨g,e,h.P5 λx f u d=>jm.kL k hβ x u (λn c=>a n (by simp only[A1.keys,qb2];exact⟨x,f,c⟩)) d⟩
def iZ.kL(k:zH ok w ok' w')(hβ:∀x b,x<1000000->β x=some b->β' x=some b):∀(x:AV) (v:cm),(∀n∈x.keys,BP β w β' w' n)->iZ β ok w x v->iZ β' ok' w' x v
 | .of x,v,a,h=>gm.kL k hβ x v a h
 | .rz i,v,a,⟨g,e,h⟩=>⟨g,e,h.P5 λx f u d=>gm.kL k hβ x u (λn c=>a n (by simp only[AV.keys,qb2];exact⟨x,f,c⟩)) d⟩
def gm.keep(k:zH ok w ok' w')(hβ:∀x b,β x=some b->β' x=some b)(x:A1)(v:cm)(h:gm β ok w x v)(a:∀n,BP β w β' w' n:=by intro n b h;cases h):gm β' ok' w' x v:=gm.kL k (λx b _=>hβ x b) x v (λn _=>a n) h
end
abbrev Loc:=Nat×Nat
abbrev St:=List (Loc×AV)
def get (σ:St) (x:Loc):Option AV:=List.rec (motive:=λ_=>Option AV) none (λe _ ih=>cond (Nat.beq e.1.1 x.1) (cond (Nat.beq e.1.2 x.2) (some e.2) ih) ih) σ
def get_nil(x:Loc):get [] x=none:=rfl
def Wm{a b:Nat}(h:a≠b):Nat.beq a b=false:=by
 cases e:Nat.beq a b with
 | false=>rfl
 | true=>exact absurd (Nat.eq_of_beq_eq_true e) h
def ic(k:Loc)(v:AV)(r:St)(x:Loc):get ((k,v)::r) x=if k=x then some v else get r x:=by
 show cond (Nat.beq k.1 x.1) (cond (Nat.beq k.2 x.2) (some v) (get r x)) (get r x)=_
 by_cases h:k=x
 .subst h;rw[if_pos rfl,Nat.beq_refl,Nat.beq_refl];rfl
 .rw[if_neg h]
  by_cases a:k.1=x.1
  .by_cases b:k.2=x.2
   .exact absurd (Prod.ext a b) h
   .rw[Wm b];cases Nat.beq k.1 x.1<;>rfl
  .rw[Wm a];rfl
def dV:cm->D
 | .slice none 0 0=>.s 0 []
 | v=>.v v
def ofV:cm->A1
 | .agg cs=>.agg (cs.toList.map λc=>.d (dV c))
 | v=>.one (.d (dV v))
def undefA:AV:=.of (.one (.d (.v (.tuple #[]))))
def normA:AV->AV
 | .of (.one (.d (.e cs)))=>.of (.one (.e cs 0))
 | v=>v
def tC (σ:St):Operand->Option AV
 | .tmp t=>(get σ (0,t)).map normA
 | .const v=>some (.of (ofV v))
 | .func f=>some (.of (.one (.d (.v (.func (.func f) #[] #[])))))
 | _=>none
def fnO:AV->Option (FuncId×List Nat)
 | .of (.one (.d (.v (.func (.func f) a b))))=>if a.size=0/\b.size=0 then some (f,[])else none
 | .of (.one (.c f ks))=>some (f,ks)
 | _=>none
def JM (σ:St):List Operand->Option (List Nat)
 | []=>some []
 | x::r =>
  match tC σ x,JM σ r with
  | some (.of (.one (.p k 0))),some l=>some (k::l)
  | _,_=>none
def adG (f:FuncId):List Nat->X
 | []=>.d (.v (.func (.func f) #[] #[]))
 | k::l=>.c f (k::l)
def X.plain:X->Bool
 | .d (.v (.agg _))=>false
 | .d (.v (.tuple _))=>false
 | _=>true
def X.clean:X->Bool
 | .d _=>true
 | _=>false
def X.soft:X->X
 | .f n es=>.d (.s n es)
 | .e cs 0=>.d (.e cs)
 | x=>x
def A1.xs:A1->List X
 | .one x=>[x]
 | .agg xs=>xs
def X.isG:X->Bool
 | .g _ _ _=>true
 | _=>false
def A1.clean (a:A1):Bool:=a.xs.all X.clean
def X.toD:X->D
 | .d x=>x
 | _=>.v (.tuple #[])
def aQ (b:Bool):AV:=.of (.one (.d (.v (.bool b))))
def lW (n:Int):AV:=.of (.one (.d (.v (.i n))))
def xw {α:Type} : Nat->List α->Option (List α)
 | 0,l=>some l
 | n+1,_::l=>xw n l
 | _+1,[]=>none
def nH {α:Type} : Nat->List α->Option (List α)
 | 0,_=>some []
 | n+1,x::l=>(nH n l).map (x :: ·)
 | _+1,[]=>none
def CV (σ:St) (x:Operand):Option Nat :=
 match tC σ x with
 | some (.of (.one (.d (.v (.int .i64 (.ofNat j))))))=>some j
 | _=>none
def mkA:Bool->List X->Option AV
 | true,xs=>some (.of (.agg xs))
 | false,[x]=>some (.of (.one x))
 | false,_=>none
def aggB:TypeDesc->Bool
 | .struct _=>true
 | .array _ _=>true
 | _=>false
def xB (place:Nat->Option (Nat×Nat)):List X->List (Nat×List X)->Option (List X)
 | xs,[]=>some xs
 | xs,(i,ys)::r =>
  match place i with
  | none=>none
  | some (off,size)=>if ys.length=size/\off+ys.length<=xs.length then xB place (xs.take off++(ys++xs.drop (off+ys.length))) r else none
def tV (σ:St):List (Nat×Operand)->Option (List (Nat×List X))
 | []=>some []
 | (i,x)::r =>
  match tC σ x with
  | some (.of a)=>if a.xs.all X.plain then (tV σ r).map ((i,a.xs.map X.soft) :: ·)else none
  | _=>none
def chunk {α:Type}(n:Nat):Nat->List α->List (List α)
 | 0,_=>[]
 | k+1,l=>l.take n::chunk n k (l.drop n)
def kA (k:IntKind) (n:Int):AV:=.of (.one (.d (.v (.int k n))))
def bitO:BinOp->IntKind->IntKind->Int->Int->Option AV
 | .shl,k,_,a,b=>if 0<=b then some (kA k (k.wrap (a*2 ^ min b.toNat k.bits)))else none
 | .shr,k,_,a,b=>if 0<=b then some (kA k (a.fdiv (2 ^ min b.toNat k.bits)))else none
 | .and,k,k',a,b=>if k=k' then some (kA k (k.wrap (BitVec.ofInt k.bits a &&& BitVec.ofInt k.bits b).toNat))else none
 | .or,k,k',a,b=>if k=k' then some (kA k (k.wrap (BitVec.ofInt k.bits a ||| BitVec.ofInt k.bits b).toNat))else none
 | .eql,k,k',a,b=>if k=k' then some (aQ (decide (a=b)))else none
 | _,_,_,_,_=>none
def aaF (z:bp) (j:Int):Option AV:=if 0<=j then (z[j.toNat]?).map λb=>kA .u8 b.toNat else none
def Sn (z:bp):Option Nat->Option Nat->Option AV
 | some l,some h=>if l<=h/\h<=z.size then some (.of (.one (.d (.v (.string (z.extract l h))))))else none
 | _,_=>none
def cmpO:BinOp->Int->Int->Option AV
 | .eql,a,b=>some (aQ (decide (a=b)))
 | .neq,a,b=>some (aQ (!decide (a=b)))
 | .lss,a,b=>some (aQ (decide (a<b)))
 | .leq,a,b=>some (aQ (decide (a<=b)))
 | .gtr,a,b=>some (aQ (decide (b<a)))
 | .geq,a,b=>some (aQ (decide (b<=a)))
 | .add,a,b=>some (lW (IntKind.i64.wrap (a+b)))
 | .sub,a,b=>some (lW (IntKind.i64.wrap (a - b)))
 | .quo,a,b=>if b=0 then none else some (lW (IntKind.i64.wrap (a.tdiv b)))
 | op,a,b=>bitO op .i64 .i64 a b
def Bp (sz n:Nat) (es:List bd) (j:Nat):Option AV :=
 match es[j]? with
 | some (c::r)=>if sz=n then some (.of (.one (.e (c::r) 0)))else none
 | _=>none
def qA (n:Nat) (es:List bd):Option Nat->Option (Option Nat)->Option AV
 | some l,some none=>(xw l es).map λr=>.of (.one (.d (.s n r)))
 | some l,some (some h)=>((nH h es).bind (xw l)).map λr=>.of (.one (.d (.s n r)))
 | _,_=>none
def nilX:X->Option Bool
 | .d (.v (.pointer none))=>some true
 | .d (.v (.pointer (some _)))=>some false
 | .p _ _=>some false
 | .e _ _=>some false
 | .q _ _=>some false
 | _=>none
def nilO:BinOp->X->Option AV
 | .eql,u=>(nilX u).map aQ
 | .neq,u=>(nilX u).map λb=>aQ (!b)
 | _,_=>none
def boolO:BinOp->Bool->Bool->Option AV
 | .eql,a,b=>some (aQ (a==b))
 | .neq,a,b=>some (aQ (!(a==b)))
 | _,_,_=>none
def oI (P:Program) (σ:St):Op->Option AV
 | .convert s d x =>
  match tC σ x,P.underlying s,P.underlying d with
  | some (.of (.one (.d (.v (.int k n))))),some _,some (.int k')=>some (kA k' (k'.wrap n))
  | _,_,_=>none
 | .unOp .neg _ x =>
  match tC σ x with
  | some (.of (.one (.d (.v (.int k n)))))=>some (kA k (k.wrap (0 - n)))
  | _=>none
 | .index t x i =>
  match P.underlying t,tC σ x,tC σ i with
  | some .string,some (.of (.one (.d (.v (.string z))))),some (.of (.one (.d (.v (.int .i64 j)))))=>aaF z j
  | some (.array len el),some (.of (.agg xs)),some (.of (.one (.d (.v (.int .i64 (.ofNat j)))))) =>
   match P.underlying el,P.info? el with
   | some d,some i=>if j<len/\j*i.size+i.size<=xs.length/\(aggB d||i.size==1)/\((xs.drop (j*i.size)).take i.size).all X.clean then mkA (aggB d) ((xs.drop (j*i.size)).take i.size)else none
   | _,_=>none
  | _,_,_=>none
 | .makeFunc (.func f) first captured=>if first.size=0 then (JM σ captured.toList).map λks=>.of (.one (adG f ks))else none
 | _=>none
def fV (P:Program) (σ:St):Op->Option AV
 | .move x=>tC σ x
 | .assign x=>tC σ x
 | .pick c a b =>
  match tC σ c with
  | some (.of (.one (.d (.v (.bool true)))))=>tC σ a
  | some (.of (.one (.d (.v (.bool false)))))=>tC σ b
  | _=>none
 | .fieldAddr s x f =>
  match P.underlying s with
  | some (.struct fs) =>
   match fs[f]? with
   | some fd =>
    match P.info? fd.type with
    | some i =>
     if i.size=0 then none else
     match tC σ x with
     | some (.of (.one (.p k q)))=>some (.of (.one (.p k (q+fd.offset))))
     | some (.of (.one (.e cs q)))=>some (.of (.one (.e cs (q+fd.offset))))
     | some (.of (.one (.q k q)))=>some (.of (.one (.q k (q+fd.offset))))
     | some (.of (.one (.d (.v (.pointer (some ⟨b,q,none⟩))))))=>some (.of (.one (.d (.v (.pointer (some ⟨b,q+fd.offset,none⟩))))))
     | _=>none
    | none=>none
   | none=>none
  | _=>none
 | .indexAddr t x i =>
  match P.underlying t,CV σ i with
  | some (.slice el),some j =>
   match P.info? el,tC σ x with
   | some inf,some (.of (.one (.d (.s n es))))=>Bp inf.size n es j
   | some inf,some (.of (.one (.g k n l)))=>if inf.size=n/\j<l then some (.of (.one (.q k (j*n))))else none
   | _,_=>none
  | some (.array len el),some j =>
   match P.info? el,tC σ x with
   | some inf,some (.of (.one (.p k q)))=>if j<len then some (.of (.one (.p k (q+j*inf.size))))else none
   | some inf,some (.of (.one (.e cs q)))=>if j<len then some (.of (.one (.e cs (q+j*inf.size))))else none
   | _,_=>none
  | _,_=>none
 | .slice t x lo hi none =>
  match P.underlying t,tC σ x with
  | some (.slice el),some (.of (.one (.d (.s n es)))) =>
   match P.info? el with
   | some inf =>
    if inf.size=n then
     qA n es (match lo with|none=>some 0|some y=>CV σ y) (match hi with|none=>some none|some y=>(CV σ y).map some)
    else none
   | none=>none
  | some (.slice el),some (.of (.one (.g k n l))) =>
   match P.info? el,lo,hi with
   | some inf,none,some y=>match CV σ y with|some h=>if inf.size=n/\h<=l then some (.of (.one (.g k n h)))else none|none=>none
   | _,_,_=>none
  | some .string,some (.of (.one (.d (.v (.string z)))))=>Sn z (match lo with|none=>some 0|some y=>CV σ y) (match hi with|none=>some z.size|some y=>CV σ y)
  | _,_=>none
 | .slice t x none (some y) (some z) =>
  match P.underlying t,tC σ x,CV σ y,CV σ z with
  | some (.slice el),some (.of (.one (.d (.s n es)))),some h,some m =>
   match P.info? el with
   | some inf=>if inf.size=n/\h=m then (nH h es).map λr=>.of (.one (.f n r))else none
   | none=>none
  | _,_,_,_=>none
 | .field t x f =>
  match P.underlying t,tC σ x with
  | some (.struct fs),some (.of (.agg xs)) =>
   match fs[f]? with
   | some fd =>
    match P.underlying fd.type,P.info? fd.type with
    | some d,some i=>if fd.offset+i.size<=xs.length/\(aggB d||i.size==1)then mkA (aggB d) ((xs.drop fd.offset).take i.size)else none
    | _,_=>none
   | none=>none
  | _,_=>none
 | .extract x i =>
  match tC σ x with
  | some (.rz az)=>(az[i]?).map .of
  | _=>none
 | .binOp op t x y _ =>
  match tC σ x,tC σ y with
  | some (.of (.one (.d (.v (.int .i64 a))))),some (.of (.one (.d (.v (.int .i64 b)))))=>cmpO op a b
  | some (.of (.one (.d (.v (.string a))))),some (.of (.one (.d (.v (.string b))))) =>
   match op with
   | .add=>if a.size+b.size<=9223372036854775807 then some (.of (.one (.d (.v (.string (a++b))))))else none
   | .eql=>some (aQ (a.toList==b.toList))
   | .neq=>some (aQ (!(a.toList==b.toList)))
   | .lss=>some (aQ (Op.bytesLess a.toList b.toList))
   | .gtr=>some (aQ (!(Op.bytesLess a.toList b.toList||a.toList==b.toList)))
   | _=>none
  | some (.of (.one (.d (.v (.int k a))))),some (.of (.one (.d (.v (.int k' b)))))=>bitO op k k' a b
  | some (.of (.one (.d (.v (.bool a))))),some (.of (.one (.d (.v (.bool b)))))=>match P.underlying t with|some .bool=>boolO op a b|_=>none
  | some (.of (.one u)),some (.of (.one (.d (.v (.pointer none)))))=>match P.underlying t with|some (.pointer _)=>nilO op u|_=>none
  | _,_=>none
 | .unOp .not _ x =>
  match tC σ x with
  | some (.of (.one (.d (.v (.bool b)))))=>some (aQ (!b))
  | _=>none
 | .nilCheck x =>
  match tC σ x with
  | some (.of (.one (.p k q)))=>some (.of (.one (.p k q)))
  | some (.of (.one (.e cs q)))=>some (.of (.one (.e cs q)))
  | some (.of (.one (.q k q)))=>some (.of (.one (.q k q)))
  | some (.of (.one (.d (.v (.pointer (some q))))))=>some (.of (.one (.d (.v (.pointer (some q))))))
  | _=>none
 | .build t parts =>
  match P.underlying t,(P.info? t).bind (·.zero),tV σ parts.toList with
  | some (.struct fs),some z,some ps =>
   if fs.toList.all (λf=>(P.info? f.type).isSome)then
    (xB (λi=>(fs[i]?).bind λf=>(P.info? f.type).map λj=>(f.offset,j.size)) (ofV z).xs ps).map λxs=>.of (.agg xs)
   else none
  | _,_,_=>none
 | .call { callee:=.builtin .len,args:=args,argTypes:=ts } =>
  match args.toList,(ts[0]?).bind P.underlying with
  | [x],some (.slice _) =>
   match tC σ x with
   | some (.of (.one (.d (.s _ es))))=>some (lW es.length)
   | some (.of (.one (.g _ _ l)))=>some (lW l)
   | _=>none
  | [x],some .string =>
   match tC σ x with
   | some (.of (.one (.d (.v (.string z)))))=>some (lW z.size)
   | _=>none
  | _,_=>none
 | .call { callee:=.builtin .max,args:=args,argTypes:=ts } =>
  match args.toList with
  | [x,y] =>
   match tC σ x,tC σ y with
   | some (.of (.one (.d (.v (.int .i64 m))))),some (.of (.one (.d (.v (.int .i64 n)))))=>some (lW (if m<n then n else m))
   | _,_=>none
  | _=>none
 | .call { callee:=.builtin .min,args:=args,argTypes:=ts } =>
  match args.toList with
  | [x,y] =>
   match tC σ x,tC σ y with
   | some (.of (.one (.d (.v (.int .i64 m))))),some (.of (.one (.d (.v (.int .i64 n)))))=>some (lW (if n<m then n else m))
   | _,_=>none
  | _=>none
 | op=>oI P σ op
class Mv where
 p:Option (Nat×Nat)
instance mv0:Mv:=⟨none⟩
class Fr where
 b:Bool
instance fr0:Fr:=⟨false⟩
structure Hp where
 bx:List (Nat×List X):=[]
 ls:List (Nat×AV):=[]
class Bl where
 pre:Hp
 post:Hp
instance bl0:Bl:=⟨{},{}⟩
structure Sp where
 f:FuncId
 args:List A1
 res:AV
 [mv:Mv]
 [fr:Fr]
 [bl:Bl]
def Sp.need (s:Sp):List A1×List (Option (List X))×List (Option AV):=(s.args,s.bl.pre.bx.map λe=>some e.2,s.bl.pre.ls.map λe=>some e.2)
def Aj (i:Nat):AV:=.of (.one (.d (.v (.i i))))
def verN:Option AV->Option Nat
 | some (.of (.one (.d (.v (.int .i64 n)))))=>some n.toNat
 | _=>none
abbrev Obl:=List (Bool×Prop)
abbrev Hints:=List (Nat×A1)
structure Out where
 res:Option AV
 mem:List (Loc×AV)
 rd:List Loc
def oC (k:Nat):Nat->List X->List (Loc×AV)
 | _,[]=>[]
 | q,x::xs=>((k+1,q),.of (.one x))::oC k (q+1) xs
def vB (σ:St) (k:Nat):Nat->Nat->Option (List X)
 | _,0=>some []
 | q,n+1 =>
  match get σ (k+1,q)with
  | some (.of (.one x))=>(vB σ k (q+1) n).map (x :: ·)
  | _=>none
def oJ (k:Nat):Nat->Nat->St->List AV
 | _,0,_=>[]
 | _,_+1,[]=>[]
 | q,n+1,e::r=>cond (Nat.beq e.1.1 (k+1)) (cond (Nat.beq e.1.2 q) (e.2::oJ k (q+1) n r) []) []
def kG (k q:Nat):Nat->St->List AV
 | _,[]=>[]
 | n,e::r=>cond (Nat.beq e.1.1 (k+1)) (cond (Nat.beq e.1.2 q) (oJ k q n (e::r)) (cond (Nat.ble (q+1) e.1.2&&Nat.ble (e.1.2+1) (q+n)) (kG k q (e.1.2 - q) r) (kG k q n r))) (kG k q n r)
def getRun (σ:St) (k:Nat):Nat->Nat->Nat->Option (List AV)
 | _,_,0=>some []
 | 0,_,_+1=>none
 | f+1,q,n+1 =>
  match kG k q (n+1) σ with
  | []=>none
  | x::xs=>(getRun σ k f (q+(xs.length+1)) (n - xs.length)).map ((x::xs) ++ ·)
def onesX:List AV->Option (List X)
 | []=>some []
 | .of (.one x)::r=>(onesX r).map (x :: ·)
 | _::_=>none
def mI (σ:St) (k q n:Nat):Option (List X) :=
 if n<=9 then vB σ k q n else
 match getRun σ k 64 q n with
 | some xs=>onesX xs
 | none=>vB σ k q n
def BD (k:Nat):Nat->Nat->List Loc
 | _,0=>[]
 | q,n+1=>(k+1,q)::BD k (q+1) n
def mX (σ:St):X->Option X
 | .d x=>some (.d x)
 | .g k n _ =>
  match get σ (k+1,0)with
  | some (.kv _ m es)=>if m=n/\2000000<=k then some (.d (.s n es))else none
  | _=>none
 | .e cs 0=>some (.d (.e cs))
 | _=>none
def D7 (σ:St):List X->Option (List X)
 | []=>some []
 | x::r =>
  match mX σ x,D7 σ r with
  | some y,some l=>some (y::l)
  | _,_=>none
def wC (σ:St):A1->Option A1
 | .one x=>(mX σ x).map .one
 | .agg xs=>(D7 σ xs).map .agg
def QS (σ:St):X->List (Bool×Prop)
 | .g k _ l =>
  match get σ (k+1,0)with
  | some (.kv _ _ es)=>[(true,l=es.length)]
  | _=>[]
 | _=>[]
def La (σ:St) (a:A1):List (Bool×Prop):=a.xs.flatMap (QS σ)
def dH (ks:List Nat):List (Loc×AV):=ks.map λk=>((k+1,0),.dead)
def sV (ks:List Nat):List Loc:=ks.map λk=>(k+1,0)
def lookT:Hints->Nat->Option A1
 | [],_=>none
 | (k,b)::r,d=>if k=d then some b else lookT r d
def mark (d:Nat):Option AV->List (Loc×AV)
 | some v=>[((1000001,d+1),v)]
 | none=>[]
def W9 (v u:Option AV):Bool :=
 match v with
 | none=>true
 | some _=>match verN v,verN u with
  | some i,some j=>i==j
  | _,_=>false
def M6 (σ:St) (o:Oper) (a:A1):Option Out :=
 match o.dst,a.xs with
 | some d,x::xs=>if (x::xs).all X.plain/\(get σ (d+1,0)).isNone/\d<800000 then some ⟨some (.of (.one (.p d 0))),oC d 0 (x::xs)++mark d (get σ (1000001,0)),[(1000001,0)]⟩else none
 | _,_=>none
def Hw (P:Program) (T:Hints) (C:List Sp) (σ:St) (o:Oper):Option (Out×List Sp×Obl) :=
 match o.dst.bind (lookT T)with
 | none=>(fV P σ o.op).map λv=>(⟨some v,[],[]⟩,C,[])
 | some l=>some (⟨some (.of l),[],[]⟩,C,[(true,fV P σ o.op=some (.of l))])
def dY (es:List bd) (q size:Nat):Option (List X):=if q+size<=es.flatten.length then some (((es.flatten.drop q).take size).map .d)else none
def fw (n:Nat) (es:List bd) (q:Nat) (ys:bd):List bd:=chunk n es.length (es.flatten.take q++(ys++es.flatten.drop (q+ys.length)))
def fC (d:Nat):Nat:=2000000+d
def jl (rows:List bd):Bool:=rows.all λrow=>row.all λx=>(X.d x).plain
def Zc (T:Hints) (o:Oper) (v:Option AV) (rd:List Loc) (C:List Sp):Option (Out×List Sp×Obl) :=
 match o.dst.bind (lookT T)with
 | none=>v.map λv=>(⟨some v,[],rd⟩,C,[])
 | some l=>some (⟨some (.of l),[],rd⟩,C,[(true,v=some (.of l))])
def L2 {α β:Type}(R:α->β->Prop):List α->List β->Prop
 | [],[]=>True
 | x::l,y::r=>R x y/\L2 R l r
 | _,_=>False
def Ja (x y:D):Prop:=x=y\/x =.s 0 []/\∃n,n≠0/\y =.s n []
def rowsLe:List bd->List bd->Prop:=L2 (L2 Ja)
def Zb (T:Hints) (k:Nat) (es:List bd):List bd :=
 match lookT T k with
 | some (.one (.d (.s _ es')))=>es'
 | _=>es
def Qu (P:Program) (T:Hints) (σ:St) (o:Oper) (C:List Sp) (e:TypeId) (old:List Nat) (n l:Nat) (es:List bd) (n':Nat) (rows:List bd):Option (Out×List Sp×Obl) :=
 match o.dst,P.info? e,(P.info? e).bind (·.zero)with
 | some d,some inf,some z =>
  if inf.size=n/\n'=n/\z.cells.size=n/\0<n/\d<1000000/\(get σ (fC d+1,0)).isNone/\(get σ (1000001,0)).isNone then
   some (⟨some (.of (.one (.g (fC d) n (l+rows.length)))),dH old++[((fC d+1,0),.kv e n (Zb T (fC d) (es.take l++rows)))],(1000001,0)::sV old⟩,C,
    [(true,rowsLe (es.take l++rows) (Zb T (fC d) (es.take l++rows))),(true,(l<=es.length/\rows≠[])/\jl rows/\l+rows.length<=maxLen/\(l+rows.length)*inf.bytes<=140737488355328)])
  else none
 | _,_,_=>none
def K9 (P:Program) (T:Hints) (C:List Sp) (σ:St) (o:Oper) (x:Operand):Option (Out×List Sp×Obl) :=
 match o.dst.bind (lookT T)with
 | none=>Hw P T C σ o
 | some _ =>
  match tC σ x with
  | some (.of (.one (.g k n l))) =>
   match get σ (k+1,0)with
   | some (.kv _ m es)=>if m=n/\2000000<=k then some (⟨some (.of (.one (.d (.s n es)))),[]++dH [k],sV [k]⟩,C,[(true,l=es.length)])else none
   | _=>none
  | _=>Hw P T C σ o
def A1.isS:A1->Bool
 | .one (.g _ _ _)=>true
 | .one (.d (.s _ _))=>true
 | _=>false
def nOf (k:Nat):Nat:=(k - 800000) / 100
def Hp.bk (H:Hp) (k:Nat):Bool:=H.bx.any λe=>e.1==k
def Hp.lk (H:Hp) (k:Nat):Bool:=H.ls.any λe=>e.1==k
def Hp.holds (H:Hp):X->Bool
 | .d _=>true
 | .p k _=>H.bk k
 | .c _ ks=>ks.all H.bk
 | .g k _ _=>H.lk k
 | .q k _=>H.lk k
 | _=>false
def Hp.CZ (H:Hp) (a:A1):Bool:=a.xs.all H.holds
def AV.isL:AV->Bool
 | .kv _ _ _=>true
 | _=>false
def Sp.no (s:Sp):Bool:=s.bl.pre.bx.isEmpty&&s.bl.pre.ls.isEmpty&&s.bl.post.bx.isEmpty&&s.bl.post.ls.isEmpty
def Hp.fine (H:Hp):Bool:=H.bx.all (λe=>e.2.all H.holds&&e.2.all X.plain&&decide (e.1<1000000)&&decide (0<e.2.length))&&H.ls.all (λe=>e.2.isL&&decide (2000000<=e.1))
def vW (H:Hp) (σ:St):List Operand->Option (List A1×List Nat×List (Bool×Prop))
 | []=>some ([],[],[])
 | x::r =>
  match tC σ x with
  | some (.of a) =>
   if H.CZ a then (vW H σ r).map λq=>(a::q.1,q.2)else
   match wC σ a,vW H σ r with
   | some b,some q=>some (b::q.1,a.keys++q.2.1,La σ a++q.2.2)
   | _,_=>none
  | _=>none
def Hp.st (H:Hp):St:=H.bx.flatMap (λe=>oC e.1 0 e.2)++H.ls.map λe=>((e.1+1,0),e.2)
def frO (s:Sp) (C:List Sp) (σ:St) (f:FuncId) (ks:List Nat) (xl:List Operand):Option (Out×List Sp×Obl) :=
 match vW s.bl.pre σ xl with
 | some (az,kz,ob) =>
  if ((s.f=f/\s.mv.p=none/\s.fr.b=false)/\(get σ (1000001,0)).isNone/\s.bl.pre.fine/\s.bl.post.fine/\ks.all s.bl.pre.bk) /\
   (s.bl.post.bx.map λe=>(e.1,e.2.length))=(s.bl.pre.bx.map λe=>(e.1,e.2.length))/\s.bl.pre.bx.all (λe=>decide (e.1<800000\/e.2.length<=nOf e.1))/\s.bl.post.ls.all (λe=>(get σ (e.1+1,0)).isNone)/\kz.all (λk=>!s.bl.pre.lk k)
  then some (⟨some s.res,(s.bl.post.st++dH (s.bl.pre.ls.map (·.1)))++dH kz,(1000001,0)::(s.bl.pre.bx.flatMap (λe=>BD e.1 0 e.2.length)++(sV (s.bl.pre.ls.map (·.1))++sV kz))⟩,C,
   (false,(az++ks.map (λk=>.one (.p k 0)),s.bl.pre.bx.map (λe=>mI σ e.1 0 e.2.length),s.bl.pre.ls.map (λe=>get σ (e.1+1,0)))=s.need)::ob)else none
 | none=>none
def Dk (P:Program) (T:Hints) (C:List Sp) (σ:St) (o:Oper):Option (Out×List Sp×Obl) :=
 match o.op with
 | .box _ x =>
  match tC σ x with
  | some (.of a)=>(M6 σ o a).map λu=>(u,C,[])
  | _=>none
 | .alloc t =>
  match (P.info? t).bind (·.zero)with
  | some z=>(M6 σ o (ofV z)).map λu=>(u,C,[])
  | none=>none
 | .load t x =>
  match tC σ x,P.underlying t,P.info? t with
  | some (.of (.one (.p k q))),some d,some i =>
   if aggB d||i.size==1 then ((mI σ k q i.size).bind (mkA (aggB d))).map λv=>(⟨some v,[],BD k q i.size⟩,C,[])else none
  | some (.of (.one (.e cs q))),some d,some i =>
   if q+i.size<=cs.length/\(aggB d||i.size==1)then (mkA (aggB d) (((cs.drop q).take i.size).map .d)).map λv=>(⟨some v,[],[]⟩,C,[])else none
  | some (.of (.one (.q k q))),some d,some i =>
   match get σ (k+1,0)with
   | some (.kv _ _ es)=>if (aggB d||i.size==1)/\2000000<=k then Zc T o ((dY es q i.size).bind (mkA (aggB d))) [(k+1,0)] C else none
   | _=>none
  | _,_,_=>none
 | .store t x y =>
  match o.dst,tC σ x,tC σ y,P.info? t with
  | none,some (.of (.one (.p k q))),some (.of a),some i =>
   if a.xs.length=i.size/\a.xs.all X.plain/\(mI σ k q i.size).isSome/\W9 (get σ (1000001,0)) (get σ (1000001,k+1))/\(k<800000\/q+i.size<=nOf k)then some (⟨none,oC k q a.xs,(1000001,0)::(1000001,k+1)::BD k q i.size⟩,C,[])else none
  | none,some (.of (.one (.q k q))),some (.of a),some i =>
   match get σ (k+1,0)with
   | some (.kv el n es)=>if a.xs.length=i.size/\a.xs.all X.clean/\a.xs.all X.plain/\(get σ (1000001,0)).isNone/\2000000<=k then
    some (⟨none,[((k+1,0),.kv el n (fw n es q (a.xs.map X.toD)))],[(1000001,0),(k+1,0)]⟩,C,[(true,q+i.size<=es.length*n)])else none
   | _=>none
  | _,_,_,_=>none
 | .buildSlice t len parts =>
  match P.underlying t with
  | some (.slice el) =>
   match P.info? el,(P.info? el).bind (·.zero),tV σ parts.toList with
   | some inf,some z,some ps =>
    if len*inf.size<=4096/\0<len*inf.size/\(ofV z).xs.length=inf.size then
     match xB (λi=>some (i*inf.size,inf.size)) (List.replicate len (ofV z).xs).flatten ps with
     | some xs =>
      if xs.all X.clean then
       match o.dst.bind (lookT T),o.dst with
       | some _,some d=>if d<1000000/\(get σ (fC d+1,0)).isNone/\(get σ (1000001,0)).isNone then some (⟨some (.of (.one (.g (fC d) inf.size (chunk inf.size len (xs.map X.toD)).length))),[((fC d+1,0),.kv el inf.size (chunk inf.size len (xs.map X.toD)))],[(1000001,0)]⟩,C,[])else none
       | _,_=>some (⟨some (.of (.one (.d (.s inf.size (chunk inf.size len (xs.map X.toD)))))),[],[]⟩,C,[])
      else none
     | none=>none
    else none
   | _,_,_=>none
  | _=>none
 | .call c =>
  match c.callee with
  | .value y =>
   match (tC σ y).bind fnO with
   | none=>Hw P T C σ o
   | some (f,cs) =>
   match C with
   | []=>none
   | s::C' =>
   match s.no with
   | false=>frO s C' σ f cs c.args.toList
   | true =>
   match vW {} σ c.args.toList with
   | some (az,ks,ob) =>
    if s.f=f/\cs.isEmpty then
     match s.mv.p with
     | none =>
      if s.fr.b then
       match s.res,o.dst with
       | .kv el n es,some d=>if d<1000000/\(get σ (fC d+1,0)).isNone/\(get σ (1000001,0)).isNone then some (⟨some (.of (.one (.g (fC d) n es.length))),[((fC d+1,0),.kv el n es)]++dH ks,(1000001,0)::sV ks⟩,C',(false,(az,[],[])=s.need)::ob)else none
       | _,_=>none
      else some (⟨some s.res,[]++dH ks,sV ks⟩,C',(false,(az,[],[])=s.need)::ob)
     | some (i,j)=>if verN (get σ (1000001,0))=some i/\i<j then some (⟨some s.res,[((1000001,0),Aj j)]++dH ks,(1000001,0)::sV ks⟩,C',(false,(az,[],[])=s.need)::ob)else none
    else none
   | none=>none
  | .builtin .append =>
   match c.args.toList,c.argTypes.toList with
   | [s,x],[t,t'] =>
    match o.dst.bind (lookT T)with
    | some A =>
     match P.underlying t,tC σ x with
     | some (.slice e),some (.of (.one (.d (.s _ rows))))=>if t=t'/\(P.info? e).isSome then some (⟨some (.of A),[],[]⟩,C,[(true,tC σ s=some (.of A)/\rows=[]/\A.isS)])else none
     | _,_=>none
    | none =>
    match P.underlying t,tC σ s,tC σ x with
    | some (.slice e),some (.of (.one (.f n es))),some (.of (.one (.d (.s n' (r::rs))))) =>
     match P.info? e,(P.info? e).bind (·.zero)with
     | some inf,some z=>if t=t'/\inf.size=n/\n'=n/\z.cells.size=n/\0<n/\((r::rs).all λrow=>row.all λx=>(X.d x).plain)then
      some (⟨some (.of (.one (.d (.s n (es++(r::rs)))))),[],[]⟩,C,[(true,es.length+(rs.length+1)<=maxLen/\(es.length+(rs.length+1))*inf.bytes<=140737488355328)])else none
     | _,_=>none
    | some (.slice e),some (.of (.one (.g k n l))),some (.of (.one (.d (.s n' rows)))) =>
     match get σ (k+1,0)with
     | some (.kv e' m es)=>if t=t'/\e'=e/\m=n/\2000000<=k then Qu P T σ o C e [k] n l es n' rows else none
     | _=>none
    | some (.slice e),some (.of (.one (.d (.s 0 [])))),some (.of (.one (.d (.s n' rows))))=>if t=t' then Qu P T σ o C e [] n' 0 [] n' rows else none
    | _,_,_=>none
   | _,_=>none
  | _=>Hw P T C σ o
 | .move x=>K9 P T C σ o x
 | .assign x=>K9 P T C σ o x
 | _=>Hw P T C σ o
structure Rec where
 rd:List Loc
 wr:List (Loc×AV)
def Fb (o:Oper):List Loc:=o.op.operands.toList.filterMap λ| .tmp t=>some (0,t)|_=>none
def zW (P:Program) (T:Hints) (nt:Nat) (C:List Sp) (σ:St) (o:Oper) (g:List Loc):Option (Rec×List Sp×Obl) :=
 match Dk P T C σ o with
 | some (u,C',ob) =>
  match o.dst with
  | some d=>if d<nt then some (⟨g++(Fb o++u.rd),((0,d),u.res.getD undefA)::u.mem⟩,C',ob)else none
  | none=>some (⟨g++(Fb o++u.rd),u.mem⟩,C',ob)
 | none=>none
def zX (nt:Nat) (C:List Sp) (o:Oper) (g:List Loc):Option (Rec×List Sp×Obl) :=
 match o.dst with
 | some d=>if d<nt then some (⟨g,[((0,d),undefA)]⟩,C,[])else none
 | none=>some (⟨g,[]⟩,C,[])
def El (P:Program) (T:Hints) (nt:Nat) (ops:Array Oper) (C:List Sp) (σ:St) (o:Oper):Option (Rec×List Sp×Obl) :=
 match o.guard with
 | none=>zW P T nt C σ o []
 | some (j,want) =>
  match (ops[j]?).bind (·.dst)with
  | some d =>
   match get σ (0,d)with
   | some (.of (.one (.d (.v (.bool b)))))=>if b=want then zW P T nt C σ o [(0,d)]else zX nt C o [(0,d)]
   | some (.of (.one (.d (.v (.tuple cs)))))=>zX nt C o [(0,d)]
   | _=>none
  | none=>none
def Xg (P:Program) (T:Hints) (nt:Nat) (ops:Array Oper):List Oper->List Sp->St->Option (St×List Sp×Obl×List Rec)
 | [],C,σ=>some (σ,C,[],[])
 | o::r,C,σ =>
  match El P T nt ops C σ o with
  | some (rc,C',ob) =>
   match Xg P T nt ops r C' (rc.wr++σ)with
   | some (σ',C'',ob',rs)=>some (σ',C'',ob++ob',rc::rs)
   | none=>none
  | none=>none
def blks:List Loc->List Nat
 | []=>[]
 | x::r=>match blks r with
  | []=>[x.1]
  | k::l=>cond (Nat.beq x.1 k) (k::l) (x.1::k::l)
def meets (a b:List Loc):Bool:=a.any λx=>(blks b).any (Nat.beq x.1)&&b.any λy=>decide (x=y)
def Rec.ws (r:Rec):List Loc:=r.wr.map (·.1)
def clash (a b:Rec):Bool:=meets a.ws b.rd||meets a.ws b.ws||meets a.rd b.ws
def edge (o:Oper) (i:Nat):Bool:=o.after.toList.any λe=>Region.binds .any e&&e.on==i
def waits (A:List Oper):Nat->Oper->Nat->Bool
 | 0,_,_=>false
 | n+1,o,i=>edge o i||o.after.toList.any λe=>Region.binds .any e&&(match A[e.on]? with|some o'=>waits A n o' i|none=>false)
def AZ (A:List Oper) (o:Oper) (r:Rec):Nat->List Rec->Bool
 | _,[]=>true
 | i,q::l=>(!clash q r||waits A 9 o i)&&AZ A o r (i+1) l
def calm (A:List Oper):List Oper->List Rec->List Rec->Nat->Bool
 | [],[],_,_=>true
 | o::os,r::rs,done,i=>AZ A o r 0 done&&o.after.toList.all (λe=>!Region.binds .any e||decide (e.on<i))&&calm A os rs (done++[r]) (i+1)
 | _,_,_,_=>false
structure Lp where
 body:Code
 pre:St
 ex:Nat
 post:St
def kept (S:St) (x:X):Bool :=
 match x with
 | .p k _=>(get S (k+1,0)).isSome
 | .g k _ _=>(get S (k+1,0)).isSome
 | .q k _=>(get S (k+1,0)).isSome
 | .c _ ks=>ks.all λk=>(get S (k+1,0)).isSome
 | _=>true
def LB (S:St):AV->Bool
 | .of a=>a.xs.all (kept S)
 | .rz az=>az.all λa=>a.xs.all (kept S)
 | _=>true
def NS (σ:St) (k:Nat):Option Nat :=
 if k<2000000 then some k else if k<3000000 then some (k+1000000)else if (get σ (k - 1000000+1,0)).isNone then some k else none
def YX (σ:St):X->X
 | .g k n l=>match NS σ k with|some k'=>.g k' n l|none=>.d .t
 | .q k o=>match NS σ k with|some k'=>.q k' o|none=>.d .t
 | x=>x
def YR (σ:St):A1->A1
 | .one x=>.one (YX σ x)
 | .agg xs=>.agg (xs.map (YX σ))
def acG (σ:St):AV->AV
 | .of a=>.of (YR σ a)
 | .rz az=>.rz (az.map (YR σ))
 | v=>v
def Tz (σ:St):Bool:=σ.all λe=>decide (e.1.1<2000000)
def EI (σ:St) (x:Loc):Option AV :=
 if Tz σ then get σ x
 else if x.1<2000000 then (get σ x).map (acG σ)
 else if 3000001<=x.1/\x.1<=4000000 then
  match get σ (x.1 - 1000000,x.2)with
  | some v=>some v
  | none=>get σ x
 else none
def known (σ S:St):Obl:=S.map λe=>(true,EI σ e.1=some e.2)
def firstSlot:Code->Nat
 | .region _ ops _=>(ops.toList.findSome? (·.dst)).getD 0
 | .seq a _=>firstSlot a
 | .cond _ a _=>firstSlot a
 | .block _ c=>firstSlot c
 | .loop c=>firstSlot c
 | _=>0
def Dt (P:Program) (T:Hints) (L:List Lp) (nt:Nat):Code->List Sp->St->Option (Nat×St×List Sp×Obl)
 | .skip,C,σ=>some (0,σ,C,[])
 | .region _ ops draw,C,σ =>
  match Xg P T nt ops ops.toList C σ with
  | some (σ',C',ob,rs)=>if draw && !calm ops.toList ops.toList rs [] 0 then none else some (0,σ',C',ob)
  | none=>none
 | .seq a b,C,σ =>
  match Dt P T L nt a C σ with
  | some (0,σ',C',ob) =>
   match Dt P T L nt b C' σ' with
   | some (e,σ'',C'',ob')=>some (e,σ'',C'',ob++ob')
   | none=>none
  | r=>r
 | .cond c x y,C,σ =>
  match tC σ c with
  | some (.of (.one (.d (.v (.bool true)))))=>Dt P T L nt x C σ
  | some (.of (.one (.d (.v (.bool false)))))=>Dt P T L nt y C σ
  | _=>none
 | .block id c,C,σ =>
  match Dt P T L nt c C σ with
  | some (e,σ',C',ob)=>some (if e=id+2 then 0 else e,σ',C',ob)
  | none=>none
 | .exit id,C,σ=>some (id+2,σ,C,[])
 | .ret,C,σ=>some (1,σ,C,[])
 | .loop c,C,σ =>
  match L.find? λl=>firstSlot l.body==firstSlot c with
  | some l=>if l.pre.all (λe=>LB l.pre e.2&&(e.1.1==0||(get l.pre (e.1.1,0)).isSome))/\(get σ (1000001,0)).isNone then some (l.ex,l.post,C,(true,l.body=c)::known σ l.pre)else none
  | _=>none
 | _,_,_=>none
def Ie (P:Program) (σ:St):ResultVar->Option A1
 | .tmp t=>match get σ (0,t)with|some (.of a)=>some a|_=>none
 | .cell a t =>
  match get σ (0,a),P.underlying t,P.info? t with
  | some (.of (.one (.p k q))),some d,some i =>
   if aggB d||i.size==1 then
    match (mI σ k q i.size).bind (mkA (aggB d))with
    | some (.of v)=>some v
    | _=>none
   else none
  | _,_,_=>none
def E5 (H:Hp) (P:Program) (σ:St) (r:ResultVar):Option (A1×Obl) :=
 match Ie P σ r with
 | some a=>if H.CZ a then some (a,[])else if a.keys.all (λk=>!H.lk k)then (wC σ a).map λb=>(b,La σ a)else none
 | none=>none
def KD (H:Hp) (P:Program) (σ:St):List ResultVar->Option (AV×Obl)
 | []=>some (.rz [],[])
 | [r]=>(E5 H P σ r).map λa=>(.of a.1,a.2)
 | [r,s]=>match E5 H P σ r,E5 H P σ s with|some a,some b=>some (.rz [a.1,b.1],a.2++b.2)|_,_=>none
 | [r,s,t]=>match E5 H P σ r,E5 H P σ s,E5 H P σ t with|some a,some b,some c=>some (.rz [a.1,b.1,c.1],a.2++(b.2++c.2))|_,_,_=>none
 | _=>none
def NT (P:Program) (σ:St):List ResultVar->Option (AV×Obl)
 | [r] =>
  match Ie P σ r with
  | some (.one (.g k n l)) =>
   match get σ (k+1,0)with
   | some (.kv e m es)=>if m=n/\2000000<=k then some (.kv e n es,[(true,l=es.length)])else none
   | _=>none
  | _=>none
 | _=>none
def argsS:Nat->List A1->St
 | _,[]=>[]
 | i,a::r=>((0,i),.of a)::argsS (i+1) r
def verS:Option (Nat×Nat)->St
 | some (i,_)=>[((1000001,0),Aj i)]
 | none=>[]
def verE:Option (Nat×Nat)->Option AV->Bool
 | some (_,j),v=>verN v==some j
 | none,v=>v.isNone
def evX (P:Program) (fn:Func) (body:Code) (T:Hints) (L:List Lp) (C:List Sp) (args:List A1) (pre post:Hp):Option (AV×(List (Option (List X))×List (Option AV))×List Sp×Obl) :=
 if (args.all pre.CZ/\(pre.fine/\post.fine)/\C.all (λs=>s.mv.p.isNone))/\args.length<=fn.ntmps/\(post.bx.map λe=>(e.1,e.2.length))=(pre.bx.map λe=>(e.1,e.2.length))/\pre.bx.all (λe=>decide (800000<=e.1/\e.2.length=nOf e.1))then
  match Dt P T L fn.ntmps body C (argsS 0 args++pre.st)with
  | some (e,σ,C',ob) =>
   if e<=1/\(get σ (1000001,0)).isNone then
    match KD post P σ fn.results.toList with
    | some v=>some (v.1,(post.bx.map (λe=>mI σ e.1 0 e.2.length),post.ls.map (λe=>get σ (e.1+1,0))),C',ob++v.2)
    | none=>none
   else none
  | none=>none
 else none
def Wd (m:Option (Nat×Nat)) (fr:Bool) (P:Program) (fn:Func) (body:Code) (T:Hints) (L:List Lp) (C:List Sp) (args:List A1):Option (AV×List Sp×Obl) :=
 if args.all A1.clean/\args.length<=fn.ntmps then
  match Dt P T L fn.ntmps body C (verS m++argsS 0 args)with
  | some (e,σ,C',ob)=>if e<=1/\verE m (get σ (1000001,0))then match (if fr then NT P σ fn.results.toList else KD {} P σ fn.results.toList)with|some v=>some (v.1,C',ob++v.2)|none=>none else none
  | none=>none
 else none
abbrev evF:=Wd none false
end
noncomputable section
def nA (β:Nat->Option Nat) (ok:br) (w:cg) (k:Nat) (e:TypeId) (n:Nat) (es:List bd):Prop :=
 ∃b cs c,(β k=some b/\2000000<=k)/\w.heap[b]?=some (.cells cs e (0,0))/\cs.size=c*n/\es.length<=c/\c<=maxLen/\0<n/\(∀r∈es,r.length=n) /\
  ∀(i:Nat) (r:bd) (j:Nat) (x:D),es[i]?=some r->r[j]?=some x->∃u,cs[i*n+j]?=some u/\fI ok w x u
def EH (β:Nat->Option Nat) (ok:br) (a:Act) (w:cg):Loc->AV->Prop
 | (0,d),v=>∃u,a.tmps[d]?=some u/\iZ β ok w v u
 | (k+1,q),.kv e n es=>q=0/\nA β ok w k e n es
 | (_+1,_),.dead=>True
 | (k+1,q),v=>∃b u y,(β k=some b/\k<1000000)/\v =.of (.one y)/\w.cell? ⟨b,q,none⟩=some u/\w.frozen? ⟨b,q,none⟩=false/\jm β ok w y u
class pq where
 G:Nat->cg->(br)->Prop
 grow:∀i W ok w,G i W ok->cq W w none->G i w (λb=>(b<W.heap.size/\ok b)\/W.heap.size<=b)
 /-- blocks that were handed,by key;then nothing is held -/
 h0:Nat->Option Nat:=λ_=>none
 no:(∃k b,h0 k=some b)->∀i W ok,¬G i W ok:=by exact λh=>absurd h (λ⟨_,_,e⟩=>by cases e)
def bs [pq] (b:Nat):Prop:=∃k,pq.h0 k=some b
def okB [pq] (n0:Nat) (ok0:br) (β:Nat->Option Nat) (b:Nat):Prop:=(b<n0/\ok0 b)\/((n0<=b\/bs b)/\∀k,β k≠some b)
def ownB [pq] (n k b:Nat):Prop:=(n<=b/\(k<800000\/1000000<=k))\/∃k0,pq.h0 k0=some b/\(k<1000000->800000<=k/\k0=k)/\(1000000<=k->2000000<=k0)
def nT[pq]{n k b:Nat}(h:ownB n k b):n<=b\/bs b:=h.imp (·.1) (λ⟨a,h,_⟩=>⟨a,h⟩)
def abB[pq]{n k a b:Nat}(h:ownB n k b)(hk:2000000<=k)(f:2000000<=a):ownB n a b :=
 h.imp (λh=>⟨h.1,.inr od⟩) (λ⟨g,c,_,d⟩=>⟨g,c,λe=>od,λ_=>d od⟩)
structure Gw (w w':cg) (S:br):Prop where
 os:w'.os=w.os
 tape:w'.tape=w.tape
 output:w'.output=w.output
 size:w.heap.size<=w'.heap.size
 block:∀b,b<w.heap.size->¬S b->w'.heap[b]?=w.heap[b]?
def Gw.grown{w w':cg}{S:br}(h:Gw w w' S)(c:∀b,¬S b):cq w w' none:=⟨h.os,h.tape,h.output,h.size,λb a _=>h.block b a (c b)⟩
def Gw.of{w w':cg}{S:br}(h:cq w w' none):Gw w w' S:=⟨h.os,h.tape,h.output,h.size,λb a _=>h.block b a oe⟩
def Gw.refl(w:cg)(S:br):Gw w w S:=⟨rfl,rfl,rfl,jj _,λ_ _ _=>rfl⟩
def Hnd [pq] (W0:cg) (ok0:br) (w:cg):Prop:=(∀b,bs b->¬ok0 b/\b<W0.heap.size) /\
 (∀k b,k<1000000->pq.h0 k=some b->Zp w b=Zp W0 b/\∀q,nOf k<=q->w.cell? ⟨b,q,none⟩=W0.cell? ⟨b,q,none⟩/\w.frozen? ⟨b,q,none⟩=W0.frozen? ⟨b,q,none⟩) /\
 ∀k k' b,pq.h0 k=some b->pq.h0 k'=some b->k=k'
def Dr[pq]{c w:cg}{a:br}{k b:Nat}(h:Hnd c a w)(f:ownB c.heap.size k b):¬(b<c.heap.size/\a b):=λe=>by
 rcases nT f with d|d
 .omega
 .exact (h.1 b d).1 e.2
def lU [pq] (Wb:cg) (okb:br) (W0:cg) (ok0:br) (β:Nat->Option Nat) (σ:St):Prop :=
 (get σ (1000001,0)=none->(W0=Wb/\ok0=okb)/\∀k b,β k=some b->ownB W0.heap.size k b) /\
 ∀v,get σ (1000001,0)=some v->∃i,v=Aj i/\pq.G i W0 ok0/\(Wb.heap.size<=W0.heap.size/\∀b,b<Wb.heap.size->okb b->ok0 b/\W0.heap[b]?=Wb.heap[b]?)/\∀k v',get σ (1000001,k+1)=some v'->∃j,v'=Aj j/\j<=i/\(j=i->∀b,β k=some b->W0.heap.size<=b)
instance res0:pq where
 G _ _ _:=False
 grow _ _ _ _ h _:=h
structure Inv [pq] (Wb:cg) (okb:br) (W0:cg) (ok0:br) (ds:List Deferred) (nt:Nat) (β:Nat->Option Nat) (a:Act) (w:cg) (σ:St):Prop where
 gr:Gw W0 w bs
 new:∀k b,β k=some b->(ownB W0.heap.size k b\/ok0 b)/\b<w.heap.size
 inj:∀k k' b,β k=some b->β k'=some b->k=k'
 dom:∀k b,β k=some b->(get σ (k+1,0)).isSome
 rep:∀x v,x.1≠1000001->get σ x=some v->EH β (okB W0.heap.size ok0 β) a w x v
 XU:a.defers=ds
 sz:a.tmps.size=nt
 nk:β 1000000=none
 FK:lU Wb okb W0 ok0 β σ
 hk:∀x v,get σ x=some v->∀n∈v.keys,(get σ (n+1,0)).isSome
 qQ:Hnd W0 ok0 w
structure Dc [pq] (σ:St) (W0:cg) (ok0:br) (β:Nat->Option Nat) (w:cg) (W1:cg) (ok1:br) (β':Nat->Option Nat) (w':cg) (M:List Loc):Prop where
 gr:Gw W1 w' bs
 new:∀k b,β' k=some b->(ownB W1.heap.size k b\/ok1 b)/\b<w'.heap.size
 inj:∀k k' b,β' k=some b->β' k'=some b->k=k'
 sub:∀k b,k<1000000->β k=some b->β' k=some b
 fresh:∀k b,β' k=some b->β k=some b\/(k+1,0)∈M
 keep:zH (okB W0.heap.size ok0 β) w (okB W1.heap.size ok1 β') w'
 own:∀k b q,k<1000000->β k=some b->(get σ (k+1,q)).isSome->(k+1,q) ∉ M->w'.cell? ⟨b,q,none⟩=w.cell? ⟨b,q,none⟩/\w'.frozen? ⟨b,q,none⟩=w.frozen? ⟨b,q,none⟩
 nT:∀k b,2000000<=k->β k=some b->(k+1,0) ∉ M->β' k=some b/\w'.heap[b]?=w.heap[b]?
 alive:∀n,(get σ (n+1,0)).isSome->BP β w β' w' n
 nk:β' 1000000=none
 qQ:Hnd W1 ok1 w'
def gtr{a b c:cg}{r:br}(h:Gw a b r)(k:cq b c none):Gw a c r :=
 ⟨k.os.trans h.os,k.tape.trans h.tape,k.output.trans h.output,xo h.size k.size,λi d e=>(k.block i (kh d h.size) oe).trans (h.block i d e)⟩
section
variable {Wb W0 W1:cg}{okb ok0 ok1:br}{ds:List Deferred}{nt:Nat}{β β':Nat->Option Nat}{a a':Act}{w w':cg}{σ:St}
def ko{w w':cg}{b:Nat}(h:w'.heap[b]?=w.heap[b]?):Zp w' b=Zp w b:=by unfold Zp;rw[h]
def Inv.grow[pq](h:Inv Wb okb W0 ok0 ds nt β a w σ)(c:cq w w' none):Dc σ W0 ok0 β w W0 ok0 β w' [] where
 gr:=gtr h.gr c
 new k b e:=⟨(h.new k b e).1,kh (h.new k b e).2 c.size⟩
 inj:=h.inj
 sub _ _ _ e:=e
 fresh _ _ e:=.inl e
 keep:=⟨c.size,λb d j=>⟨j,λo=>ke (c.block b d oe)⟩⟩
 own k b q _ e _ _:=⟨ke (c.block b (h.new k b e).2 oe),qh4 (c.block b (h.new k b e).2 oe)⟩
 nT k b _ e _:=⟨e,c.block b (h.new k b e).2 oe⟩
 alive n _ b e:=⟨e,ko (c.block b (h.new n b e).2 oe)⟩
 nk:=h.nk
 qQ:=⟨h.qQ.1,λk b hk e=>by have d:=c.block b (kh (h.qQ.1 b ⟨k,e⟩).2 h.gr.size) oe;have⟨i,f⟩:=h.qQ.2.1 k b hk e;exact⟨(ko d).trans i,λq g=>⟨(ke d).trans (f q g).1,(qh4 d).trans (f q g).2⟩⟩,h.qQ.2.2⟩
def get_append:∀(l σ:St) (x:Loc) (v:AV),get (l++σ) x=some v->(x,v)∈l\/(get σ x=some v/\x ∉ l.map (·.1))
 | [],σ,x,v,h=>.inr ⟨h,oe⟩
 | (k,u)::l,σ,x,v,h=>by
  simp only[qd2,get_nil,ic]at h;split at h
  .rename_i e;simp at h;subst e;subst h;simp
  .rename_i e;rcases get_append l σ x v h with h|⟨h,b⟩
   .exact .inl (by simp[h])
   .exact .inr ⟨h,by simp only[qc0,kl,not_or];exact⟨λa=>e a.symm,b⟩⟩
def get_mono:∀(l σ:St) (x:Loc),((get σ x).isSome\/x∈l.map (·.1))->(get (l++σ) x).isSome
 | [],σ,x,h=>by simpa using h
 | (k,u)::l,σ,x,h=>by
  simp only[qd2,get_nil,ic];split
  .rfl
  .rename_i e;refine get_mono l σ x ?_;rcases h with h|h
   .exact .inl h
   .simp only[qc0,kl]at h;rcases h with h|h
    .exact absurd h.symm e
    .exact .inr h
def UL(a:Act)(d:Option Tmp)(u:cm)(x:Nat)(h:d≠some x):(a.put d u).tmps[x]?=a.tmps[x]?:=by
 cases d with
 | none=>rfl
 | some d=>simp[Act.put,Array.getElem?_setIfInBounds];intro e;exact absurd (by rw[e]) h
def Fg(a:Act)(d:Nat)(u:cm)(h:d<a.tmps.size):(a.put (some d) u).tmps[d]?=some u:=by simp[Act.put,h]
def UJ(a:Act)(d:Option Tmp)(u:cm):(a.put d u).defers=a.defers:=by cases d<;>rfl
def Xv(a:Act)(d:Option Tmp)(u:cm):(a.put d u).tmps.size=a.tmps.size:=by cases d<;>simp[Act.put]
def nA.keep{ok ok':br}{k n:Nat}{e:TypeId}{es:List bd}(h:nA β ok w k e n es)(kb:zH ok w ok' w')(t:∀b,2000000<=k->β k=some b->β' k=some b/\w'.heap[b]?=w.heap[b]?):nA β' ok' w' k e n es:=by have⟨b,cs,c,a,g,l,m,o,p,q,s⟩:=h;have⟨v,y⟩:=t b a.2 a.1;exact⟨b,cs,c,⟨v,a.2⟩,y.trans g,l,m,o,p,q,λi r j x d f=>by have⟨u,z,A⟩:=s i r j x d f;exact⟨u,z,A.keep kb⟩⟩
def Inv.next[pq](h:Inv Wb okb W0 ok0 ds nt β a w σ){M:List Loc}(m:Dc σ W0 ok0 β w W1 ok1 β' w' M){wr:List (Loc×AV)}{d:Option Tmp}{u:cm}
 (hM:∀x∈M,x∈wr.map (·.1)) (hd:∀x,d=some x->(0,x)∈wr.map (·.1))
 (hw:∀x v,(x,v)∈wr->x.1≠1000001->EH β' (okB W1.heap.size ok1 β') (a.put d u) w' x v) (hv:lU Wb okb W1 ok1 β' (wr++σ)) (hkw:∀x v,(x,v)∈wr->∀n∈v.keys,(get (wr++σ) (n+1,0)).isSome):Inv Wb okb W1 ok1 ds nt β' (a.put d u) w' (wr++σ) where
 gr:=m.gr
 new:=m.new
 inj:=m.inj
 dom k b e:=by
  refine get_mono _ _ _ ?_;rcases m.fresh k b e with e|e
  .exact .inl (h.dom k b e)
  .exact .inr (hM _ e)
 rep x v hne c:=by
  rcases get_append _ _ _ _ c with c|⟨c,g⟩
  .exact hw x v c hne
  .have j:=h.rep x v hne c;have l:∀n∈v.keys,BP β w β' w' n:=λn g=>m.alive n (h.hk x v c n g);have⟨k,q⟩:=x
   cases k with
   | zero =>
    have⟨u2,f,i⟩:=j;refine⟨u2,(UL a d u q ?_).trans f,iZ.kL m.keep m.sub _ _ l i⟩;intro e;exact g (hd q e)
   | succ k =>
    cases v with
    | kv e n z =>
     obtain⟨rfl,j⟩:=j;exact⟨rfl,j.keep m.keep (λb f i=>m.nT k b f i (λe=>g (hM _ e)))⟩
    | dead=>trivial
    | rz az=>have⟨b,u2,y,f,i,_⟩:=j;cases i
    | of A =>
     have⟨b,u2,y,f,i,r,s,t⟩:=j;have⟨o,p⟩:=m.own k b q f.2 f.1 (by rw[c];rfl) (λe=>g (hM _ e));refine⟨b,u2,y,⟨m.sub _ _ f.2 f.1,f.2⟩,i,o.trans r,p.trans s,jm.kL m.keep m.sub _ _ (λn g=>l n ?_) t⟩;simp only[AV.of.injEq]at i;subst i;exact g
 XU:=(UJ a d u).trans h.XU
 sz:=(Xv a d u).trans h.sz
 nk:=m.nk
 FK:=hv
 hk x v c n g:=by
  rcases get_append _ _ _ _ c with c|⟨c,_⟩
  .exact hkw x v c n g
  .exact get_mono _ _ _ (.inl (h.hk x v c n g))
 qQ:=m.qQ
def get_skip:∀(l σ:St) (x:Loc),x ∉ l.map (·.1)->get (l++σ) x=get σ x
 | [],σ,x,h=>rfl
 | (k,u)::l,σ,x,h=>by simp only[qc0,kl,not_or]at h;simp only[qd2,get_nil,ic];rw[if_neg (λe=>h.1 e.symm)];exact get_skip l σ x h.2
def lU.congr[pq]{σ':St}(h:lU Wb okb W0 ok0 β σ)(e:∀q,get σ' (1000001,q)=get σ (1000001,q)):lU Wb okb W0 ok0 β σ':=by unfold lU at *;simp only[e];exact h
def lU.skip[pq]{l:St}(h:lU Wb okb W0 ok0 β σ)(e:∀x∈l.map (·.1),x.1≠1000001):lU Wb okb W0 ok0 β (l++σ):=h.congr λq=>get_skip _ _ _ λa=>e _ a rfl
def PI(ok:br)(w:cg)(v:cm):fI ok w (dV v) v:=by
 unfold dV;split
 .exact fI.s (n:=0) (es:=[]) (λ_ _=>undef) (jj _) (yv _) oe oe oe (λ_=>⟨rfl,rfl⟩)
 .exact .v v
def F8(β:Nat->Option Nat)(ok:br)(w:cg)(v:cm):gm β ok w (ofV v) v:=by
 unfold ofV;split
 .rename_i cs;refine⟨cs.toList,oe,dU.of oe (λi x u a b=>?_)⟩;simp only[qb0,qS]at a;obtain⟨y,c,rfl⟩:=a;rw[c]at b;obtain rfl:y=u:=by simpa using b
  exact PI ok w y
 .exact PI ok w v
def abE{ok:br}{cs:bd}{v:cm}(h:fI ok w (.e cs) v):jm β ok w (.e cs 0) v:=by
 cases h with
 | e U b c d=>exact⟨_,_,rfl,b,λj x a=>⟨_,c j x a,d j x a⟩⟩
def XR{ok:br}{v:AV}{u:cm}(h:iZ β ok w v u):iZ β ok w (normA v) u:=by
 unfold normA;split
 .exact abE (β:=β) h
 .exact h
def ET{ok:br}{x:Operand}{v:AV}(h:tC σ x=some v)(e:∀t,x =.tmp t->∀v,get σ (0,t)=some v->EH β ok a w (0,t) v):iZ β ok w v (a.eval x):=by
 cases x with
 | tmp t =>
  obtain⟨i,h0,rfl⟩:=qS.1 h;have⟨u,d,b⟩:=e t rfl i h0;replace b:=XR b;have : a.eval (.tmp t)=u:=by simp[Act.eval,ue,d]
  rw[this];exact b
 | const c =>
  simp only[tC,qq]at h;subst h;exact F8 β ok w c
 | global g=>cases h
 | func f =>
  simp only[tC,qq]at h;subst h;exact fI.v _
end
end
noncomputable section
section
variable {P:Program}{β:Nat->Option Nat}{ok:br}{a:Act}{w:cg}{σ:St}
def bW{x v:cm}(h:fI ok w (.v x) v):v=x:=by cases h;rfl
def Rv{n:Nat}{es:List bd}{a:bj}{l c:Nat}(h:fI ok w (.s n es) (.slice a l c))(hn:n=0):a=none/\c=0:=by
 cases h with
 | s U f g b e i d=>exact d hn
def fH{n:Nat}{es:List bd}{v:cm}(h:fI ok w (.s n es) v):∃(a:bj) (c:Nat) (U:Nat->bt),v =.slice a es.length c/\es.length<=c/\es.length<=maxLen/\(∀(i:Nat) (r:bd),es[i]?=some r->r.length=n) /\
 (∀(i:Nat) (r:bd) (j:Nat) (x:D),es[i]?=some r->r[j]?=some x->(∃b o,a=some ⟨b,o,none⟩/\ok b/\w.cell? ⟨b,o+(i*n+j),none⟩=some (U i j))/\fI ok w x (U i j)):=by
 cases h with
 | s U g k l f m p=>exact⟨_,_,U,rfl,g,k,l,λi r j x d e=>⟨f i r j x d e,m i r j x d e⟩⟩
def add_eq(b o j:Nat):(⟨b,o,none⟩:Addr).add j=⟨b,o+j,none⟩:=by
 unfold Addr.add
 by_cases h:j=0
 .subst h;rfl
 .rw[if_neg h]
def nV{x:Operand}{j:Nat}(h:CV σ x=some j)(b:∀v,tC σ x=some v->iZ β ok w v (a.eval x)):a.eval x =.i j:=by
 unfold CV at h;split at h
 .rename_i k e;simp only[qq]at h;subst h;exact bW (b _ e)
 .cases h
def Bb{α:Type} : ∀(n:Nat) (l r:List α),xw n l=some r->n<=l.length/\r=l.drop n
 | 0,l,r,h=>by simp only[xw,qq]at h;simp[h]
 | n+1,x::l,r,h=>by have⟨b,a⟩:=Bb n l r h;exact⟨ov,by simpa using a⟩
 | n+1,[],r,h=>by cases h
def Ct{α:Type} : ∀(n:Nat) (l r:List α),nH n l=some r->n<=l.length/\r=l.take n
 | 0,l,r,h=>by simp only[nH,qq]at h;simp[<-h]
 | n+1,x::l,r,h=>by simp only[nH,qS]at h;obtain⟨y,h,rfl⟩:=h;have⟨b,a⟩:=Ct n l y h;exact⟨ov,by simp[a]⟩
 | n+1,[],r,h=>by cases h
def vJ{α:Type}{l:List α}{n i:Nat}{x:α}(h:(l.take n)[i]?=some x):l[i]?=some x:=by
 rw[qe4]at h;split at h
 .exact h
 .cases h
def LY{n:Nat}{es:List bd}{m:bj}{q c:Nat}(h:fI ok w (.s n es) (.slice m q c))(l d:Nat)(H:l<=d)(F:d<=es.length) :
 fI ok w (.s n ((es.take d).drop l)) (.slice (if c=l then m else m.map (·.add (l*n))) (d - l) (c - l)):=by
 have⟨u,C,U,e,E,I,z,t⟩:=fH h;simp only[ye]at e;obtain⟨rfl,rfl,rfl⟩:=e;have g:((es.take d).drop l).length=d - l:=ov
 have a:∀(i:Nat) (r:bd),((es.take d).drop l)[i]?=some r->es[l+i]?=some r:=λi r e=>by
  rw[qh6,qe4]at e;split at e
  .exact e
  .cases e
 rw[<-g];refine .s (λi j=>U (l+i) j) od od (λi r e=>z _ r (a i r e)) (λi r j x k p=>?_) (λi r j x k p=>(t _ r j x (a i r k) p).2) (λv=>by have⟨A,B⟩:=Rv h v;subst A;subst B;exact⟨by split<;>rfl,od⟩);obtain⟨⟨b,o,rfl,y,f⟩,_⟩:=t _ r j x (a i r k) p;have G:l+i<es.length:=(qT.1 (a i r k)).1;refine⟨b,o+l*n,?_,y,?_⟩
 .rw[oa,qg6,add_eq]
 .rw[<-f];congr 2;rw[qg3];omega
def E9{g:Bool}{xs:List X}{v:AV}{vs:bo}(h:mkA g xs=some v)(a:dU (jm β ok w) xs vs):∃u,iZ β ok w v u/\(g->u =.agg vs.toArray)/\(g=false->vs=[u]):=by
 cases g with
 | true =>
  simp only[mkA,qq]at h;subst h;exact⟨.agg vs.toArray,⟨vs,rfl,a⟩,λ_=>rfl,oe⟩
 | false =>
  match xs,vs,h,a with
  | [x],[u],h,a =>
   simp only[mkA,qq]at h;subst h;exact⟨u,a.1,oe,λ_=>rfl⟩
def zu{t:TypeId}{d:TypeDesc}(h:P.underlying t=some d):(isAgg t).run P w =.ok (aggB d) w:=by unfold isAgg;rw[qc2,qa2 h];cases d<;>rfl
def run_sizeOf{t:TypeId}{i:TypeInfo}(h:P.info? t=some i):(sizeOf t).run P w =.ok i.size w:=by unfold sizeOf;rw[qc2,run_typeInfo _ h];rfl
def dU.cut{α:Type}{R:α->cm->Prop}{xs:List α}{vs:bo}(h:dU R xs vs)(o n:Nat):dU R ((xs.drop o).take n) ((vs.drop o).take n):=by
 refine dU.of (by simp[h.length]) (λi x v b a=>?_);simp only[qe4,qh6]at b a;split at b
 .rename_i c;rw[if_pos c]at a;have⟨u,e,d⟩:=h.get _ _ b;rw[e]at a;simp only[qq]at a;exact a ▸ d
 .cases b
def uJ{t:TypeId}{d:TypeDesc}{i:TypeInfo}{b q:Nat}{vs:bo}{u:cm}(c:P.underlying t=some d)(hi:P.info? t=some i)(hn:vs.length=i.size)
 (hc:∀(j:Nat) (v:cm),vs[j]?=some v->w.cell? ⟨b,q+j,none⟩=some v) (h1:aggB d->u =.agg vs.toArray) (h2:aggB d=false->vs=[u]):(loadVar t ⟨b,q,none⟩).run P w =.ok u w:=by
 unfold loadVar;rw[qc2,zu c]
 cases a:aggB d with
 | true =>
  simp only[Result.andThen,if_true];rw[qc2,run_sizeOf hi];simp only[Result.andThen];rw[qc2,<-hn,run_loadCells_list w ⟨b,q,none⟩ vs (λj v e=>by rw[add_eq];exact hc j v e)];simp[Result.andThen,h1 a]
 | false =>
  have:=h2 a;subst this;have h0:=hc 0 u rfl;rw[qf3]at h0;simp[Result.andThen,h0]
def splice_get:∀(vs:bo) (k a:Nat) (cs:Array cm),a+k+vs.length<=cs.size->((vs.zipIdx k).foldl (λcs (c,j)=>cs.setIfInBounds (a+j) c) cs).size=cs.size /\
 ∀i,((vs.zipIdx k).foldl (λcs (c,j)=>cs.setIfInBounds (a+j) c) cs)[i]?=if a+k<=i/\i<a+k+vs.length then vs[i - (a+k)]? else cs[i]?
 | [],k,a,cs,h=>⟨rfl,λi=>by simp[show ¬(a+k<=i/\i<a+k) by omega]⟩
 | v::vs,k,a,cs,h=>by
  simp only[js]at h;have⟨d,f⟩:=splice_get vs (k+1) a (cs.setIfInBounds (a+k) v) ov;rw[List.zipIdx_cons,List.foldl_cons];refine⟨by rw[d];simp,λi=>?_⟩;rw[f i];simp only[js,Array.getElem?_setIfInBounds]
  by_cases e:a+k=i
  .subst e;rw[oa,if_pos rfl,oc,oc];simp
  .rw[if_neg e]
   by_cases b:a+(k+1)<=i/\i<a+(k+1)+vs.length
   .rw[if_pos b,oc,show i - (a+k)=(i - (a+(k+1)))+1 by omega,ub]
   .rw[if_neg b,oa]
def jE{x:X}{v:cm}(h:jm β ok w x v)(j:x.plain):v.oneCell':=by
 cases x with
 | d y =>
  cases y with
  | v z=>have:=bW h;subst this;revert j;cases v<;>simp[X.plain,Value.oneCell']
  | s n i=>have⟨_,_,_,e,_⟩:=fH h;subst e;rfl
  | e cs=>have⟨_,_,e,_⟩:=abE (β:=β) h;subst e;rfl
  | t=>cases (h:fI ok w .t v)with|t _ h=>exact h
 | p k o=>have⟨b,_,e⟩:=h;subst e;rfl
 | e cs o=>have⟨b,q,e,_⟩:=h;subst e;rfl
 | f n i=>have⟨a,e,_⟩:=h;subst e;rfl
 | g k n l=>have⟨b,c,e,_⟩:=h;subst e;rfl
 | q k o=>have⟨b,e,_⟩:=h;subst e;rfl
 | c f m=>have⟨_,e⟩:=h;subst e;rfl
def jm.soft{x:X}{v:cm}(h:jm β ok w x v):jm β ok w x.soft v:=by
 cases x with
 | f n k=>exact h.choose_spec.2
 | e cs o =>
  cases o with
  | zero =>
   obtain⟨b,q,rfl,g,i⟩:=h;refine fI.e (λj=>(w.cell? ⟨b,q+j,none⟩).getD undef) g (λj x c=>?_) (λj x c=>?_)<;>have⟨u,a,d⟩:=i j x c
   .show w.cell? ⟨b,q+0+j,none⟩=_;rw[qf3,a];rfl
   .rw[a];exact d
  | succ n=>exact h
 | _=>exact h
def dU.soft:∀{xs:List X}{vs:bo},dU (jm β ok w) xs vs->dU (jm β ok w) (xs.map X.soft) vs
 | [],[],_=>trivial
 | x::xs,v::vs,⟨a,b⟩=>⟨jm.soft a,dU.soft b⟩
def gm.cells{x:A1}{v:cm}(h:gm β ok w x v)(b:x.xs.all X.plain):dU (jm β ok w) x.xs v.cells.toList:=by
 cases x with
 | one y =>
  have a:=jE h (by simpa[A1.xs]using b);have : v.cells=#[v]:=by cases v<;>first|rfl|cases a
  rw[this];exact⟨h,trivial⟩
 | agg e =>
  obtain⟨d,rfl,c⟩:=h;simpa[A1.xs,Value.cells]using c
def dU.splice{α:Type}{R:α->cm->Prop}{xs ys:List α}{vs us:bo}{res:Array cm}(h:dU R xs vs)(k:dU R ys us)(a:Nat)(hb:a+ys.length<=xs.length)(j:res.size=vs.length)
 (hr:∀i:Nat,res[i]?=if a<=i/\i<a+us.length then us[i - a]? else vs[i]?):dU R (xs.take a++(ys++xs.drop (a+ys.length))) res.toList:=by
 have m:=h.length;have l:=k.length;refine dU.of (by simp[j];omega) (λi x v c b=>?_);rw[ja1,hr i]at b;simp only[List.getElem?_append,qc1,qe4,qh6]at c;rw[jc6 od]at c
 by_cases f:i<a
 .rw[if_pos f,if_pos f]at c;rw[oa]at b;have⟨u,e,d⟩:=h.get _ _ c;rw[e]at b;simp only[qq]at b;exact b ▸ d
 .rw[if_neg f]at c
  by_cases g:i - a<ys.length
  .rw[if_pos g]at c;rw[oc]at b;have⟨u,e,d⟩:=k.get _ _ c;rw[e]at b;simp only[qq]at b;exact b ▸ d
  .rw[if_neg g,show a+ys.length+(i - a - ys.length)=i by omega]at c;rw[oa]at b;have⟨u,e,d⟩:=h.get _ _ c;rw[e]at b;simp only[qq]at b;exact b ▸ d
def WN (β:Nat->Option Nat) (ok:br) (w:cg):List (Nat×List X)->List (Nat×cm)->Prop
 | [],[]=>True
 | (i,ys)::r,(j,v)::s=>i=j/\dU (jm β ok w) ys v.cells.toList/\WN β ok w r s
 | _,_=>False
def Be(a:Nat->Option (Nat×Nat)):∀(ps:List (Nat×List X)) (vs:List (Nat×cm)) (xs b:List X) (cs:Array cm),WN β ok w ps vs->dU (jm β ok w) xs cs.toList->xB a xs ps=some b->∃c,Instr.fill a cs vs=some c/\dU (jm β ok w) b c.toList
 | [],[],xs,b,cs,_,f,h=>by simp only[xB,qq]at h;subst h;exact⟨cs,rfl,f⟩
 | (i,A)::r,(j,v)::s,xs,b,cs,⟨e,k,x⟩,f,h=>by
  subst e;simp only[xB]at h;split at h
  .cases h
  .rename_i d l e;split at h
   .rename_i q;have⟨z,p⟩:=q;have u:=f.length;have t:=k.length;simp only[ja0]at u t;have⟨y,m⟩:=splice_get v.cells.toList 0 d cs ov;simp only[qf3]at m;have g:=dU.splice f k d p (by rw[y];simp) (λi=>by rw[m i];simp);have⟨c,n,o⟩:=Be a r s _ b _ x g h;refine⟨c,?_,o⟩;unfold Instr.fill;rw[e];simp only;rw[if_neg ov,<-n]
    congr 1
    rw[<-Array.foldl_toList,Array.toList_zipIdx]
   .cases h
def partsO_rep:∀(b:List (Nat×Operand)) (ps:List (Nat×List X)),tV σ b=some ps->(∀x∈b.map (·.2),∀v,tC σ x=some v->iZ β ok w v (a.eval x))->WN β ok w ps (b.map λ(i,x)=>(i,a.eval x))
 | [],ps,h,_=>by simp only[tV,qq]at h;subst h;trivial
 | (i,x)::r,ps,h,H=>by
  simp only[tV]at h;split at h
  .rename_i y e;split at h
   .rename_i d;simp only[qS]at h;obtain⟨f,h,rfl⟩:=h;exact⟨rfl,dU.soft (gm.cells (H x oe _ e) d),partsO_rep r f h (λz c=>H z (by simp at c|-;exact .inr c))⟩
   .cases h
  .cases h
end
end
noncomputable section
section
variable {P:Program}{β:Nat->Option Nat}{ok:br}{a:Act}{w:cg}{σ:St}{o:Oper}{v:AV}
abbrev Does (P:Program) (β:Nat->Option Nat) (ok:br) (a:Act) (w:cg) (o:Oper) (v:AV):Prop:=∃u,(execOp a.eval o).run P w =.ok (.value u) w/\iZ β ok w v u
abbrev CK (β:Nat->Option Nat) (ok:br) (a:Act) (w:cg) (σ:St) (o:Oper):Prop:=∀x∈o.op.operands.toList,∀v,tC σ x=some v->iZ β ok w v (a.eval x)
def Re{x:Operand}(b:o.op =.move x\/o.op =.assign x)(h:tC σ x=some v)(H:CK β ok a w σ o):Does P β ok a w o v:=by
 rcases b with b|b
 .exact⟨a.eval x,by simp[execOp,b],H x (by simp[b,Op.operands]) _ h⟩
 .exact⟨a.eval x,by simp[execOp,b],H x (by simp[b,Op.operands]) _ h⟩
def Xu{c x y:Operand}(b:o.op =.pick c x y)(h:fV P σ o.op=some v)(H:CK β ok a w σ o):Does P β ok a w o v:=by
 simp only[b,fV]at h;split at h
 .rename_i e;have d:=bW (H c (by simp[b,Op.operands]) _ e);exact⟨a.eval x,by simp[execOp,b,d,asBool],H x (by simp[b,Op.operands]) _ h⟩
 .rename_i e;have d:=bW (H c (by simp[b,Op.operands]) _ e);exact⟨a.eval y,by simp[execOp,b,d,asBool],H y (by simp[b,Op.operands]) _ h⟩
 .cases h
def Ht{s:TypeId}{x:Operand}{f:Nat}(l:o.op =.fieldAddr s x f)(h:fV P σ o.op=some v)(H:CK β ok a w σ o):Does P β ok a w o v:=by
 simp only[l,fV]at h;split at h<;>try (cases h;done)
 rename_i z u;split at h<;>try (cases h;done)
 rename_i n r;split at h<;>try (cases h;done)
 rename_i i t;split at h
 .cases h
 rename_i y;have j:=H x (by simp[l,Op.operands]);have c:∀b q,a.eval x =.pointer (some ⟨b,q,none⟩)->(execOp a.eval o).run P w =.ok (.value (.pointer (some ⟨b,q+n.offset,none⟩))) w:=λb q e=>by simp[execOp,l,Instr.fieldAt,qa2 u,Result.andThen,r,e,Instr.sureAddr,fieldPlace,run_sizeOf t,y,add_eq]
 split at h<;>try (cases h;done)
 .rename_i k q e;have⟨b,g,d⟩:=j _ e;simp only[qq]at h;subst h;exact⟨_,c b q d,b,g,rfl⟩
 .rename_i cs q e;have⟨b,m,d,g,p⟩:=j _ e;simp only[qq]at h;subst h;exact⟨_,c b (m+q) d,b,m,by rw[qg2],g,p⟩
 .rename_i k q e;have⟨b,d,g⟩:=j _ e;simp only[qq]at h;subst h;exact⟨_,c b q d,b,rfl,g⟩
 .rename_i b q e;simp only[qq]at h;subst h;exact⟨_,c b q (bW (j _ e)),fI.v _⟩
def Hu{t:TypeId}{x y:Operand}(u:o.op =.indexAddr t x y)(h:fV P σ o.op=some v)(H:CK β ok a w σ o):Does P β ok a w o v:=by
 simp only[u,fV]at h;have D:=H x (by simp[u,Op.operands]);have J:=H y (by simp[u,Op.operands]);split at h<;>try (cases h;done)
 .rename_i N j C F;have A:=nV F J;split at h<;>try (cases h;done)
  rotate_left
  .rename_i g k n l s e;split at h<;>try (cases h;done)
   rename_i B;simp only[qq]at h;subst h;have⟨b,c,m,S,p⟩:=D _ e;refine⟨.pointer (some ⟨b,j*n,none⟩),?_,b,rfl,λG Q=>(p G Q).1⟩;simp[execOp,u,Instr.indexAt,A,asIntOf,qa2 C,Result.andThen,m,run_sizeOf s,add_eq,B.1,B.2]
  rename_i g n O s e;unfold Bp at h;split at h<;>try (cases h;done)
  rename_i c r E;split at h<;>try (cases h;done)
  rename_i T;simp only[qq]at h;subst h;have⟨Y,Z,U,m,B,hm,S,d⟩:=fH (D _ e);obtain⟨⟨b,q,rfl,p,L⟩,r0⟩:=d j _ 0 c E rfl;have f:j<O.length:=(qT.1 E).1;refine⟨.pointer (some ⟨b,q+j*n,none⟩),?_,b,q+j*n,rfl,⟨p,qb7 w _ L⟩,λi z V=>?_⟩
  .simp[execOp,u,Instr.indexAt,A,asIntOf,qa2 C,Result.andThen,m,run_sizeOf s,add_eq,T,f]
  .have⟨⟨G,q',I,R,M⟩,X⟩:=d j _ i z E V;simp only[qq,jb2,and_true]at I;obtain⟨rfl,rfl⟩:=I;exact⟨_,by rw[qg2];exact M,X⟩
 .rename_i W N j C F;have A:=nV F J;split at h<;>try (cases h;done)
  rotate_left
  .rename_i g cs q s e;split at h<;>try (cases h;done)
   rename_i f;simp only[qq]at h;subst h;have⟨b,K,m,p,B⟩:=D _ e;refine⟨.pointer (some ⟨b,K+(q+j*g.size),none⟩),?_,b,K,rfl,p,B⟩;simp[execOp,u,Instr.indexAt,A,asIntOf,qa2 C,Result.andThen,m,Instr.sureAddr,run_sizeOf s,add_eq,f,qg2]
  rename_i g k q s e;split at h<;>try (cases h;done)
  rename_i f;simp only[qq]at h;subst h;have⟨b,p,m⟩:=D _ e;refine⟨.pointer (some ⟨b,q+j*g.size,none⟩),?_,b,p,rfl⟩;simp[execOp,u,Instr.indexAt,A,asIntOf,qa2 C,Result.andThen,m,Instr.sureAddr,run_sizeOf s,add_eq,f]
def vH{y:Operand}{j c:Nat}{code:BoundsCode}(h:a.eval y =.i j)(hc:j<=c):(Instr.sliceBound (a.eval y) c code).run P w =.ok j w:=by simp[Instr.sliceBound,h,asIntOf,hc]
def UG{t:TypeId}{x:Operand}{A hi:Option Operand}(f:o.op =.slice t x A hi none)(h:fV P σ o.op=some v)(H:CK β ok a w σ o):Does P β ok a w o v:=by
 simp only[f,fV]at h;have J:=H x (by simp[f,Op.operands]);split at h<;>try (cases h;done)
 rotate_left
 .rename_i Y k n l s e;split at h<;>try (cases h;done)
  rename_i T y q ;split at h<;>try (cases h;done)
  rename_i d B;split at h<;>try (cases h;done)
  rename_i I;simp only[qq]at h;subst h;have⟨b,c,p,Z,F⟩:=J _ e;have i:=vH (P:=P) (w:=w) (code:=.sliceAcap) (nV B (H y (by simp[f,Op.operands]))) (show d<=c by omega);refine⟨.o b d c,?_,b,c,rfl,od,λW X=>F W X⟩;simp only[execOp,f,qc2,Instr.sliceAt,qa2 s,Result.andThen,Instr.slice,p,Instr.sliceBounds,Option.map_none,qg6,je3,if_true,i];simp[run_sizeOf q,Result.andThen,Addr.add]
 .rename_i z s e;have p:=bW (J _ e);unfold Sn at h;split at h<;>try (cases h;done)
  rename_i l d g j;split at h<;>try (cases h;done)
  rename_i I;simp only[qq]at h;subst h;refine⟨.string (z.extract l d),?_,fI.v _⟩;have F:∀y,CV σ y=some d->y∈o.op.operands.toList->(Instr.sliceBound (a.eval y) z.size .sliceAlen).run P w =.ok d w:=λy B S=>vH (nV B (H y S)) I.2;have i:∀y,CV σ y=some l->y∈o.op.operands.toList->(Instr.sliceBound (a.eval y) d .sliceB).run P w =.ok l w:=λy B S=>vH (nV B (H y S)) I.1
  cases A with
  | none =>
   simp only[qq]at g;subst g
   cases hi with
   | none=>simp only[qq]at j;subst j;simp[execOp,f,Instr.sliceAt,qa2 s,Result.andThen,Instr.slice,p,Instr.sliceBounds]
   | some y=>simp[execOp,f,Instr.sliceAt,qa2 s,Result.andThen,Instr.slice,p,Instr.sliceBounds,F y j (by simp[f,Op.operands])]
  | some u =>
   cases hi with
   | none=>simp only[qq]at j;subst j;simp[execOp,f,Instr.sliceAt,qa2 s,Result.andThen,Instr.slice,p,Instr.sliceBounds,i u g (by simp[f,Op.operands])]
   | some y=>simp[execOp,f,Instr.sliceAt,qa2 s,Result.andThen,Instr.slice,p,Instr.sliceBounds,F y j (by simp[f,Op.operands]),i u g (by simp[f,Op.operands])]
 rename_i Y n G s e;split at h<;>try (cases h;done)
 rename_i T q;split at h<;>try (cases h;done)
 rename_i hn;have⟨V,K,U,p,I,hm,Z,M⟩:=fH (J _ e);have m:=J _ e;rw[p]at m;have O:∀l,(match A with|none=>some 0|some y=>CV σ y)=some l->∀d ,l<=d->((match A.map a.eval with|some v=>Instr.sliceBound v d .sliceB|none=>pure 0:Sem Nat)).run P w =.ok l w:=λl g d D=>by
  cases A with
  | none=>simp only[qq]at g;subst g;rfl
  | some y=>exact vH (nV g (H y (by simp[f,Op.operands]))) D
 have run:∀l d,(match A with|none=>some 0|some y=>CV σ y)=some l->l<=d->d<=G.length->(hi=none/\d=G.length\/∃y,hi=some y/\CV σ y=some d) ->
  (execOp a.eval o).run P w =.ok (.value (.slice (if K=l then V else V.map (·.add (l*n))) (d - l) (K - l))) w:=λl d g D hh C=>by
  have F:=O l g d D;rcases C with⟨rfl,rfl⟩|⟨y,rfl,B⟩
  .simp only[execOp,f,qc2,Instr.sliceAt,qa2 s,Result.andThen,Instr.slice,p,Instr.sliceBounds,Option.map_none,je3];cases A<;>simp_all [run_sizeOf q,Result.andThen]
  .have i:=vH (P:=P) (w:=w) (code:=.sliceAcap) (nV B (H y (by simp[f,Op.operands]))) (show d<=K by omega);simp only[execOp,f,qc2,Instr.sliceAt,qa2 s,Result.andThen,Instr.slice,p,Instr.sliceBounds,Option.map_none,qg6,je3,if_true,i];cases A<;>simp_all [run_sizeOf q,Result.andThen]
 unfold qA at h;split at h<;>try (cases h;done)
 .rename_i l g j;simp only[qS]at h;obtain⟨r,Q,rfl⟩:=h;obtain⟨E,rfl⟩:=Bb _ _ _ Q;have N:hi=none:=by
   cases hi with
   | none=>rfl
   | some y=>simp[qS]at j
  refine⟨_,run l G.length g E (jj _) (.inl ⟨N,rfl⟩),?_⟩;have:=LY m l G.length E (jj _);rw[je6]at this;exact this
 .rename_i l d g j;simp only[qS,qf1]at h;obtain⟨r,⟨r2,Q,R⟩,rfl⟩:=h;obtain⟨E,rfl⟩:=Ct _ _ _ Q;obtain⟨L,rfl⟩:=Bb _ _ _ R;rw[qc1,jc6 E]at L
  cases hi with
  | none=>simp at j
  | some y =>
   simp only[qS,qq,exists_eq_right]at j;exact⟨_,run l d g L E (.inr ⟨y,rfl,j⟩),LY m l d L E⟩
def Rf{t:TypeId}{x y z:Operand}(l:o.op =.slice t x none (some y) (some z))(h:fV P σ o.op=some v)(H:CK β ok a w σ o):Does P β ok a w o v:=by
 simp only[l,fV]at h;have G:=H x (by simp[l,Op.operands]);split at h<;>try (cases h;done)
 rename_i O n A d m N e J K;split at h<;>try (cases h;done)
 rename_i p E;split at h<;>try (cases h;done)
 rename_i M;obtain⟨rfl,rfl⟩:=M;simp only[qS]at h;obtain⟨r,F,rfl⟩:=h;obtain⟨Q,rfl⟩:=Ct _ _ _ F;have⟨g,I,U,k,R,S,L,c⟩:=fH (G _ e);have f:=G _ e;rw[k]at f;have C:=vH (P:=P) (w:=w) (code:=.slice3Acap) (nV K (H z (by simp[l,Op.operands]))) (show d<=I by omega);have D:=vH (P:=P) (w:=w) (code:=.slice3B) (nV J (H y (by simp[l,Op.operands]))) (jj d);have b:(A.take d).length=d:=vc
 have B:(if d=0 then g else g.map (·.add (0*p.size)))=g:=by
  split
  .rfl
  .cases g with
   | none=>rfl
   | some q=>simp[Addr.add]
 refine⟨.slice g d d,?_,g,by rw[b],?_⟩
 .simp only[execOp,l,qc2,Instr.sliceAt,qa2 N,Result.andThen,Instr.slice,k,Instr.sliceBounds,Option.map_none,qg6,je3,if_true,C,D,run_sizeOf E,B,Nat.sub_zero]
 .have : fI ok w (.s p.size (A.take d)) (.slice g (A.take d).length d):=by
   refine .s U (by rw[b];exact jj _) (by rw[b];omega) (λi r F=>L i r (vJ F)) (λi r j x u k=>(c i r j x (vJ u) k).1) (λi r j x u k=>(c i r j x (vJ u) k).2) (λh0=>?_);have:=Rv f h0;exact⟨this.1,od⟩
  rw[b]at this;exact this
def UF{t:TypeId}{x:Operand}{f:Nat}(c:o.op =.field t x f)(h:fV P σ o.op=some v)(H:CK β ok a w σ o):Does P β ok a w o v:=by
 simp only[c,fV]at h;have A:=H x (by simp[c,Op.operands]);split at h<;>try (cases h;done)
 rename_i C F m e;split at h<;>try (cases h;done)
 rename_i j k;split at h<;>try (cases h;done)
 rename_i d i n z;split at h<;>try (cases h;done)
 rename_i D;have⟨B,g,l⟩:=A _ e;have⟨u,p,q,r⟩:=E9 h (l.cut j.offset i.size);refine⟨u,?_,p⟩;have E:=l.length
 cases b:aggB d with
 | true =>
  rw[q b];simp[execOp,c,Instr.field,qa2 m,Result.andThen,k,g,asAgg,part,zu n,b,run_sizeOf z]
 | false =>
  have s:=r b;have y:B[j.offset]?=some u:=by have:=congrArg (·[0]?) s;simp[qe4,qh6]at this;exact this.2
  simp[execOp,c,Instr.field,qa2 m,Result.andThen,k,g,asAgg,part,zu n,b,y]
def N7{x:Operand}{i:Nat}(b:o.op =.extract x i)(h:fV P σ o.op=some v)(H:CK β ok a w σ o):Does P β ok a w o v:=by
 simp only[b,fV]at h;have j:=H x (by simp[b,Op.operands]);split at h<;>try (cases h;done)
 rename_i l e;simp only[qS]at h;obtain⟨y,k,rfl⟩:=h;have⟨m,c,f⟩:=j _ e;have⟨u,d,g⟩:=f.get _ _ k;exact⟨u,by simp[execOp,b,Instr.extract,c,d],g⟩
def OB{op:BinOp}{k b:IntKind}{m n:Int}{t:TypeId}(h:bitO op k b m n=some v):∃u,(binOp op t (.int k m) (.int b n)).run P w =.ok u w/\v =.of (.one (.d (.v u)))/\∀x y,(eqGuard op t x y (.int k m) (.int b n)).run P w =.ok () w:=by
 unfold bitO at h;split at h<;>try (cases h;done)
 all_goals split at h<;>try (cases h;done)
 all_goals rename_i a;simp only[qq]at h;subst h;refine⟨_,?_,rfl,λx y=>rfl⟩
 .simp only[binOp,Op.shift];rw[oa];rfl
 .simp only[binOp,Op.shift];rw[oa];rfl
 .subst a;simp[binOp,Op.intBits]
 .subst a;simp[binOp,Op.intBits]
 .subst a;simp[binOp,Op.intCmp];rw[jd1];simp
def UD{op:BinOp}{t L:TypeId}{x y:Operand}(f:o.op =.binOp op t x y L)(h:fV P σ o.op=some v)(H:CK β ok a w σ o):Does P β ok a w o v:=by
 simp only[f,fV]at h;split at h<;>try (cases h;done)
 .rename_i m n g j;have r:=bW (H x (by simp[f,Op.operands]) _ g);have l:=bW (H y (by simp[f,Op.operands]) _ j);have C:(eqGuard op t x y (.i m) (.i n)).run P w =.ok () w:=by cases op<;>rfl
  have c:∀u,(binOp op t (.i m) (.i n)).run P w =.ok u w->(execOp a.eval o).run P w =.ok (.value u) w:=λu F=>by simp[execOp,f,r,l,C,F,Result.andThen]
  have A:bitO op .i64 .i64 m n=some v->Does P β ok a w o v:=λh=>by obtain⟨u,B,rfl,_⟩:=OB (P:=P) (w:=w) (t:=t) h;exact⟨u,c u B,fI.v _⟩
  by_cases I:op =.quo
  .subst I;simp only[cmpO]at h;split at h<;>try (cases h;done)
   rename_i J;simp only[qq]at h;subst h;refine⟨_,c _ ?_,fI.v _⟩;simp[binOp,Op.intDiv,J]
  cases op<;>try exact A h
  all_goals try exact absurd rfl I
  all_goals
   simp only[cmpO,qq]at h;subst h;refine⟨_,c _ ?_,fI.v _⟩;simp[binOp,Op.intCmp,Op.intArith]
  all_goals rfl
 .rename_i m n g j;have r:=bW (H x (by simp[f,Op.operands]) _ g);have l:=bW (H y (by simp[f,Op.operands]) _ j);have c:∀u,(eqGuard op t x y (.string m) (.string n)).run P w =.ok () w->(binOp op t (.string m) (.string n)).run P w =.ok u w->(execOp a.eval o).run P w =.ok (.value u) w:=λu C F=>by
   simp[execOp,f,r,l,C,F,Result.andThen]
  split at h<;>try (cases h;done)
  .split at h<;>try (cases h;done)
   rename_i N;simp only[qq]at h;subst h;have D:¬(((m.size+n.size:Nat):Int) > IntKind.i64.max):=by rw[show IntKind.i64.max=9223372036854775807 by rfl];omega
   refine⟨_,c _ rfl ?_,fI.v _⟩;show (Op.stringOp .add m n).run P w=_;simp only[Op.stringOp,if_neg D];rfl
  all_goals
   simp only[qq]at h;subst h;exact⟨_,c _ rfl rfl,fI.v _⟩
 .rename_i k m O n _ g j;have r:=bW (H x (by simp[f,Op.operands]) _ g);have l:=bW (H y (by simp[f,Op.operands]) _ j);obtain⟨u,B,rfl,K⟩:=OB (P:=P) (w:=w) (t:=t) h;exact⟨u,by simp[execOp,f,r,l,B,K,Result.andThen],fI.v _⟩
 .rename_i m n g j;have r:=bW (H x (by simp[f,Op.operands]) _ g);have l:=bW (H y (by simp[f,Op.operands]) _ j);split at h<;>try (cases h;done)
  rename_i E;have c:(Op.equal t (.bool m) (.bool n)).run P w =.ok (m==n) w:=by
   have q:∀d,(Op.equalIn (d+1) t (.bool m) (.bool n)).run P w =.ok (m==n) w:=λd=>by simp[Op.equalIn,qa2 E,Result.andThen]
   exact q 9999
  unfold boolO at h;split at h<;>try (cases h;done)
  all_goals
   simp only[qq]at h;subst h;exact⟨.bool _,by simp[execOp,f,r,l,eqGuard,binOp,c,Result.andThen],fI.v _⟩
 .rename_i u g j;have l:=bW (H y (by simp[f,Op.operands]) _ j);have z:=H x (by simp[f,Op.operands]) _ g;split at h<;>try (cases h;done)
  rename_i M E;have G:∀b,nilX u=some b->∃p,a.eval x =.pointer p/\p.isNone=b:=λb s=>by
   unfold nilX at s;split at s<;>try (cases s;done)
   all_goals simp only[qq]at s
   all_goals subst s
   .exact⟨none,bW z,rfl⟩
   .exact⟨some _,bW z,rfl⟩
   .have⟨b,_,e⟩:=z;exact⟨_,e,rfl⟩
   .have⟨b,q,e,_⟩:=z;exact⟨_,e,rfl⟩
   .have⟨b,e,_⟩:=z;exact⟨_,e,rfl⟩
  have c:∀p:bj,(Op.equal t (.pointer p) (.pointer none)).run P w =.ok p.isNone w:=λp=>by
   have q:∀d,(Op.equalIn (d+1) t (.pointer p) (.pointer none)).run P w =.ok p.isNone w:=λd=>by
    cases p<;>simp[Op.equalIn,qa2 E,Result.andThen]
   exact q 9999
  unfold nilO at h;split at h<;>try (cases h;done)
  all_goals
   simp only[qS]at h;obtain⟨b,s,rfl⟩:=h;obtain⟨p,e,rfl⟩:=G b s;exact⟨.bool _,by simp[execOp,f,e,l,eqGuard,binOp,c,Result.andThen],fI.v _⟩
def TT{s d:TypeId}{x:Operand}(b:o.op =.convert s d x)(h:fV P σ o.op=some v)(H:CK β ok a w σ o):Does P β ok a w o v:=by
 simp only[b,fV,oI]at h;split at h<;>try (cases h;done)
 rename_i k n j c e f g;have i:=bW (H x (by simp[b,Op.operands]) _ e);simp only[qq]at h;subst h;exact⟨.int c (c.wrap n),by simp[execOp,b,i,convert,qa2 f,qa2 g,Result.andThen,Conv.intToInt],fI.v _⟩
def adg{t:TypeId}{x:Operand}(b:o.op =.unOp .neg t x)(h:fV P σ o.op=some v)(H:CK β ok a w σ o):Does P β ok a w o v:=by
 simp only[b,fV,oI]at h;split at h<;>try (cases h;done)
 rename_i k n e;have c:=bW (H x (by simp[b,Op.operands]) _ e);simp only[qq]at h;subst h;exact⟨.int k (k.wrap (0 - n)),by simp[execOp,b,c,Op.unary,Op.intArith],fI.v _⟩
def aaP{t:TypeId}{x y:Operand}(c:o.op =.index t x y)(h:fV P σ o.op=some v)(H:CK β ok a w σ o):Does P β ok a w o v:=by
 simp only[c,fV,oI]at h;split at h<;>try (cases h;done)
 rotate_left
 .rename_i len J L j f e l;have G:=H x (by simp[c,Op.operands]);have k:=bW (H y (by simp[c,Op.operands]) _ l);split at h<;>try (cases h;done)
  rename_i d i s q;split at h<;>try (cases h;done)
  rename_i p;have⟨I,e,r⟩:=G _ e;have⟨u,m,n,A⟩:=E9 h (r.cut (j*i.size) i.size);refine⟨u,?_,m⟩;have K:=r.length;have F:(j:Int)<(len:Int):=od
  have E:(0:Int)<=(j:Int):=od
  cases g:aggB d with
  | true =>
   rw[n g];simp[execOp,c,Instr.index,qa2 f,Result.andThen,e,k,asIntOf,part,zu s,g,run_sizeOf q,p.1]
  | false =>
   have B:=A g;have C:I[j*i.size]?=some u:=by have:=congrArg (·[0]?) B;simp[qe4,qh6]at this;exact this.2
   simp[execOp,c,Instr.index,qa2 f,Result.andThen,e,k,asIntOf,part,zu s,g,run_sizeOf q,p.1,C]
 rename_i z j f e l;have m:=bW (H x (by simp[c,Op.operands]) _ e);have n:=bW (H y (by simp[c,Op.operands]) _ l);unfold aaF at h;split at h<;>try (cases h;done)
 rename_i k;simp only[qS]at h;obtain⟨b,D,rfl⟩:=h;exact⟨.int .u8 b.toNat,by simp[execOp,c,m,n,Instr.index,asIntOf,qa2 f,Result.andThen,k,D],fI.v _⟩
def capsO_rep:∀(xs:List Operand) (ks:List Nat),JM σ xs=some ks->(∀x∈xs,∀v,tC σ x=some v->iZ β ok w v (a.eval x))->(∀k∈ks,(∃b,β k=some b)/\k<1000000)/\xs.map a.eval=ks.map λk=>Value.po ((β k).getD 0)
 | [],ks,h,_=>by simp only[JM,qq]at h;subst h;simp
 | x::r,ks,h,H=>by
  simp only[JM]at h;split at h<;>try (cases h;done)
  rename_i k l f g;simp only[qq]at h;subst h;have⟨i,j⟩:=capsO_rep r l g (λy m=>H y (by simp[m]));have⟨b,c,e⟩:=H x oe _ f;refine⟨λn d=>?_,?_⟩
  .rcases kl.1 d with rfl|d
   .exact⟨⟨b,c.1⟩,c.2⟩
   .exact i n d
  .rw[qc0,qc0,j,e,c.1];rfl
def acw{f:FuncId}{first b:Array Operand}(c:o.op =.makeFunc (.func f) first b)(h:fV P σ o.op=some v)(H:CK β ok a w σ o):Does P β ok a w o v:=by
 simp only[c,fV,oI]at h;split at h<;>try (cases h;done)
 rename_i j;obtain⟨d,hk,rfl⟩:=qS.1 h;have⟨g,i⟩:=capsO_rep _ _ hk (λx m=>H x (by simp only[c,Op.operands,Array.toList_append,ki];exact .inr m));obtain rfl:=jb0 j;have e:b.map a.eval=(d.map λk=>Value.po ((β k).getD 0)).toArray:=by rw[<-i,<-Array.toList_map,Array.toArray_toList]
 refine⟨.func (.func f) #[] (b.map a.eval),by simp[execOp,c,Instr.makeFunc,Result.andThen],?_⟩;rw[e]
 cases d with
 | nil=>exact fI.v _
 | cons k l=>exact⟨g,rfl⟩
def YD{t:TypeId}{x:Operand}(c:o.op =.unOp .not t x)(h:fV P σ o.op=some v)(H:CK β ok a w σ o):Does P β ok a w o v:=by
 simp only[c,fV]at h;split at h<;>try (cases h;done)
 rename_i b e;have d:=bW (H x (by simp[c,Op.operands]) _ e);simp only[qq]at h;subst h;exact⟨.bool !b,by simp[execOp,c,d,Op.unary],fI.v _⟩
def J8{x:Operand}(c:o.op =.nilCheck x)(h:fV P σ o.op=some v)(H:CK β ok a w σ o):Does P β ok a w o v:=by
 simp only[c,fV]at h;split at h<;>try (cases h;done)
 .rename_i k q e;have⟨b,f,d⟩:=H x (by simp[c,Op.operands]) _ e;simp only[qq]at h;subst h;exact⟨_,by simp[execOp,c,d],b,f,rfl⟩
 .rename_i cs q e;have⟨b,i,d,f⟩:=H x (by simp[c,Op.operands]) _ e;simp only[qq]at h;subst h;exact⟨_,by simp[execOp,c,d],b,i,rfl,f⟩
 .rename_i k q e;have⟨b,d,f⟩:=H x (by simp[c,Op.operands]) _ e;simp only[qq]at h;subst h;exact⟨_,by simp[execOp,c,d],b,rfl,f⟩
 .rename_i q e;have g:=bW (H x (by simp[c,Op.operands]) _ e);simp only[qq]at h;subst h;exact⟨_,by simp[execOp,c,g],fI.v _⟩
def YC{args:Array Operand}{ts:Array TypeId}(j:o.op =.call ⟨.builtin .len,args,ts⟩)(h:fV P σ o.op=some v)(H:CK β ok a w σ o):Does P β ok a w o v:=by
 simp only[j,fV]at h;split at h<;>try (cases h;done)
 .rename_i x u d q;split at h<;>try (cases h;done)
  rotate_left
  .rename_i k n l e;simp only[qq]at h;subst h;have p:args=#[x]:=by rw[<-d]
   subst p;have⟨b,c,m,_⟩:=H x (by simp[j,Op.operands,Call.operands]) _ e;have⟨t,f,g⟩:=qf1.1 q;refine⟨.i l,?_,fI.v _⟩;simp[execOp,j,resolve,invoke,builtin,Builtin.len_,f,m,qa2 g,Result.andThen,goInt]
  rename_i n r e;simp only[qq]at h;subst h;have p:args=#[x]:=by rw[<-d]
  subst p;have⟨s,c,U,m,_⟩:=fH (H x (by simp[j,Op.operands,Call.operands]) _ e);have⟨t,f,g⟩:=qf1.1 q;refine⟨.i r.length,?_,fI.v _⟩;simp[execOp,j,resolve,invoke,builtin,Builtin.len_,f,m,qa2 g,Result.andThen,goInt]
 .rename_i x d q;split at h<;>try (cases h;done)
  rename_i n e;simp only[qq]at h;subst h;have p:args=#[x]:=by rw[<-d]
  subst p;have m:=bW (H x (by simp[j,Op.operands,Call.operands]) _ e);have⟨t,f,g⟩:=qf1.1 q;refine⟨.i n.size,?_,fI.v _⟩;simp[execOp,j,resolve,invoke,builtin,Builtin.len_,f,m,qa2 g,Result.andThen,goInt]
def ade{args:Array Operand}{ts:Array TypeId}(c:o.op =.call ⟨.builtin .max,args,ts⟩)(h:fV P σ o.op=some v)(H:CK β ok a w σ o):Does P β ok a w o v:=by
 simp only[c,fV]at h;split at h<;>try (cases h;done)
 rename_i x y b;split at h<;>try (cases h;done)
 rename_i m n d e;simp only[qq]at h;subst h;have f:args=#[x,y]:=by rw[<-b]
 subst f;have g:=bW (H x (by simp[c,Op.operands,Call.operands]) _ d);have j:=bW (H y (by simp[c,Op.operands,Call.operands]) _ e);refine⟨.i (if m<n then n else m),?_,fI.v _⟩;simp[execOp,c,resolve,invoke,builtin,Builtin.max_,Builtin.max2,g,j,Result.andThen]
def adf{args:Array Operand}{ts:Array TypeId}(c:o.op =.call ⟨.builtin .min,args,ts⟩)(h:fV P σ o.op=some v)(H:CK β ok a w σ o):Does P β ok a w o v:=by
 simp only[c,fV]at h;split at h<;>try (cases h;done)
 rename_i x y b;split at h<;>try (cases h;done)
 rename_i m n d e;simp only[qq]at h;subst h;have f:args=#[x,y]:=by rw[<-b]
 subst f;have g:=bW (H x (by simp[c,Op.operands,Call.operands]) _ d);have j:=bW (H y (by simp[c,Op.operands,Call.operands]) _ e);refine⟨.i (if n<m then n else m),?_,fI.v _⟩;simp[execOp,c,resolve,invoke,builtin,Builtin.min_,Builtin.min2,g,j,Result.andThen]
def run_places:∀(a:List Field),a.all (λf=>(P.info? f.type).isSome)->(a.mapM (m:=Sem) λf=>do pure (f.offset,<-sizeOf f.type)).run P w =.ok (a.map λf=>(f.offset,((P.info? f.type).map (·.size)).getD 0)) w
 | [],_=>rfl
 | f::a,h=>by simp only[xj,qt]at h;have⟨i,b⟩:=qf4.1 h.1;rw[jf0,qc2,qc2,run_sizeOf b];simp only[Result.andThen,je3];rw[qc2,run_places a h.2];simp[Result.andThen,b]
def yK{z:cm} : dU (jm β ok w) (ofV z).xs z.cells.toList:=by
 have h:=F8 β ok w z;unfold ofV at h|-;split at h
 .have⟨c,e,b⟩:=h;simp only[ja5]at e;subst e;simpa[A1.xs,Value.cells]using b
 .rename_i a;have : z.cells=#[z]:=by cases z<;>first|rfl|exact absurd rfl (a _)
  rw[this];exact⟨h,trivial⟩
def UE{t:TypeId}{b:Array (Nat×Operand)}(k:o.op =.build t b)(h:fV P σ o.op=some v)(H:CK β ok a w σ o):Does P β ok a w o v:=by
 simp only[k,fV]at h;split at h<;>try (cases h;done)
 rename_i d z C A B y;split at h<;>try (cases h;done)
 rename_i c;simp only[qS]at h;obtain⟨D,g,rfl⟩:=h;have⟨i,s,n⟩:=qf1.1 B;have m:=partsO_rep (a:=a) (β:=β) (ok:=ok) (w:=w) _ _ y (λx g=>H x (by simp[k,Op.operands]at g|-;exact g));have⟨cs,q,r⟩:=Be _ _ _ _ _ _ m yK g;refine⟨.agg cs,?_,cs.toList,oe,r⟩;have p:(zeroValue t).run P w =.ok z w:=by unfold zeroValue;rw[qc2,run_typeInfo _ s];simp[Result.andThen,n]
 have l:(λ(i:Nat)=>(d[i]?).bind λ(f:Field)=>(P.info? f.type).map λj=>(f.offset,j.size))=λ(i:Nat)=>((d.toList.map λ(f:Field)=>(f.offset,((P.info? f.type).map (·.size)).getD 0)).toArray)[i]?:=by
  funext i
  simp only[List.getElem?_toArray,qb0,ja1]
  cases e:d[i]? with
  | none=>rfl
  | some f =>
   have : f∈d.toList:=by rw[Array.mem_toList_iff];exact Array.mem_of_getElem? e
   have⟨j,u⟩:=qf4.1 (kd.1 c f this);simp[u]
 rw[l]at q;simp only[execOp,k,qc2,Instr.build,p,Result.andThen,qa2 A,Array.mapM_eq_mapM_toList,Sem.run_map,run_places d.toList c];simp only[Array.toList_map];rw[show (List.map (λx=>(x.1,a.eval x.2)) b.toList)=(b.toList.map λ(i,x)=>(i,a.eval x)) from rfl,q];rfl
def BU(h:fV P σ o.op=some v)(H:CK β ok a w σ o):Does P β ok a w o v:=by
 cases e:o.op with
 | move x=>exact Re (.inl e) (by simpa[e,fV]using h) H
 | assign x=>exact Re (.inr e) (by simpa[e,fV]using h) H
 | pick c x y=>exact Xu e h H
 | fieldAddr s x f=>exact Ht e h H
 | indexAddr t x y=>exact Hu e h H
 | slice t x q p r =>
  cases r with
  | none=>exact UG e h H
  | some m =>
   cases q with
   | none =>
    cases p with
    | none=>simp[e,fV,oI]at h
    | some y=>exact Rf e h H
   | some l=>simp[e,fV,oI]at h
 | field t x f=>exact UF e h H
 | extract x i=>exact N7 e h H
 | binOp op t x y z=>exact UD e h H
 | unOp op t x=>cases op<;>first|exact YD e h H|exact adg e h H|simp[e,fV,oI]at h
 | convert s d x=>exact TT e h H
 | index t x y=>exact aaP e h H
 | makeFunc n u cs=>cases n<;>first|exact acw e h H|simp[e,fV,oI]at h
 | nilCheck x=>exact J8 e h H
 | build t g=>exact UE e h H
 | call c =>
  have⟨k,j,A⟩:=c
  cases k with
  | builtin b=>cases b<;>first|exact YC e h H|exact ade e h H|exact adf e h H|simp[e,fV,oI]at h
  | _=>simp[e,fV,oI]at h
 | _=>simp[e,fV,oI]at h
end
end
end Go.Proofs.YtnamdihclpbdfaaGreat.Pe
