import Derived.Test.YtgfdimkbfnpepaaGreatKpZ0
import Derived.ArgAppend
import Derived.ChangeKeysEq
import Derived.Laws.AppendOwn
import Derived.Laws.Cells
import Derived.Laws.Entries
import Derived.Laws.IdiomCopy
import Derived.Laws.Rows
import Derived.OrdersHeld
namespace Go.Proofs.YtgfdimkbfnpepaaGreat.Pe
set_option linter.all false
open Go.Proofs.Tryz
set_option maxRecDepth 100000
set_option maxHeartbeats 4000000
inductive D where
 | v (x:Value)
 | s (n:Nat) (es:List (List D))
 | t
inductive fI (ok:Nat->Prop) (w:World):D->Value->Prop
 | v (x:Value):fI ok w (.v x) x
 | t (x:Value) (h:x.oneCell'=true):fI ok w .t x
 | s {n:Nat} {es:List (List D)} {a:Option Addr} {c:Nat} (U:Nat->Nat->Value) (hc:es.length<=c) (hl:es.length<=maxLen)
  (hn:∀(i:Nat) (r:List D),es[i]?=some r->r.length=n)
  (ha:∀(i:Nat) (r:List D) (j:Nat) (x:D),es[i]?=some r->r[j]?=some x->∃b o,a=some ⟨b,o,none⟩/\ok b/\w.cell? ⟨b,o+(i*n+j),none⟩=some (U i j))
  (hr:∀(i:Nat) (r:List D) (j:Nat) (x:D),es[i]?=some r->r[j]?=some x->fI ok w x (U i j)) (hz:n=0->a=none/\c=0:=by intro h;omega):fI ok w (.s n es) (.slice a es.length c)
inductive X where
 | d (x:D)
 | p (k o:Nat)
 | e (cs:List D) (o:Nat)
 | f (n:Nat) (es:List (List D))
inductive A1 where
 | one (x:X)
 | agg (xs:List X)
inductive AV where
 | of (a:A1)
 | rz (xs:List A1)
def zH (ok:Nat->Prop) (w:World) (ok':Nat->Prop) (w':World):Prop:=w.heap.size<=w'.heap.size/\∀b,b<w.heap.size->ok b->ok' b/\∀o,w'.cell? ⟨b,o,none⟩=w.cell? ⟨b,o,none⟩
def fI.keep{ok ok':Nat->Prop}{w w':World}{d:D}{v:Value}(h:fI ok w d v)(k:zH ok w ok' w'):fI ok' w' d v:=by
 induction h with
 | v x=>exact .v x
 | t x h=>exact .t x h
 | s U m n p g z hz q =>
  refine .s U m n p (λi r j x c f=>?_) q hz;obtain⟨b,o,e,l,a⟩:=g i r j x c f;obtain⟨u,y⟩:=k.2 b (kd w _ a) l;exact⟨b,o,e,u,(y _).trans a⟩
section
variable (β:Nat->Option Nat) (ok:Nat->Prop) (w:World)
def jm:X->Value->Prop
 | .d x,v=>fI ok w x v
 | .p k o,v=>∃b,β k=some b/\v =.pointer (some ⟨b,o,none⟩)
 | .e cs o,v=>∃b q,v =.pointer (some ⟨b,q+o,none⟩)/\(ok b/\b<w.heap.size)/\∀(j:Nat) (x:D),cs[j]?=some x->∃u,w.cell? ⟨b,q+j,none⟩=some u/\fI ok w x u
 | .f n es,v=>∃a,v =.slice a es.length es.length/\fI ok w (.s n es) v
def dU {α:Type}(R:α->Value->Prop):List α->List Value->Prop
 | [],[]=>True
 | x::xs,v::vs=>R x v/\dU R xs vs
 | _,_=>False
def gm:A1->Value->Prop
 | .one x,v=>jm β ok w x v
 | .agg xs,v=>∃vs,v =.agg vs.toArray/\dU (jm β ok w) xs vs
def iZ:AV->Value->Prop
 | .of a,v=>gm β ok w a v
 | .rz az,v=>∃vs,v =.tuple vs.toArray/\dU (gm β ok w) az vs
end
def dU.mono{α:Type}{R c:α->Value->Prop}(h:∀x v,R x v->c x v):∀{xs:List α}{vs:List Value},dU R xs vs->dU c xs vs
 | [],[],_=>trivial
 | x::xs,v::vs,⟨a,b⟩=>⟨h x v a,dU.mono h b⟩
def dU.length{α:Type}{R:α->Value->Prop} : ∀{xs:List α}{vs:List Value},dU R xs vs->vs.length=xs.length
 | [],[],_=>rfl
 | x::xs,v::vs,⟨_,b⟩=>by simp[dU.length b]
def dU.get{α:Type}{R:α->Value->Prop} : ∀{xs:List α}{vs:List Value},dU R xs vs->∀(i:Nat) (x:α),xs[i]?=some x->∃v,vs[i]?=some v/\R x v
 | x::xs,v::vs,⟨a,b⟩,0,y,h=>⟨v,rfl,by simpa using (by simpa using h:x=y) ▸ a⟩
 | x::xs,v::vs,⟨a,b⟩,i+1,y,h=>dU.get b i y (by simpa using h)
def dU.of{α:Type}{R:α->Value->Prop} : ∀{xs:List α}{vs:List Value},vs.length=xs.length->(∀(i:Nat) (x:α) (v:Value),xs[i]?=some x->vs[i]?=some v->R x v)->dU R xs vs
 | [],[],_,_=>trivial
 | x::xs,v::vs,c,h=>⟨h 0 x v rfl rfl,dU.of (by simpa using c) (λi y u a b=>h (i+1) y u (by simpa using a) (by simpa using b))⟩
def dU.ex{α:Type}{R:α->Value->Prop} : ∀{xs:List α},(∀(i:Nat) (x:α),xs[i]?=some x->∃v,R x v)->∃vs,dU R xs vs
 | [],_=>⟨[],trivial⟩
 | x::xs,h=>by obtain⟨v,b⟩:=h 0 x rfl;obtain⟨vs,a⟩:=dU.ex (λi y c=>h (i+1) y (by simpa using c));exact⟨v::vs,b,a⟩
section
variable {β β':Nat->Option Nat}{ok ok':Nat->Prop}{w w':World}
def jm.keep(k:zH ok w ok' w')(hβ:∀x b,β x=some b->β' x=some b):∀(x:X) (v:Value),jm β ok w x v->jm β' ok' w' x v
 | .d x,v,h=>fI.keep h k
 | .p n o,v,⟨b,h,e⟩=>⟨b,hβ _ _ h,e⟩
 | .e cs o,v,⟨b,q,e,c,l⟩=>by obtain⟨r,s⟩:=k.2 b c.2 c.1;exact⟨b,q,e,⟨r,jz c.2 k.1⟩,λj x m=>by obtain⟨u,g,i⟩:=l j x m;exact⟨u,(s _).trans g,i.keep k⟩⟩
 | .f n t,v,⟨a,e,h⟩=>⟨a,e,h.keep k⟩
def gm.keep(k:zH ok w ok' w')(hβ:∀x b,β x=some b->β' x=some b):∀(x:A1) (v:Value),gm β ok w x v->gm β' ok' w' x v
 | .one x,v,h=>jm.keep k hβ x v h
 | .agg c,v,⟨a,e,h⟩=>⟨a,e,h.mono (jm.keep k hβ)⟩
def iZ.keep(k:zH ok w ok' w')(hβ:∀x b,β x=some b->β' x=some b):∀(x:AV) (v:Value),iZ β ok w x v->iZ β' ok' w' x v
 | .of x,v,h=>gm.keep k hβ x v h
 | .rz c,v,⟨a,e,h⟩=>⟨a,e,h.mono (gm.keep k hβ)⟩
end
abbrev Loc:=Nat×Nat
abbrev St:=List (Loc×AV)
def get:St->Loc->Option AV
 | [],_=>none
 | (k,v)::r,x=>if k=x then some v else get r x
def dV:Value->D
 | .slice none 0 0=>.s 0 []
 | v=>.v v
def ofV:Value->A1
 | .agg cs=>.agg (cs.toList.map λc=>.d (dV c))
 | v=>.one (.d (dV v))
def undefA:AV:=.of (.one (.d (.v (.tuple #[]))))
def tC (σ:St):Operand->Option AV
 | .tmp t=>get σ (0,t)
 | .const v=>some (.of (ofV v))
 | .func f=>some (.of (.one (.d (.v (.func (.func f) #[] #[])))))
 | _=>none
def X.plain:X->Bool
 | .d (.v (.agg _))=>false
 | .d (.v (.tuple _))=>false
 | _=>true
def X.clean:X->Bool
 | .d _=>true
 | _=>false
def X.soft:X->X
 | .f n es=>.d (.s n es)
 | x=>x
def A1.xs:A1->List X
 | .one x=>[x]
 | .agg xs=>xs
def A1.clean (a:A1):Bool:=a.xs.all X.clean
def X.toD:X->D
 | .d x=>x
 | _=>.v (.tuple #[])
def aQ (b:Bool):AV:=.of (.one (.d (.v (.bool b))))
def lW (n:Int):AV:=.of (.one (.d (.v (.i n))))
def xw {α:Type} : Nat->List α->Option (List α)
 | 0,l=>some l
 | n+1,_::l=>xw n l
 | _+1,[]=>none
def nH {α:Type} : Nat->List α->Option (List α)
 | 0,_=>some []
 | n+1,x::l=>(nH n l).map (x :: ·)
 | _+1,[]=>none
def CV (σ:St) (x:Operand):Option Nat :=
 match tC σ x with
 | some (.of (.one (.d (.v (.int .i64 (.ofNat j))))))=>some j
 | _=>none
def mkA:Bool->List X->Option AV
 | true,xs=>some (.of (.agg xs))
 | false,[x]=>some (.of (.one x))
 | false,_=>none
def aggB:TypeDesc->Bool
 | .struct _=>true
 | .array _ _=>true
 | _=>false
def xB (place:Nat->Option (Nat×Nat)):List X->List (Nat×List X)->Option (List X)
 | xs,[]=>some xs
 | xs,(i,ys)::r =>
  match place i with
  | none=>none
  | some (off,size)=>if ys.length=size/\off+ys.length<=xs.length then xB place (xs.take off++(ys++xs.drop (off+ys.length))) r else none
def Pg (σ:St):List (Nat×Operand)->Option (List (Nat×List X))
 | []=>some []
 | (i,x)::r =>
  match tC σ x with
  | some (.of a)=>if a.xs.all X.plain then (Pg σ r).map ((i,a.xs.map X.soft) :: ·)else none
  | _=>none
def chunk {α:Type}(n:Nat):Nat->List α->List (List α)
 | 0,_=>[]
 | k+1,l=>l.take n::chunk n k (l.drop n)
def cmpO:BinOp->Int->Int->Option AV
 | .eql,a,b=>some (aQ (decide (a=b)))
 | .neq,a,b=>some (aQ (!decide (a=b)))
 | .lss,a,b=>some (aQ (decide (a<b)))
 | .leq,a,b=>some (aQ (decide (a<=b)))
 | .gtr,a,b=>some (aQ (decide (b<a)))
 | .geq,a,b=>some (aQ (decide (b<=a)))
 | .add,a,b=>some (lW (IntKind.i64.wrap (a+b)))
 | .sub,a,b=>some (lW (IntKind.i64.wrap (a - b)))
 | _,_,_=>none
def Bp (sz n:Nat) (es:List (List D)) (j:Nat):Option AV :=
 match es[j]? with
 | some (c::r)=>if sz=n then some (.of (.one (.e (c::r) 0)))else none
 | _=>none
def qA (n:Nat) (es:List (List D)):Option Nat->Option (Option Nat)->Option AV
 | some l,some none=>(xw l es).map λr=>.of (.one (.d (.s n r)))
 | some l,some (some h)=>((nH h es).bind (xw l)).map λr=>.of (.one (.d (.s n r)))
 | _,_=>none
def fV (P:Program) (σ:St):Op->Option AV
 | .move x=>tC σ x
 | .assign x=>tC σ x
 | .pick c a b =>
  match tC σ c with
  | some (.of (.one (.d (.v (.bool true)))))=>tC σ a
  | some (.of (.one (.d (.v (.bool false)))))=>tC σ b
  | _=>none
 | .fieldAddr s x f =>
  match P.underlying s with
  | some (.struct fs) =>
   match fs[f]? with
   | some fd =>
    match P.info? fd.type with
    | some i =>
     if i.size=0 then none else
     match tC σ x with
     | some (.of (.one (.p k q)))=>some (.of (.one (.p k (q+fd.offset))))
     | some (.of (.one (.e cs q)))=>some (.of (.one (.e cs (q+fd.offset))))
     | _=>none
    | none=>none
   | none=>none
  | _=>none
 | .indexAddr t x i =>
  match P.underlying t,CV σ i with
  | some (.slice el),some j =>
   match P.info? el,tC σ x with
   | some inf,some (.of (.one (.d (.s n es))))=>Bp inf.size n es j
   | _,_=>none
  | some (.array len el),some j =>
   match P.info? el,tC σ x with
   | some inf,some (.of (.one (.p k q)))=>if j<len then some (.of (.one (.p k (q+j*inf.size))))else none
   | _,_=>none
  | _,_=>none
 | .slice t x lo hi none =>
  match P.underlying t,tC σ x with
  | some (.slice el),some (.of (.one (.d (.s n es)))) =>
   match P.info? el with
   | some inf =>
    if inf.size=n then
     qA n es (match lo with|none=>some 0|some y=>CV σ y) (match hi with|none=>some none|some y=>(CV σ y).map some)
    else none
   | none=>none
  | _,_=>none
 | .slice t x none (some y) (some z) =>
  match P.underlying t,tC σ x,CV σ y,CV σ z with
  | some (.slice el),some (.of (.one (.d (.s n es)))),some h,some m =>
   match P.info? el with
   | some inf=>if inf.size=n/\h=m then (nH h es).map λr=>.of (.one (.f n r))else none
   | none=>none
  | _,_,_,_=>none
 | .field t x f =>
  match P.underlying t,tC σ x with
  | some (.struct fs),some (.of (.agg xs)) =>
   match fs[f]? with
   | some fd =>
    match P.underlying fd.type,P.info? fd.type with
    | some d,some i=>if fd.offset+i.size<=xs.length/\(aggB d||i.size==1)then mkA (aggB d) ((xs.drop fd.offset).take i.size)else none
    | _,_=>none
   | none=>none
  | _,_=>none
 | .extract x i =>
  match tC σ x with
  | some (.rz az)=>(az[i]?).map .of
  | _=>none
 | .binOp op _ x y _ =>
  match tC σ x,tC σ y with
  | some (.of (.one (.d (.v (.int .i64 a))))),some (.of (.one (.d (.v (.int .i64 b)))))=>cmpO op a b
  | some (.of (.one (.d (.v (.string a))))),some (.of (.one (.d (.v (.string b))))) =>
   match op with
   | .add=>if a.size+b.size<=9223372036854775807 then some (.of (.one (.d (.v (.string (a++b))))))else none
   | .eql=>some (aQ (a.toList==b.toList))
   | .neq=>some (aQ (!(a.toList==b.toList)))
   | _=>none
  | _,_=>none
 | .unOp .not _ x =>
  match tC σ x with
  | some (.of (.one (.d (.v (.bool b)))))=>some (aQ (!b))
  | _=>none
 | .nilCheck x =>
  match tC σ x with
  | some (.of (.one (.p k q)))=>some (.of (.one (.p k q)))
  | some (.of (.one (.e cs q)))=>some (.of (.one (.e cs q)))
  | _=>none
 | .build t parts =>
  match P.underlying t,(P.info? t).bind (·.zero),Pg σ parts.toList with
  | some (.struct fs),some z,some ps =>
   if fs.toList.all (λf=>(P.info? f.type).isSome)then
    (xB (λi=>(fs[i]?).bind λf=>(P.info? f.type).map λj=>(f.offset,j.size)) (ofV z).xs ps).map λxs=>.of (.agg xs)
   else none
  | _,_,_=>none
 | .call { callee:=.builtin .len,args:=args,argTypes:=ts } =>
  match args.toList,(ts[0]?).bind P.underlying with
  | [x],some (.slice _) =>
   match tC σ x with
   | some (.of (.one (.d (.s _ es))))=>some (lW es.length)
   | _=>none
  | [x],some .string =>
   match tC σ x with
   | some (.of (.one (.d (.v (.string z)))))=>some (lW z.size)
   | _=>none
  | _,_=>none
 | _=>none
class Mv where
 p:Option (Nat×Nat)
instance mv0:Mv:=⟨none⟩
structure Sp where
 f:FuncId
 args:List A1
 res:AV
 [mv:Mv]
def Aj (i:Nat):AV:=.of (.one (.d (.v (.i i))))
def verN:Option AV->Option Nat
 | some (.of (.one (.d (.v (.int .i64 n)))))=>some n.toNat
 | _=>none
abbrev Obl:=List (Bool×Prop)
abbrev Hints:=List (Nat×A1)
structure Out where
 res:Option AV
 mem:List (Loc×AV)
 rd:List Loc
def oC (k:Nat):Nat->List X->List (Loc×AV)
 | _,[]=>[]
 | q,x::xs=>((k+1,q),.of (.one x))::oC k (q+1) xs
def mI (σ:St) (k:Nat):Nat->Nat->Option (List X)
 | _,0=>some []
 | q,n+1 =>
  match get σ (k+1,q)with
  | some (.of (.one x))=>(mI σ k (q+1) n).map (x :: ·)
  | _=>none
def BD (k:Nat):Nat->Nat->List Loc
 | _,0=>[]
 | q,n+1=>(k+1,q)::BD k (q+1) n
def Gd (σ:St):List Operand->Option (List A1)
 | []=>some []
 | x::r =>
  match tC σ x with
  | some (.of a)=>if a.clean then (Gd σ r).map (a :: ·)else none
  | _=>none
def lookT:Hints->Nat->Option A1
 | [],_=>none
 | (k,b)::r,d=>if k=d then some b else lookT r d
def mark (d:Nat):Option AV->List (Loc×AV)
 | some v=>[((1000001,d+1),v)]
 | none=>[]
def W9 (v u:Option AV):Bool :=
 match v with
 | none=>true
 | some _=>match verN v,verN u with
  | some i,some j=>i==j
  | _,_=>false
def M6 (σ:St) (o:Oper) (a:A1):Option Out :=
 match o.dst,a.xs with
 | some d,x::xs=>if (x::xs).all X.plain/\(get σ (d+1,0)).isNone/\d<1000000 then some ⟨some (.of (.one (.p d 0))),oC d 0 (x::xs)++mark d (get σ (1000001,0)),[(1000001,0)]⟩else none
 | _,_=>none
def Hw (P:Program) (T:Hints) (C:List Sp) (σ:St) (o:Oper):Option (Out×List Sp×Obl) :=
 match o.dst.bind (lookT T)with
 | none=>(fV P σ o.op).map λv=>(⟨some v,[],[]⟩,C,[])
 | some l=>some (⟨some (.of l),[],[]⟩,C,[(true,fV P σ o.op=some (.of l))])
def Dk (P:Program) (T:Hints) (C:List Sp) (σ:St) (o:Oper):Option (Out×List Sp×Obl) :=
 match o.op with
 | .box _ x =>
  match tC σ x with
  | some (.of a)=>(M6 σ o a).map λu=>(u,C,[])
  | _=>none
 | .alloc t =>
  match (P.info? t).bind (·.zero)with
  | some z=>(M6 σ o (ofV z)).map λu=>(u,C,[])
  | none=>none
 | .load t x =>
  match tC σ x,P.underlying t,P.info? t with
  | some (.of (.one (.p k q))),some d,some i =>
   if aggB d||i.size==1 then ((mI σ k q i.size).bind (mkA (aggB d))).map λv=>(⟨some v,[],BD k q i.size⟩,C,[])else none
  | some (.of (.one (.e cs q))),some d,some i =>
   if q+i.size<=cs.length/\(aggB d||i.size==1)then (mkA (aggB d) (((cs.drop q).take i.size).map .d)).map λv=>(⟨some v,[],[]⟩,C,[])else none
  | _,_,_=>none
 | .store t x y =>
  match o.dst,tC σ x,tC σ y,P.info? t with
  | none,some (.of (.one (.p k q))),some (.of a),some i =>
   if a.xs.length=i.size/\a.xs.all X.plain/\(mI σ k q i.size).isSome/\W9 (get σ (1000001,0)) (get σ (1000001,k+1))=true then some (⟨none,oC k q a.xs,(1000001,0)::(1000001,k+1)::BD k q i.size⟩,C,[])else none
  | _,_,_,_=>none
 | .buildSlice t len parts =>
  match P.underlying t with
  | some (.slice el) =>
   match P.info? el,(P.info? el).bind (·.zero),Pg σ parts.toList with
   | some inf,some z,some ps =>
    if len*inf.size<=4096/\0<len*inf.size/\(ofV z).xs.length=inf.size then
     match xB (λi=>some (i*inf.size,inf.size)) (List.replicate len (ofV z).xs).flatten ps with
     | some xs=>if xs.all X.clean then some (⟨some (.of (.one (.d (.s inf.size (chunk inf.size len (xs.map X.toD)))))),[],[]⟩,C,[])else none
     | none=>none
    else none
   | _,_,_=>none
  | _=>none
 | .call c =>
  match c.callee with
  | .value (.func f) =>
   match C,Gd σ c.args.toList with
   | s::C',some az =>
    if s.f=f then
     match s.mv.p with
     | none=>some (⟨some s.res,[],[]⟩,C',[(false,az=s.args)])
     | some (i,j)=>if verN (get σ (1000001,0))=some i/\i<j then some (⟨some s.res,[((1000001,0),Aj j)],[(1000001,0)]⟩,C',[(false,az=s.args)])else none
    else none
   | _,_=>none
  | .builtin .append =>
   match c.args.toList,c.argTypes.toList with
   | [s,x],[t,t'] =>
    match P.underlying t,tC σ s,tC σ x with
    | some (.slice e),some (.of (.one (.f n es))),some (.of (.one (.d (.s n' (r::rs))))) =>
     match P.info? e,(P.info? e).bind (·.zero)with
     | some inf,some z=>if t=t'/\inf.size=n/\n'=n/\z.cells.size=n/\0<n/\((r::rs).all λrow=>row.all λx=>(X.d x).plain)=true then
      some (⟨some (.of (.one (.d (.s n (es++(r::rs)))))),[],[]⟩,C,[(true,es.length+(rs.length+1)<=maxLen/\(es.length+(rs.length+1))*inf.bytes<=140737488355328)])else none
     | _,_=>none
    | _,_,_=>none
   | _,_=>none
  | _=>Hw P T C σ o
 | _=>Hw P T C σ o
structure Rec where
 rd:List Loc
 wr:List (Loc×AV)
def Fb (o:Oper):List Loc:=o.op.operands.toList.filterMap λ| .tmp t=>some (0,t)|_=>none
def zW (P:Program) (T:Hints) (nt:Nat) (C:List Sp) (σ:St) (o:Oper) (g:List Loc):Option (Rec×List Sp×Obl) :=
 match Dk P T C σ o with
 | some (u,C',ob) =>
  match o.dst with
  | some d=>if d<nt then some (⟨g++(Fb o++u.rd),((0,d),u.res.getD undefA)::u.mem⟩,C',ob)else none
  | none=>some (⟨g++(Fb o++u.rd),u.mem⟩,C',ob)
 | none=>none
def zX (nt:Nat) (C:List Sp) (o:Oper) (g:List Loc):Option (Rec×List Sp×Obl) :=
 match o.dst with
 | some d=>if d<nt then some (⟨g,[((0,d),undefA)]⟩,C,[])else none
 | none=>some (⟨g,[]⟩,C,[])
def El (P:Program) (T:Hints) (nt:Nat) (ops:Array Oper) (C:List Sp) (σ:St) (o:Oper):Option (Rec×List Sp×Obl) :=
 match o.guard with
 | none=>zW P T nt C σ o []
 | some (j,want) =>
  match (ops[j]?).bind (·.dst)with
  | some d =>
   match get σ (0,d)with
   | some (.of (.one (.d (.v (.bool b)))))=>if b=want then zW P T nt C σ o [(0,d)]else zX nt C o [(0,d)]
   | some (.of (.one (.d (.v (.tuple cs)))))=>zX nt C o [(0,d)]
   | _=>none
  | none=>none
def Xg (P:Program) (T:Hints) (nt:Nat) (ops:Array Oper):List Oper->List Sp->St->Option (St×List Sp×Obl×List Rec)
 | [],C,σ=>some (σ,C,[],[])
 | o::r,C,σ =>
  match El P T nt ops C σ o with
  | some (rc,C',ob) =>
   match Xg P T nt ops r C' (rc.wr++σ)with
   | some (σ',C'',ob',rs)=>some (σ',C'',ob++ob',rc::rs)
   | none=>none
  | none=>none
def meets (a b:List Loc):Bool:=a.any λx=>b.any λy=>decide (x=y)
def Rec.ws (r:Rec):List Loc:=r.wr.map (·.1)
def clash (a b:Rec):Bool:=meets a.ws b.rd||meets a.ws b.ws||meets a.rd b.ws
def edge (o:Oper) (i:Nat):Bool:=o.after.toList.any λe=>Region.binds .any e&&e.on==i
def waits (A:List Oper):Nat->Oper->Nat->Bool
 | 0,_,_=>false
 | n+1,o,i=>edge o i||o.after.toList.any λe=>Region.binds .any e&&(match A[e.on]? with|some o'=>waits A n o' i|none=>false)
def AZ (A:List Oper) (o:Oper) (r:Rec):Nat->List Rec->Bool
 | _,[]=>true
 | i,q::l=>(!clash q r||waits A 9 o i)&&AZ A o r (i+1) l
def calm (A:List Oper):List Oper->List Rec->List Rec->Nat->Bool
 | [],[],_,_=>true
 | o::os,r::rs,done,i=>AZ A o r 0 done&&o.after.toList.all (λe=>!Region.binds .any e||decide (e.on<i))&&calm A os rs (done++[r]) (i+1)
 | _,_,_,_=>false
structure Lp where
 body:Code
 pre:St
 ex:Nat
 post:St
def kept (S:St) (x:X):Bool :=
 match x with
 | .p k _=>(get S (k+1,0)).isSome
 | _=>true
def LB (S:St):AV->Bool
 | .of a=>a.xs.all (kept S)
 | .rz az=>az.all λa=>a.xs.all (kept S)
def known (σ S:St):Obl:=S.map λe=>(true,get σ e.1=some e.2)
def Dt (P:Program) (T:Hints) (L:List Lp) (nt:Nat):Code->List Sp->St->Option (Nat×St×List Sp×Obl)
 | .skip,C,σ=>some (0,σ,C,[])
 | .region _ ops draw,C,σ =>
  match Xg P T nt ops ops.toList C σ with
  | some (σ',C',ob,rs)=>if draw && !calm ops.toList ops.toList rs [] 0 then none else some (0,σ',C',ob)
  | none=>none
 | .seq a b,C,σ =>
  match Dt P T L nt a C σ with
  | some (0,σ',C',ob) =>
   match Dt P T L nt b C' σ' with
   | some (e,σ'',C'',ob')=>some (e,σ'',C'',ob++ob')
   | none=>none
  | r=>r
 | .cond c x y,C,σ =>
  match tC σ c with
  | some (.of (.one (.d (.v (.bool true)))))=>Dt P T L nt x C σ
  | some (.of (.one (.d (.v (.bool false)))))=>Dt P T L nt y C σ
  | _=>none
 | .block id c,C,σ =>
  match Dt P T L nt c C σ with
  | some (e,σ',C',ob)=>some (if e=id+2 then 0 else e,σ',C',ob)
  | none=>none
 | .exit id,C,σ=>some (id+2,σ,C,[])
 | .ret,C,σ=>some (1,σ,C,[])
 | .loop c,C,σ =>
  match L with
  | [l]=>if l.pre.all (λe=>LB l.pre e.2&&(e.1.1==0||(get l.pre (e.1.1,0)).isSome))=true/\(get σ (1000001,0)).isNone=true then some (l.ex,l.post,C,(true,l.body=c)::known σ l.pre)else none
  | _=>none
 | _,_,_=>none
def Ie (P:Program) (σ:St):ResultVar->Option A1
 | .tmp t=>match get σ (0,t)with|some (.of a)=>some a|_=>none
 | .cell a t =>
  match get σ (0,a),P.underlying t,P.info? t with
  | some (.of (.one (.p k q))),some d,some i =>
   if aggB d||i.size==1 then
    match (mI σ k q i.size).bind (mkA (aggB d))with
    | some (.of v)=>some v
    | _=>none
   else none
  | _,_,_=>none
def U2 (P:Program) (σ:St):List ResultVar->Option AV
 | [r]=>(Ie P σ r).map .of
 | [r,s]=>match Ie P σ r,Ie P σ s with|some a,some b=>some (.rz [a,b])|_,_=>none
 | [r,s,t]=>match Ie P σ r,Ie P σ s,Ie P σ t with|some a,some b,some c=>some (.rz [a,b,c])|_,_,_=>none
 | _=>none
def argsS:Nat->List A1->St
 | _,[]=>[]
 | i,a::r=>((0,i),.of a)::argsS (i+1) r
def AV.clean:AV->Bool
 | .of a=>a.clean
 | .rz az=>az.all A1.clean
def verS:Option (Nat×Nat)->St
 | some (i,_)=>[((1000001,0),Aj i)]
 | none=>[]
def verE:Option (Nat×Nat)->Option AV->Bool
 | some (_,j),v=>verN v==some j
 | none,v=>v.isNone
def Wd (m:Option (Nat×Nat)) (P:Program) (fn:Func) (body:Code) (T:Hints) (L:List Lp) (C:List Sp) (args:List A1):Option (AV×List Sp×Obl) :=
 if args.all A1.clean/\args.length<=fn.ntmps then
  match Dt P T L fn.ntmps body C (verS m++argsS 0 args)with
  | some (e,σ,C',ob)=>if e<=1/\verE m (get σ (1000001,0))=true then match U2 P σ fn.results.toList with|some v=>if v.clean then some (v,C',ob)else none|none=>none else none
  | none=>none
 else none
abbrev evF:=Wd none
def okB (n0:Nat) (ok0:Nat->Prop) (β:Nat->Option Nat) (b:Nat):Prop:=(b<n0/\ok0 b)\/(n0<=b/\∀k,β k≠some b)
def EH (β:Nat->Option Nat) (ok:Nat->Prop) (a:Act) (w:World):Loc->AV->Prop
 | (0,d),v=>∃u,a.tmps[d]?=some u/\iZ β ok w v u
 | (k+1,q),v=>∃b u y,β k=some b/\v =.of (.one y)/\w.cell? ⟨b,q,none⟩=some u/\w.frozen? ⟨b,q,none⟩=false/\jm β ok w y u
class pq where
 G:Nat->World->(Nat->Prop)->Prop
 grow:∀i W ok w,G i W ok->W.grownBy w none->G i w (λb=>(b<W.heap.size/\ok b)\/W.heap.size<=b)
def qp [pq] (Wb:World) (okb:Nat->Prop) (W0:World) (ok0:Nat->Prop) (β:Nat->Option Nat) (σ:St):Prop :=
 (get σ (1000001,0)=none->(W0=Wb/\ok0=okb)/\∀k b,β k=some b->W0.heap.size<=b) /\
 ∀v,get σ (1000001,0)=some v->∃i,v=Aj i/\pq.G i W0 ok0/\(Wb.heap.size<=W0.heap.size/\∀b,b<Wb.heap.size->okb b->ok0 b/\W0.heap[b]?=Wb.heap[b]?)/\∀k v',get σ (1000001,k+1)=some v'->∃j,v'=Aj j/\j<=i/\(j=i->∀b,β k=some b->W0.heap.size<=b)
instance res0:pq:=⟨λ_ _ _=>False,λ_ _ _ _ h _=>h⟩
structure Inv [pq] (Wb:World) (okb:Nat->Prop) (W0:World) (ok0:Nat->Prop) (ds:List Deferred) (nt:Nat) (β:Nat->Option Nat) (a:Act) (w:World) (σ:St):Prop where
 gr:W0.grownBy w none
 new:∀k b,β k=some b->(W0.heap.size<=b\/ok0 b)/\b<w.heap.size
 inj:∀k k' b,β k=some b->β k'=some b->k=k'
 dom:∀k b,β k=some b->(get σ (k+1,0)).isSome=true
 rep:∀x v,x.1≠1000001->get σ x=some v->EH β (okB W0.heap.size ok0 β) a w x v
 XU:a.defers=ds
 sz:a.tmps.size=nt
 nk:β 1000000=none
 FK:qp Wb okb W0 ok0 β σ
structure Dc (W0:World) (ok0:Nat->Prop) (β:Nat->Option Nat) (w:World) (W1:World) (ok1:Nat->Prop) (β':Nat->Option Nat) (w':World) (M:List Loc):Prop where
 gr:W1.grownBy w' none
 new:∀k b,β' k=some b->(W1.heap.size<=b\/ok1 b)/\b<w'.heap.size
 inj:∀k k' b,β' k=some b->β' k'=some b->k=k'
 sub:∀k b,β k=some b->β' k=some b
 fresh:∀k b,β' k=some b->β k=some b\/(k+1,0)∈M
 keep:zH (okB W0.heap.size ok0 β) w (okB W1.heap.size ok1 β') w'
 own:∀k b q,β k=some b->(k+1,q) ∉ M->w'.cell? ⟨b,q,none⟩=w.cell? ⟨b,q,none⟩/\w'.frozen? ⟨b,q,none⟩=w.frozen? ⟨b,q,none⟩
 nk:β' 1000000=none
def gtr{a b c:World}(h:a.grownBy b none)(k:b.grownBy c none):a.grownBy c none :=
 ⟨k.os.trans h.os,k.tape.trans h.tape,k.output.trans h.output,kh h.size k.size,λi d _=>(k.block i (jz d h.size) ot).trans (h.block i d ot)⟩
section
variable {Wb W0 W1:World}{okb ok0 ok1:Nat->Prop}{ds:List Deferred}{nt:Nat}{β β':Nat->Option Nat}{a a':Act}{w w':World}{σ:St}
def Inv.grow[pq](h:Inv Wb okb W0 ok0 ds nt β a w σ)(c:w.grownBy w' none):Dc W0 ok0 β w W0 ok0 β w' [] where
 gr:=gtr h.gr c
 new k b e:=⟨(h.new k b e).1,jz (h.new k b e).2 c.size⟩
 inj:=h.inj
 sub _ _ e:=e
 fresh _ _ e:=.inl e
 keep:=⟨c.size,λb d f=>⟨f,λo=>qn (c.block b d ot)⟩⟩
 own k b q e _:=⟨qn (c.block b (h.new k b e).2 ot),World.frozen?_of_block (c.block b (h.new k b e).2 ot)⟩
 nk:=h.nk
def get_append:∀(l σ:St) (x:Loc) (v:AV),get (l++σ) x=some v->(x,v)∈l\/(get σ x=some v/\x ∉ l.map (·.1))
 | [],σ,x,v,h=>.inr ⟨h,ot⟩
 | (k,u)::l,σ,x,v,h=>by
  simp only[qd2,get]at h;split at h
  .rename_i e;simp at h;subst e;subst h;simp
  .rename_i e;rcases get_append l σ x v h with h|⟨h,b⟩
   .exact .inl (by simp[h])
   .exact .inr ⟨h,by simp only[qb7,xb,not_or];exact⟨λa=>e a.symm,b⟩⟩
def get_mono:∀(l σ:St) (x:Loc),((get σ x).isSome=true\/x∈l.map (·.1))->(get (l++σ) x).isSome=true
 | [],σ,x,h=>by simpa using h
 | (k,u)::l,σ,x,h=>by
  simp only[qd2,get];split
  .rfl
  .rename_i e;refine get_mono l σ x ?_;rcases h with h|h
   .exact .inl h
   .simp only[qb7,xb]at h;rcases h with h|h
    .exact absurd h.symm e
    .exact .inr h
def UL(a:Act)(d:Option Tmp)(u:Value)(x:Nat)(h:d≠some x):(a.put d u).tmps[x]?=a.tmps[x]?:=by
 cases d with
 | none=>rfl
 | some d=>simp[Act.put,Array.getElem?_setIfInBounds];intro e;exact absurd (by rw[e]) h
def Fg(a:Act)(d:Nat)(u:Value)(h:d<a.tmps.size):(a.put (some d) u).tmps[d]?=some u:=by simp[Act.put,h]
def UJ(a:Act)(d:Option Tmp)(u:Value):(a.put d u).defers=a.defers:=by cases d<;>rfl
def Xv(a:Act)(d:Option Tmp)(u:Value):(a.put d u).tmps.size=a.tmps.size:=by cases d<;>simp[Act.put]
def Inv.next[pq](h:Inv Wb okb W0 ok0 ds nt β a w σ){M:List Loc}(m:Dc W0 ok0 β w W1 ok1 β' w' M){wr:List (Loc×AV)}{d:Option Tmp}{u:Value}
 (hM:∀x∈M,x∈wr.map (·.1)) (hd:∀x,d=some x->(0,x)∈wr.map (·.1))
 (hw:∀x v,(x,v)∈wr->x.1≠1000001->EH β' (okB W1.heap.size ok1 β') (a.put d u) w' x v) (hv:qp Wb okb W1 ok1 β' (wr++σ)):Inv Wb okb W1 ok1 ds nt β' (a.put d u) w' (wr++σ) where
 gr:=m.gr
 new:=m.new
 inj:=m.inj
 dom k b e:=by
  refine get_mono _ _ _ ?_;rcases m.fresh k b e with e|e
  .exact .inl (h.dom k b e)
  .exact .inr (hM _ e)
 rep x v hne c:=by
  rcases get_append _ _ _ _ c with c|⟨c,i⟩
  .exact hw x v c hne
  .have j:=h.rep x v hne c;obtain⟨k,q⟩:=x
   cases k with
   | zero =>
    obtain⟨u2,f,g⟩:=j;refine⟨u2,(UL a d u q ?_).trans f,iZ.keep m.keep m.sub _ _ g⟩;intro e;exact i (hd q e)
   | succ k =>
    obtain⟨b,u2,y,f,g,o,p,r⟩:=j;obtain⟨l,n⟩:=m.own k b q f (λe=>i (hM _ e));exact⟨b,u2,y,m.sub _ _ f,g,l.trans o,n.trans p,jm.keep m.keep m.sub _ _ r⟩
 XU:=(UJ a d u).trans h.XU
 sz:=(Xv a d u).trans h.sz
 nk:=m.nk
 FK:=hv
def get_skip:∀(l σ:St) (x:Loc),x ∉ l.map (·.1)->get (l++σ) x=get σ x
 | [],σ,x,h=>rfl
 | (k,u)::l,σ,x,h=>by simp only[qb7,xb,not_or]at h;simp only[qd2,get];rw[if_neg (λe=>h.1 e.symm)];exact get_skip l σ x h.2
def qp.congr[pq]{σ':St}(h:qp Wb okb W0 ok0 β σ)(e:∀q,get σ' (1000001,q)=get σ (1000001,q)):qp Wb okb W0 ok0 β σ':=by unfold qp at *;simp only[e];exact h
def qp.skip[pq]{l:St}(h:qp Wb okb W0 ok0 β σ)(e:∀x∈l.map (·.1),x.1≠1000001):qp Wb okb W0 ok0 β (l++σ):=h.congr λq=>get_skip _ _ _ λa=>e _ a rfl
def PI(ok:Nat->Prop)(w:World)(v:Value):fI ok w (dV v) v:=by
 unfold dV;split
 .exact fI.s (n:=0) (es:=[]) (λ_ _=>undef) (qv _) (kB _) ot ot ot (λ_=>⟨rfl,rfl⟩)
 .exact .v v
def F8(β:Nat->Option Nat)(ok:Nat->Prop)(w:World)(v:Value):gm β ok w (ofV v) v:=by
 unfold ofV;split
 .rename_i cs;refine⟨cs.toList,ot,dU.of ot (λi x u a b=>?_)⟩;simp only[qb6,km]at a;obtain⟨y,c,rfl⟩:=a;rw[c]at b;obtain rfl:y=u:=by simpa using b
  exact PI ok w y
 .exact PI ok w v
def ET{ok:Nat->Prop}{x:Operand}{v:AV}(h:tC σ x=some v)(e:∀t,x =.tmp t->∀v,get σ (0,t)=some v->EH β ok a w (0,t) v):iZ β ok w v (a.eval x):=by
 cases x with
 | tmp t =>
  obtain⟨u,b,d⟩:=e t rfl v h;have : a.eval (.tmp t)=u:=by simp[Act.eval,yi,b]
  rw[this];exact d
 | const c =>
  simp only[tC,qk]at h;subst h;exact F8 β ok w c
 | global g=>cases h
 | func f =>
  simp only[tC,qk]at h;subst h;exact fI.v _
end
section
variable {P:Program}{β:Nat->Option Nat}{ok:Nat->Prop}{a:Act}{w:World}{σ:St}
def bW{x v:Value}(h:fI ok w (.v x) v):v=x:=by cases h;rfl
def Rv{n:Nat}{es:List (List D)}{a:Option Addr}{l c:Nat}(h:fI ok w (.s n es) (.slice a l c))(b:n=0):a=none/\c=0:=by
 cases h with
 | s U f g d e i hz=>exact hz b
def fH{n:Nat}{es:List (List D)}{v:Value}(h:fI ok w (.s n es) v):∃(a:Option Addr) (c:Nat) (U:Nat->Nat->Value),v =.slice a es.length c/\es.length<=c/\es.length<=maxLen/\(∀(i:Nat) (r:List D),es[i]?=some r->r.length=n) /\
 (∀(i:Nat) (r:List D) (j:Nat) (x:D),es[i]?=some r->r[j]?=some x->(∃b o,a=some ⟨b,o,none⟩/\ok b/\w.cell? ⟨b,o+(i*n+j),none⟩=some (U i j))/\fI ok w x (U i j)):=by
 cases h with
 | s U g k l f m hz=>exact⟨_,_,U,rfl,g,k,l,λi r j x d e=>⟨f i r j x d e,m i r j x d e⟩⟩
def add_eq(b o j:Nat):(⟨b,o,none⟩:Addr).add j=⟨b,o+j,none⟩:=by
 unfold Addr.add
 by_cases h:j=0
 .subst h;rfl
 .rw[if_neg h]
def nV{x:Operand}{j:Nat}(h:CV σ x=some j)(b:∀v,tC σ x=some v->iZ β ok w v (a.eval x)):a.eval x =.i j:=by
 unfold CV at h;split at h
 .rename_i k e;simp only[qk]at h;subst h;exact bW (b _ e)
 .cases h
def Bb{α:Type} : ∀(n:Nat) (l r:List α),xw n l=some r->n<=l.length/\r=l.drop n
 | 0,l,r,h=>by simp only[xw,qk]at h;simp[h]
 | n+1,x::l,r,h=>by obtain⟨b,a⟩:=Bb n l r h;exact⟨oB,by simpa using a⟩
 | n+1,[],r,h=>by cases h
def Ct{α:Type} : ∀(n:Nat) (l r:List α),nH n l=some r->n<=l.length/\r=l.take n
 | 0,l,r,h=>by simp only[nH,qk]at h;simp[<-h]
 | n+1,x::l,r,h=>by simp only[nH,km]at h;obtain⟨y,h,rfl⟩:=h;obtain⟨b,a⟩:=Ct n l y h;exact⟨oB,by simp[a]⟩
 | n+1,[],r,h=>by cases h
def vJ{α:Type}{l:List α}{n i:Nat}{x:α}(h:(l.take n)[i]?=some x):l[i]?=some x:=by
 rw[qc5]at h;split at h
 .exact h
 .cases h
def LY{n:Nat}{es:List (List D)}{m:Option Addr}{q c:Nat}(h:fI ok w (.s n es) (.slice m q c))(l d:Nat)(H:l<=d)(F:d<=es.length) :
 fI ok w (.s n ((es.take d).drop l)) (.slice (if c=l then m else m.map (·.add (l*n))) (d - l) (c - l)):=by
 obtain⟨u,C,U,e,E,I,z,t⟩:=fH h;simp only[ke]at e;obtain⟨rfl,rfl,rfl⟩:=e;have g:((es.take d).drop l).length=d - l:=oB
 have a:∀(i:Nat) (r:List D),((es.take d).drop l)[i]?=some r->es[l+i]?=some r:=λi r e=>by
  rw[jb4,qc5]at e;split at e
  .exact e
  .cases e
 rw[<-g];refine .s (λi j=>U (l+i) j) od od (λi r e=>z _ r (a i r e)) (λi r j x k p=>?_) (λi r j x k p=>(t _ r j x (a i r k) p).2) (λv=>by obtain⟨A,B⟩:=Rv h v;subst A;subst B;exact⟨by split<;>rfl,od⟩);obtain⟨⟨b,o,rfl,y,f⟩,_⟩:=t _ r j x (a i r k) p;have G:l+i<es.length:=(jj.1 (a i r k)).1;refine⟨b,o+l*n,?_,y,?_⟩
 .rw[oa,qg6,add_eq]
 .rw[<-f];congr 2;rw[jb0];omega
def E9{g:Bool}{xs:List X}{v:AV}{vs:List Value}(h:mkA g xs=some v)(a:dU (jm β ok w) xs vs):∃u,iZ β ok w v u/\(g=true->u =.agg vs.toArray)/\(g=false->vs=[u]):=by
 cases g with
 | true =>
  simp only[mkA,qk]at h;subst h;exact⟨.agg vs.toArray,⟨vs,rfl,a⟩,λ_=>rfl,ot⟩
 | false =>
  match xs,vs,h,a with
  | [x],[u],h,a =>
   simp only[mkA,qk]at h;subst h;exact⟨u,a.1,ot,λ_=>rfl⟩
def zu{t:TypeId}{d:TypeDesc}(h:P.underlying t=some d):(isAgg t).run P w =.ok (aggB d) w:=by unfold isAgg;rw[qa3,qc3 h];cases d<;>rfl
def run_sizeOf{t:TypeId}{i:TypeInfo}(h:P.info? t=some i):(sizeOf t).run P w =.ok i.size w:=by unfold sizeOf;rw[qa3,run_typeInfo _ h];rfl
def dU.cut{α:Type}{R:α->Value->Prop}{xs:List α}{vs:List Value}(h:dU R xs vs)(o n:Nat):dU R ((xs.drop o).take n) ((vs.drop o).take n):=by
 refine dU.of (by simp[h.length]) (λi x v b a=>?_);simp only[qc5,jb4]at b a;split at b
 .rename_i c;rw[if_pos c]at a;obtain⟨u,e,d⟩:=h.get _ _ b;rw[e]at a;simp only[qk]at a;exact a ▸ d
 .cases b
def uJ{t:TypeId}{d:TypeDesc}{i:TypeInfo}{b q:Nat}{vs:List Value}{u:Value}(g:P.underlying t=some d)(hi:P.info? t=some i)(f:vs.length=i.size)
 (hc:∀(j:Nat) (v:Value),vs[j]?=some v->w.cell? ⟨b,q+j,none⟩=some v) (h1:aggB d=true->u =.agg vs.toArray) (h2:aggB d=false->vs=[u]):(loadVar t ⟨b,q,none⟩).run P w =.ok u w:=by
 unfold loadVar;rw[qa3,zu g]
 cases c:aggB d with
 | true =>
  simp only[Result.andThen,if_true];rw[qa3,run_sizeOf hi];simp only[Result.andThen];rw[qa3,<-f,run_loadCells_list w ⟨b,q,none⟩ vs (λj v e=>by rw[add_eq];exact hc j v e)];simp[Result.andThen,h1 c]
 | false =>
  have:=h2 c;subst this;have a:=hc 0 u rfl;rw[qc0]at a;simp[Result.andThen,a]
def splice_get:∀(vs:List Value) (k a:Nat) (cs:Array Value),a+k+vs.length<=cs.size->((vs.zipIdx k).foldl (λcs (c,j)=>cs.setIfInBounds (a+j) c) cs).size=cs.size /\
 ∀i,((vs.zipIdx k).foldl (λcs (c,j)=>cs.setIfInBounds (a+j) c) cs)[i]?=if a+k<=i/\i<a+k+vs.length then vs[i - (a+k)]? else cs[i]?
 | [],k,a,cs,h=>⟨rfl,λi=>by simp[show ¬(a+k<=i/\i<a+k) by omega]⟩
 | v::vs,k,a,cs,h=>by
  simp only[jn]at h;obtain⟨d,f⟩:=splice_get vs (k+1) a (cs.setIfInBounds (a+k) v) oB;rw[List.zipIdx_cons,List.foldl_cons];refine⟨by rw[d];simp,λi=>?_⟩;rw[f i];simp only[jn,Array.getElem?_setIfInBounds]
  by_cases e:a+k=i
  .subst e;rw[oa,if_pos rfl,oc,oc];simp
  .rw[if_neg e]
   by_cases b:a+(k+1)<=i/\i<a+(k+1)+vs.length
   .rw[if_pos b,oc,show i - (a+k)=(i - (a+(k+1)))+1 by omega,yd]
   .rw[if_neg b,oa]
def jE{x:X}{v:Value}(h:jm β ok w x v)(g:x.plain=true):v.oneCell'=true:=by
 cases x with
 | d y =>
  cases y with
  | v z=>have:=bW h;subst this;revert g;cases v<;>simp[X.plain,Value.oneCell']
  | s n c=>obtain⟨_,_,_,e,_⟩:=fH h;subst e;rfl
  | t=>cases (h:fI ok w .t v)with|t _ h=>exact h
 | p k o=>obtain⟨b,_,e⟩:=h;subst e;rfl
 | e cs o=>obtain⟨b,q,e,_⟩:=h;subst e;rfl
 | f n c=>obtain⟨a,e,_⟩:=h;subst e;rfl
def jm.soft{x:X}{v:Value}(h:jm β ok w x v):jm β ok w x.soft v:=by
 cases x with
 | f n a=>exact h.choose_spec.2
 | _=>exact h
def dU.soft:∀{xs:List X}{vs:List Value},dU (jm β ok w) xs vs->dU (jm β ok w) (xs.map X.soft) vs
 | [],[],_=>trivial
 | x::xs,v::vs,⟨a,b⟩=>⟨jm.soft a,dU.soft b⟩
def gm.cells{x:A1}{v:Value}(h:gm β ok w x v)(b:x.xs.all X.plain=true):dU (jm β ok w) x.xs v.cells.toList:=by
 cases x with
 | one y =>
  have a:=jE h (by simpa[A1.xs]using b);have : v.cells=#[v]:=by cases v<;>first|rfl|cases a
  rw[this];exact⟨h,trivial⟩
 | agg e =>
  obtain⟨d,rfl,c⟩:=h;simpa[A1.xs,Value.cells]using c
def dU.splice{α:Type}{R:α->Value->Prop}{xs ys:List α}{vs us:List Value}{d:Array Value}(h:dU R xs vs)(k:dU R ys us)(a:Nat)(m:a+ys.length<=xs.length)(l:d.size=vs.length)
 (hr:∀i:Nat,d[i]?=if a<=i/\i<a+us.length then us[i - a]? else vs[i]?):dU R (xs.take a++(ys++xs.drop (a+ys.length))) d.toList:=by
 have o:=h.length;have n:=k.length;refine dU.of (by simp[l];omega) (λi x v c b=>?_);rw[qe6,hr i]at b;simp only[List.getElem?_append,qf6,qc5,jb4]at c;rw[Nat.min_eq_left od]at c
 by_cases g:i<a
 .rw[if_pos g,if_pos g]at c;rw[oa]at b;obtain⟨u,e,f⟩:=h.get _ _ c;rw[e]at b;simp only[qk]at b;exact b ▸ f
 .rw[if_neg g]at c
  by_cases j:i - a<ys.length
  .rw[if_pos j]at c;rw[oc]at b;obtain⟨u,e,f⟩:=k.get _ _ c;rw[e]at b;simp only[qk]at b;exact b ▸ f
  .rw[if_neg j,show a+ys.length+(i - a - ys.length)=i by omega]at c;rw[oa]at b;obtain⟨u,e,f⟩:=h.get _ _ c;rw[e]at b;simp only[qk]at b;exact b ▸ f
def WN (β:Nat->Option Nat) (ok:Nat->Prop) (w:World):List (Nat×List X)->List (Nat×Value)->Prop
 | [],[]=>True
 | (i,ys)::r,(j,v)::s=>i=j/\dU (jm β ok w) ys v.cells.toList/\WN β ok w r s
 | _,_=>False
def Be(a:Nat->Option (Nat×Nat)):∀(ps:List (Nat×List X)) (vs:List (Nat×Value)) (xs b:List X) (cs:Array Value),WN β ok w ps vs->dU (jm β ok w) xs cs.toList->xB a xs ps=some b->∃c,Instr.fill a cs vs=some c/\dU (jm β ok w) b c.toList
 | [],[],xs,b,cs,_,f,h=>by simp only[xB,qk]at h;subst h;exact⟨cs,rfl,f⟩
 | (i,A)::r,(j,v)::s,xs,b,cs,⟨e,k,x⟩,f,h=>by
  subst e;simp only[xB]at h;split at h
  .cases h
  .rename_i d l e;split at h
   .rename_i q;obtain⟨z,p⟩:=q;have u:=f.length;have t:=k.length;simp only[qh7]at u t;obtain⟨y,m⟩:=splice_get v.cells.toList 0 d cs oB;simp only[qc0]at m;have g:=dU.splice f k d p (by rw[y];simp) (λi=>by rw[m i];simp);obtain⟨c,n,o⟩:=Be a r s _ b _ x g h;refine⟨c,?_,o⟩;unfold Instr.fill;rw[e];simp only;rw[if_neg oB,<-n]
    congr 1
    rw[<-Array.foldl_toList,Array.toList_zipIdx]
   .cases h
def partsO_rep:∀(b:List (Nat×Operand)) (ps:List (Nat×List X)),Pg σ b=some ps->(∀x∈b.map (·.2),∀v,tC σ x=some v->iZ β ok w v (a.eval x))->WN β ok w ps (b.map λ(i,x)=>(i,a.eval x))
 | [],ps,h,_=>by simp only[Pg,qk]at h;subst h;trivial
 | (i,x)::r,ps,h,H=>by
  simp only[Pg]at h;split at h
  .rename_i y e;split at h
   .rename_i d;simp only[km]at h;obtain⟨f,h,rfl⟩:=h;exact⟨rfl,dU.soft (gm.cells (H x ot _ e) d),partsO_rep r f h (λz c=>H z (by simp at c|-;exact .inr c))⟩
   .cases h
  .cases h
end
section
variable {P:Program}{β:Nat->Option Nat}{ok:Nat->Prop}{a:Act}{w:World}{σ:St}{o:Oper}{v:AV}
abbrev Does (P:Program) (β:Nat->Option Nat) (ok:Nat->Prop) (a:Act) (w:World) (o:Oper) (v:AV):Prop:=∃u,(execOp a.eval o).run P w =.ok (.value u) w/\iZ β ok w v u
abbrev CK (β:Nat->Option Nat) (ok:Nat->Prop) (a:Act) (w:World) (σ:St) (o:Oper):Prop:=∀x∈o.op.operands.toList,∀v,tC σ x=some v->iZ β ok w v (a.eval x)
def Re{x:Operand}(b:o.op =.move x\/o.op =.assign x)(h:tC σ x=some v)(H:CK β ok a w σ o):Does P β ok a w o v:=by
 rcases b with b|b
 .exact⟨a.eval x,by simp[execOp,b],H x (by simp[b,Op.operands]) _ h⟩
 .exact⟨a.eval x,by simp[execOp,b],H x (by simp[b,Op.operands]) _ h⟩
def Xu{c x y:Operand}(b:o.op =.pick c x y)(h:fV P σ o.op=some v)(H:CK β ok a w σ o):Does P β ok a w o v:=by
 simp only[b,fV]at h;split at h
 .rename_i e;have d:=bW (H c (by simp[b,Op.operands]) _ e);exact⟨a.eval x,by simp[execOp,b,d,asBool],H x (by simp[b,Op.operands]) _ h⟩
 .rename_i e;have d:=bW (H c (by simp[b,Op.operands]) _ e);exact⟨a.eval y,by simp[execOp,b,d,asBool],H y (by simp[b,Op.operands]) _ h⟩
 .cases h
def Ht{s:TypeId}{x:Operand}{f:Nat}(j:o.op =.fieldAddr s x f)(h:fV P σ o.op=some v)(H:CK β ok a w σ o):Does P β ok a w o v:=by
 simp only[j,fV]at h;split at h<;>try (cases h;done)
 rename_i z u;split at h<;>try (cases h;done)
 rename_i n r;split at h<;>try (cases h;done)
 rename_i i t;split at h
 .cases h
 rename_i y;have l:=H x (by simp[j,Op.operands]);have c:∀b q,a.eval x =.pointer (some ⟨b,q,none⟩)->(execOp a.eval o).run P w =.ok (.value (.pointer (some ⟨b,q+n.offset,none⟩))) w:=λb q e=>by simp[execOp,j,Instr.fieldAt,qc3 u,Result.andThen,r,e,Instr.sureAddr,fieldPlace,run_sizeOf t,y,add_eq]
 split at h<;>try (cases h;done)
 .rename_i k q e;obtain⟨b,g,d⟩:=l _ e;simp only[qk]at h;subst h;exact⟨_,c b q d,b,g,rfl⟩
 .rename_i cs q e;obtain⟨b,m,d,g,p⟩:=l _ e;simp only[qk]at h;subst h;exact⟨_,c b (m+q) d,b,m,by rw[qe0],g,p⟩
def Hu{t:TypeId}{x y:Operand}(g:o.op =.indexAddr t x y)(h:fV P σ o.op=some v)(H:CK β ok a w σ o):Does P β ok a w o v:=by
 simp only[g,fV]at h;have E:=H x (by simp[g,Op.operands]);have F:=H y (by simp[g,Op.operands]);split at h<;>try (cases h;done)
 .rename_i J j C B;have p:=nV B F;split at h<;>try (cases h;done)
  rename_i l n K A e;unfold Bp at h;split at h<;>try (cases h;done)
  rename_i c r s;split at h<;>try (cases h;done)
  rename_i M;simp only[qk]at h;subst h;obtain⟨R,T,U,m,V,X,W,d⟩:=fH (E _ e);obtain⟨⟨b,q,rfl,u,G⟩,Z⟩:=d j _ 0 c s rfl;have f:j<K.length:=(jj.1 s).1;refine⟨.pointer (some ⟨b,q+j*n,none⟩),?_,b,q+j*n,rfl,⟨u,kd w _ G⟩,λi z N=>?_⟩
  .simp[execOp,g,Instr.indexAt,p,asIntOf,qc3 C,Result.andThen,m,run_sizeOf A,add_eq,M,f]
  .obtain⟨⟨S,Y,D,L,I⟩,Q⟩:=d j _ i z s N;simp only[qk,qb2,and_true]at D;obtain⟨rfl,rfl⟩:=D;exact⟨_,by rw[qe0];exact I,Q⟩
 .rename_i O J j C B;have p:=nV B F;split at h<;>try (cases h;done)
  rename_i l k q A e;split at h<;>try (cases h;done)
  rename_i f;simp only[qk]at h;subst h;obtain⟨b,u,m⟩:=E _ e;refine⟨.pointer (some ⟨b,q+j*l.size,none⟩),?_,b,u,rfl⟩;simp[execOp,g,Instr.indexAt,p,asIntOf,qc3 C,Result.andThen,m,Instr.sureAddr,run_sizeOf A,add_eq,f]
def vH{y:Operand}{j c:Nat}{code:BoundsCode}(h:a.eval y =.i j)(b:j<=c):(Instr.sliceBound (a.eval y) c code).run P w =.ok j w:=by simp[Instr.sliceBound,h,asIntOf,b]
def UG{t:TypeId}{x:Operand}{i hi:Option Operand}(k:o.op =.slice t x i hi none)(h:fV P σ o.op=some v)(H:CK β ok a w σ o):Does P β ok a w o v:=by
 simp only[k,fV]at h;have J:=H x (by simp[k,Op.operands]);split at h<;>try (cases h;done)
 rename_i M n q I e;split at h<;>try (cases h;done)
 rename_i L p;split at h<;>try (cases h;done)
 rename_i T;obtain⟨G,s,U,u,O,S,R,B⟩:=fH (J _ e);have c:=J _ e;rw[u]at c;have D:∀l,(match i with|none=>some 0|some y=>CV σ y)=some l->∀b ,l<=b->((match i.map a.eval with|some v=>Instr.sliceBound v b .sliceB|none=>pure 0:Sem Nat)).run P w =.ok l w:=λl d b g=>by
  cases i with
  | none=>simp only[qk]at d;subst d;rfl
  | some y=>exact vH (nV d (H y (by simp[k,Op.operands]))) g
 have run:∀l b,(match i with|none=>some 0|some y=>CV σ y)=some l->l<=b->b<=q.length->(hi=none/\b=q.length\/∃y,hi=some y/\CV σ y=some b) ->
  (execOp a.eval o).run P w =.ok (.value (.slice (if s=l then G else G.map (·.add (l*n))) (b - l) (s - l))) w:=λl b d g Q f=>by
  have N:=D l d b g;rcases f with⟨rfl,rfl⟩|⟨y,rfl,K⟩
  .simp only[execOp,k,qa3,Instr.sliceAt,qc3 I,Result.andThen,Instr.slice,u,Instr.sliceBounds,Option.map_none,je0];cases i<;>simp_all [run_sizeOf p,Result.andThen]
  .have A:=vH (P:=P) (w:=w) (code:=.sliceAcap) (nV K (H y (by simp[k,Op.operands]))) (show b<=s by omega);simp only[execOp,k,qa3,Instr.sliceAt,qc3 I,Result.andThen,Instr.slice,u,Instr.sliceBounds,Option.map_none,qg6,je0,if_true,A];cases i<;>simp_all [run_sizeOf p,Result.andThen]
 unfold qA at h;split at h<;>try (cases h;done)
 .rename_i l d m;simp only[km]at h;obtain⟨r,E,rfl⟩:=h;obtain⟨j,rfl⟩:=Bb _ _ _ E;have C:hi=none:=by
   cases hi with
   | none=>rfl
   | some y=>simp[km]at m
  refine⟨_,run l q.length d j (qv _) (.inl ⟨C,rfl⟩),?_⟩;have:=LY c l q.length j (qv _);rw[qe2]at this;exact this
 .rename_i l b d m;simp only[km,qg2]at h;obtain⟨r,⟨V,E,F⟩,rfl⟩:=h;obtain⟨j,rfl⟩:=Ct _ _ _ E;obtain⟨z,rfl⟩:=Bb _ _ _ F;rw[qf6,Nat.min_eq_left j]at z
  cases hi with
  | none=>simp at m
  | some y =>
   simp only[km,qk,exists_eq_right]at m;exact⟨_,run l b d z j (.inr ⟨y,rfl,m⟩),LY c l b z j⟩
def Rf{t:TypeId}{x y z:Operand}(l:o.op =.slice t x none (some y) (some z))(h:fV P σ o.op=some v)(H:CK β ok a w σ o):Does P β ok a w o v:=by
 simp only[l,fV]at h;have G:=H x (by simp[l,Op.operands]);split at h<;>try (cases h;done)
 rename_i Q n A d m O e J K;split at h<;>try (cases h;done)
 rename_i p E;split at h<;>try (cases h;done)
 rename_i N;obtain⟨rfl,rfl⟩:=N;simp only[km]at h;obtain⟨r,F,rfl⟩:=h;obtain⟨R,rfl⟩:=Ct _ _ _ F;obtain⟨g,I,U,k,S,T,M,c⟩:=fH (G _ e);have f:=G _ e;rw[k]at f;have C:=vH (P:=P) (w:=w) (code:=.slice3Acap) (nV K (H z (by simp[l,Op.operands]))) (show d<=I by omega);have D:=vH (P:=P) (w:=w) (code:=.slice3B) (nV J (H y (by simp[l,Op.operands]))) (qv d);have b:(A.take d).length=d:=vi
 have B:(if d=0 then g else g.map (·.add (0*p.size)))=g:=by
  split
  .rfl
  .cases g with
   | none=>rfl
   | some q=>simp[Addr.add]
 refine⟨.slice g d d,?_,g,by rw[b],?_⟩
 .simp only[execOp,l,qa3,Instr.sliceAt,qc3 O,Result.andThen,Instr.slice,k,Instr.sliceBounds,Option.map_none,qg6,je0,if_true,C,D,run_sizeOf E,B,Nat.sub_zero]
 .have : fI ok w (.s p.size (A.take d)) (.slice g (A.take d).length d):=by
   refine .s U (by rw[b];exact qv _) (by rw[b];omega) (λi r F=>M i r (vJ F)) (λi r j x u k=>(c i r j x (vJ u) k).1) (λi r j x u k=>(c i r j x (vJ u) k).2) (λL=>?_);have:=Rv f L;exact⟨this.1,od⟩
  rw[b]at this;exact this
def UF{t:TypeId}{x:Operand}{f:Nat}(c:o.op =.field t x f)(h:fV P σ o.op=some v)(H:CK β ok a w σ o):Does P β ok a w o v:=by
 simp only[c,fV]at h;have A:=H x (by simp[c,Op.operands]);split at h<;>try (cases h;done)
 rename_i C F m e;split at h<;>try (cases h;done)
 rename_i j k;split at h<;>try (cases h;done)
 rename_i d i n z;split at h<;>try (cases h;done)
 rename_i D;obtain⟨B,g,l⟩:=A _ e;obtain⟨u,p,q,r⟩:=E9 h (l.cut j.offset i.size);refine⟨u,?_,p⟩;have E:=l.length
 cases b:aggB d with
 | true =>
  rw[q b];simp[execOp,c,Instr.field,qc3 m,Result.andThen,k,g,asAgg,part,zu n,b,run_sizeOf z]
 | false =>
  have s:=r b;have y:B[j.offset]?=some u:=by have:=congrArg (·[0]?) s;simp[qc5,jb4]at this;exact this.2
  simp[execOp,c,Instr.field,qc3 m,Result.andThen,k,g,asAgg,part,zu n,b,y]
def N7{x:Operand}{i:Nat}(b:o.op =.extract x i)(h:fV P σ o.op=some v)(H:CK β ok a w σ o):Does P β ok a w o v:=by
 simp only[b,fV]at h;have j:=H x (by simp[b,Op.operands]);split at h<;>try (cases h;done)
 rename_i l e;simp only[km]at h;obtain⟨y,k,rfl⟩:=h;obtain⟨m,c,f⟩:=j _ e;obtain⟨u,d,g⟩:=f.get _ _ k;exact⟨u,by simp[execOp,b,Instr.extract,c,d],g⟩
def UD{op:BinOp}{t p:TypeId}{x y:Operand}(c:o.op =.binOp op t x y p)(h:fV P σ o.op=some v)(H:CK β ok a w σ o):Does P β ok a w o v:=by
 simp only[c,fV]at h;split at h<;>try (cases h;done)
 .rename_i m n d e;have f:=bW (H x (by simp[c,Op.operands]) _ d);have g:=bW (H y (by simp[c,Op.operands]) _ e);have j:(eqGuard op t x y (.i m) (.i n)).run P w =.ok () w:=by cases op<;>rfl
  have b:∀u,(binOp op t (.i m) (.i n)).run P w =.ok u w->(execOp a.eval o).run P w =.ok (.value u) w:=λu l=>by simp[execOp,c,f,g,j,l,Result.andThen]
  cases op<;>simp only[cmpO,qk]at h<;>try (cases h;done)
  all_goals
   subst h;refine⟨_,b _ ?_,fI.v _⟩;simp[binOp,Op.intCmp,Op.intArith]
  all_goals rfl
 .rename_i m n d e;have f:=bW (H x (by simp[c,Op.operands]) _ d);have g:=bW (H y (by simp[c,Op.operands]) _ e);have b:∀u,(eqGuard op t x y (.string m) (.string n)).run P w =.ok () w->(binOp op t (.string m) (.string n)).run P w =.ok u w->(execOp a.eval o).run P w =.ok (.value u) w:=λu j l=>by
   simp[execOp,c,f,g,j,l,Result.andThen]
  split at h<;>try (cases h;done)
  .split at h<;>try (cases h;done)
   rename_i q;simp only[qk]at h;subst h;have k:¬(((m.size+n.size:Nat):Int) > IntKind.i64.max):=by rw[show IntKind.i64.max=9223372036854775807 by rfl];omega
   refine⟨_,b _ rfl ?_,fI.v _⟩;show (Op.stringOp .add m n).run P w=_;simp only[Op.stringOp,if_neg k];rfl
  all_goals
   simp only[qk]at h;subst h;exact⟨_,b _ rfl rfl,fI.v _⟩
def YD{t:TypeId}{x:Operand}(c:o.op =.unOp .not t x)(h:fV P σ o.op=some v)(H:CK β ok a w σ o):Does P β ok a w o v:=by
 simp only[c,fV]at h;split at h<;>try (cases h;done)
 rename_i b e;have d:=bW (H x (by simp[c,Op.operands]) _ e);simp only[qk]at h;subst h;exact⟨.bool !b,by simp[execOp,c,d,Op.unary],fI.v _⟩
def J8{x:Operand}(c:o.op =.nilCheck x)(h:fV P σ o.op=some v)(H:CK β ok a w σ o):Does P β ok a w o v:=by
 simp only[c,fV]at h;split at h<;>try (cases h;done)
 .rename_i k q e;obtain⟨b,f,d⟩:=H x (by simp[c,Op.operands]) _ e;simp only[qk]at h;subst h;exact⟨_,by simp[execOp,c,d],b,f,rfl⟩
 .rename_i cs q e;obtain⟨b,g,d,f⟩:=H x (by simp[c,Op.operands]) _ e;simp only[qk]at h;subst h;exact⟨_,by simp[execOp,c,d],b,g,rfl,f⟩
def YC{args:Array Operand}{ts:Array TypeId}(g:o.op =.call ⟨.builtin .len,args,ts⟩)(h:fV P σ o.op=some v)(H:CK β ok a w σ o):Does P β ok a w o v:=by
 simp only[g,fV]at h;split at h<;>try (cases h;done)
 .rename_i x q b l;split at h<;>try (cases h;done)
  rename_i n m e;simp only[qk]at h;subst h;have k:args=#[x]:=by rw[<-b]
  subst k;obtain⟨p,c,U,j,_⟩:=fH (H x (by simp[g,Op.operands,Call.operands]) _ e);obtain⟨t,d,f⟩:=qg2.1 l;refine⟨.i m.length,?_,fI.v _⟩;simp[execOp,g,resolve,invoke,builtin,Builtin.len_,d,j,qc3 f,Result.andThen,goInt]
 .rename_i x b l;split at h<;>try (cases h;done)
  rename_i n e;simp only[qk]at h;subst h;have k:args=#[x]:=by rw[<-b]
  subst k;have j:=bW (H x (by simp[g,Op.operands,Call.operands]) _ e);obtain⟨t,d,f⟩:=qg2.1 l;refine⟨.i n.size,?_,fI.v _⟩;simp[execOp,g,resolve,invoke,builtin,Builtin.len_,d,j,qc3 f,Result.andThen,goInt]
def run_places:∀(a:List Field),a.all (λf=>(P.info? f.type).isSome)=true->(a.mapM (m:=Sem) λf=>do pure (f.offset,<-sizeOf f.type)).run P w =.ok (a.map λf=>(f.offset,((P.info? f.type).map (·.size)).getD 0)) w
 | [],_=>rfl
 | f::a,h=>by simp only[xf,qu]at h;obtain⟨i,b⟩:=ja2.1 h.1;rw[jf4,qa3,qa3,run_sizeOf b];simp only[Result.andThen,je0];rw[qa3,run_places a h.2];simp[Result.andThen,b]
def yK{z:Value} : dU (jm β ok w) (ofV z).xs z.cells.toList:=by
 have h:=F8 β ok w z;unfold ofV at h|-;split at h
 .obtain⟨c,e,b⟩:=h;simp only[qb3]at e;subst e;simpa[A1.xs,Value.cells]using b
 .rename_i a;have : z.cells=#[z]:=by cases z<;>first|rfl|exact absurd rfl (a _)
  rw[this];exact⟨h,trivial⟩
def UE{t:TypeId}{b:Array (Nat×Operand)}(k:o.op =.build t b)(h:fV P σ o.op=some v)(H:CK β ok a w σ o):Does P β ok a w o v:=by
 simp only[k,fV]at h;split at h<;>try (cases h;done)
 rename_i d z B A hz y;split at h<;>try (cases h;done)
 rename_i c;simp only[km]at h;obtain⟨C,g,rfl⟩:=h;obtain⟨i,s,n⟩:=qg2.1 hz;have m:=partsO_rep (a:=a) (β:=β) (ok:=ok) (w:=w) _ _ y (λx g=>H x (by simp[k,Op.operands]at g|-;exact g));obtain⟨cs,q,r⟩:=Be _ _ _ _ _ _ m yK g;refine⟨.agg cs,?_,cs.toList,ot,r⟩;have p:(zeroValue t).run P w =.ok z w:=by unfold zeroValue;rw[qa3,run_typeInfo _ s];simp[Result.andThen,n]
 have l:(λ(i:Nat)=>(d[i]?).bind λ(f:Field)=>(P.info? f.type).map λj=>(f.offset,j.size))=λ(i:Nat)=>((d.toList.map λ(f:Field)=>(f.offset,((P.info? f.type).map (·.size)).getD 0)).toArray)[i]?:=by
  funext i
  simp only[List.getElem?_toArray,qb6,qe6]
  cases e:d[i]? with
  | none=>rfl
  | some f =>
   have : f∈d.toList:=by rw[Array.mem_toList_iff];exact Array.mem_of_getElem? e
   obtain⟨j,u⟩:=ja2.1 (zr.1 c f this);simp[u]
 rw[l]at q;simp only[execOp,k,qa3,Instr.build,p,Result.andThen,qc3 A,Array.mapM_eq_mapM_toList,Sem.run_map,run_places d.toList c];simp only[Array.toList_map];rw[show (List.map (λx=>(x.1,a.eval x.2)) b.toList)=(b.toList.map λ(i,x)=>(i,a.eval x)) from rfl,q];rfl
def BU(h:fV P σ o.op=some v)(H:CK β ok a w σ o):Does P β ok a w o v:=by
 cases d:o.op with
 | move x=>exact Re (.inl d) (by simpa[d,fV]using h) H
 | assign x=>exact Re (.inr d) (by simpa[d,fV]using h) H
 | pick c x y=>exact Xu d h H
 | fieldAddr s x f=>exact Ht d h H
 | indexAddr t x y=>exact Hu d h H
 | slice t x n k p =>
  cases p with
  | none=>exact UG d h H
  | some m =>
   cases n with
   | none =>
    cases k with
    | none=>simp[d,fV]at h
    | some y=>exact Rf d h H
   | some l=>simp[d,fV]at h
 | field t x f=>exact UF d h H
 | extract x i=>exact N7 d h H
 | binOp op t x y q=>exact UD d h H
 | unOp op t x=>cases op<;>first|exact YD d h H|simp[d,fV]at h
 | nilCheck x=>exact J8 d h H
 | build t e=>exact UE d h H
 | call c =>
  obtain⟨j,g,r⟩:=c
  cases j with
  | builtin b=>cases b<;>first|exact YC d h H|simp[d,fV]at h
  | _=>simp[d,fV]at h
 | _=>simp[d,fV]at h
end
abbrev Tx (P:Program) (f:FuncId) (args:List A1) (res:AV):Prop:=∀(ok:Nat->Prop) (w:World) (vs:List Value),dU (gm (λ_=>none) ok w) args vs ->
 Calls P f vs.toArray w λe w'=>w.grownBy w' none/\∃v,e =.returned v/\iZ (λ_=>none) (λb=>ok b\/w.heap.size<=b) w' res v
abbrev Tw [pq] (P:Program) (f:FuncId) (args:List A1) (res:AV) (i j:Nat):Prop:=∀(ok:Nat->Prop) (w:World) (vs:List Value),pq.G i w ok->dU (gm (λ_=>none) ok w) args vs ->
 Calls P f vs.toArray w λe w'=>w.heap.size<=w'.heap.size/\∃ok1:Nat->Prop,pq.G j w' ok1/\(∀b,b<w.heap.size->ok b->ok1 b/\w'.heap[b]?=w.heap[b]?)/\∃v,e =.returned v/\iZ (λ_=>none) ok1 w' res v
structure Holds [pq] (P:Program) (s:Sp):Prop where
 OT:∀(args:Array Value) (w:World),(callFunc s.f args).run P w =.ok (.enter s.f args) w
 run:match s.mv.p with
  | none=>Tx P s.f s.args s.res
  | some (i,j)=>Tw P s.f s.args s.res i j
def Holds.runN[pq]{P:Program}{s:Sp}(h:Holds P s)(e:s.mv.p =.none):Tx P s.f s.args s.res:=by have:=h.run;rw[e]at this;exact this
def Holds.runM[pq]{P:Program}{s:Sp}(h:Holds P s){i j:Nat}(e:s.mv.p =.some (i,j)):Tw P s.f s.args s.res i j:=by have:=h.run;rw[e]at this;exact this
def mJ{σ:St}{k:Nat} : ∀(n q:Nat) (xs:List X),mI σ k q n=some xs->xs.length=n/\∀(j:Nat) (x:X),xs[j]?=some x->get σ (k+1,q+j)=some (.of (.one x))
 | 0,q,xs,h=>by simp only[mI,qk]at h;subst h;simp
 | n+1,q,xs,h=>by
  simp only[mI]at h;split at h
  .rename_i x e;simp only[km]at h;obtain⟨d,h,rfl⟩:=h;obtain⟨b,c⟩:=mJ n (q+1) d h;refine⟨by simp[b],λj y a=>?_⟩
   cases j with
   | zero=>simp only[kl,qk]at a;subst a;exact e
   | succ j=>have:=c j y (by simpa using a);rwa [show q+1+j=q+(j+1) by omega]at this
  .cases h
def DU{k:Nat} : ∀(n q j:Nat),j<n->(k+1,q+j)∈BD k q n
 | n+1,q,0,_=>by simp[BD]
 | n+1,q,j+1,h=>by have:=DU (k:=k) n (q+1) j od;rw[show q+1+j=q+(j+1) by omega]at this;simp only[BD,xb];exact .inr this
def oD{k:Nat} : ∀(xs:List X) (q:Nat) (x:Loc) (v:AV),(x,v)∈oC k q xs->∃j y,x=(k+1,q+j)/\xs[j]?=some y/\v =.of (.one y)
 | y::d,q,x,v,h=>by
  simp only[oC,xb,zd]at h;rcases h with⟨rfl,rfl⟩|h
  .exact⟨0,y,rfl,rfl,rfl⟩
  .obtain⟨j,z,a,b,c⟩:=oD d (q+1) x v h;exact⟨j+1,z,by rw[a];simp;omega,by simpa using b,c⟩
def rF{k:Nat} : ∀(xs:List X) (q j:Nat),j<xs.length->(k+1,q+j)∈(oC k q xs).map (·.1)
 | y::a,q,0,_=>by simp[oC]
 | y::a,q,j+1,h=>by have:=rF (k:=k) a (q+1) j (by simpa using h);rw[show q+1+j=q+(j+1) by omega]at this;simp only[oC,qb7,xb];exact .inr this
def setCells_size(b:Nat):∀(vs:List Value) (o:Nat) (w:World),(w.setCells b o vs).heap.size=w.heap.size
 | [],_,_=>rfl
 | v::r,o,w=>by rw[World.setCells,setCells_size b r];simp
def o7(b i:Nat)(a:i≠b):∀(vs:List Value) (o:Nat) (w:World),(w.setCells b o vs).heap[i]?=w.heap[i]?
 | [],_,_=>rfl
 | v::r,o,w=>by rw[World.setCells,o7 b i a r,heap_setCell_other _ _ _ _ a]
def wm(b:Nat):∀(vs:List Value) (o:Nat) (w:World),(w.setCells b o vs).os=w.os/\(w.setCells b o vs).tape=w.tape/\(w.setCells b o vs).output=w.output
 | [],_,_=>⟨rfl,rfl,rfl⟩
 | v::r,o,w=>by rw[World.setCells];exact wm b r _ _
section
variable {P:Program}{Wb W0:World}{okb ok0:Nat->Prop}{ds:List Deferred}{nt:Nat}{β:Nat->Option Nat}{a:Act}{w:World}{σ σL:St}{o:Oper}{T:List (Nat×Bool×Bool)}{C C':List Sp}{ob:Obl}{u:Out}
abbrev Comes [pq] (P:Program) (Wb:World) (okb:Nat->Prop) (W0:World) (ok0:Nat->Prop) (β:Nat->Option Nat) (a:Act) (w:World) (σL:St) (o:Oper) (u:Out):Prop :=
 ∀(K:Act->World->Prop) (Q:Exit->Act->World->Prop),(∀W1 ok1 β' w' val,Dc W0 ok0 β w W1 ok1 β' w' (u.mem.map (·.1))->iZ β' (okB W1.heap.size ok1 β') w' (u.res.getD undefA) val->(∀x v,(x,v)∈u.mem->x.1≠1000001->∀a',EH β' (okB W1.heap.size ok1 β') a' w' x v)->qp Wb okb W1 ok1 β' (u.mem++σL)->K (a.put o.dst val) w')->o.wp P a w K Q
def zD{K:Act->World->Prop}{Q:Exit->Act->World->Prop}{v:Value}{w':World}(h:(execOp a.eval o).run P w =.ok (.value v) w')(hk:K (a.put o.dst v) w'):o.wp P a w K Q:=by unfold Oper.wp;rw[h];exact hk
def P8[pq](b:Inv Wb okb W0 ok0 ds nt β a w σL){v:AV}(h:Does P β (okB W0.heap.size ok0 β) a w o v):Comes P Wb okb W0 ok0 β a w σL o ⟨some v,[],[]⟩:=λK Q e=>by obtain⟨x,c,d⟩:=h;exact zD c (e W0 ok0 β w x (b.grow ⟨rfl,rfl,rfl,qv _,λ_ _ _=>rfl⟩) d ot b.FK)
def V8[pq](f:Inv Wb okb W0 ok0 ds nt β a w σL){A:A1}{v:Value}{elem:TypeId}(R:dU (jm β (okB W0.heap.size ok0 β) w) A.xs v.cells.toList)(h:M6 σ o A=some u)(C:∀x∈u.rd,get σL x=get σ x)(H:∀x∈u.mem.map (·.1),get σL x=get σ x)
 (hrun:(execOp a.eval o).run P w =.ok (.value (.pointer (some ⟨w.heap.size,0,none⟩))) (w.alloc (.cells v.cells elem))):Comes P Wb okb W0 ok0 β a w σL o u:=λK Q Z=>by
 unfold M6 at h;split at h
 .rename_i d x xs hd hx;split at h
  .rename_i S;have r:d<1000000:=S.2.2;simp only[qk]at h;subst h;rw[hx]at R;have hβ:β d=none:=by
    cases e:β d with
    | none=>rfl
    | some b =>
     have n:=f.dom d b e;rw[H (d+1,0) (by rw[qc2,qa0];exact .inl (by have:=rF (k:=d) (x::xs) 0 0 ot;simpa using this))]at n;rw[qh4.1 S.2.1]at n;cases n
   let β':Nat->Option Nat:=λk=>if k=d then some w.heap.size else β k
   have hβ':∀k b,β' k=some b->(k=d/\b=w.heap.size)\/β k=some b:=λk b e=>by
    simp only[β']at e;split at e
    .rename_i B;simp only[qk]at e;exact .inl ⟨B,e.symm⟩
    .exact .inr e
   have l:∀b,b<w.heap.size->(w.alloc (.cells v.cells elem)).heap[b]?=w.heap[b]?:=λb I=>(je6 w _ none).block b I ot;have p:(w.alloc (.cells v.cells elem)).heap[w.heap.size]?=some (.cells v.cells elem):=by show (w.heap.push _)[w.heap.size]?=_;simp
   have m:Dc W0 ok0 β w W0 ok0 β' (w.alloc (.cells v.cells elem)) ((oC d 0 (x::xs)++mark d (get σ (1000001,0))).map (·.1)):={
    nk:=by simp only[β'];rw[if_neg (λe=>by rw[<-e]at r;exact je3 _ r)];exact f.nk
    gr:=gtr f.gr (je6 w _ none)
    new:=λk b e=>by
     have:=f.gr.size;rcases hβ' k b e with⟨_,rfl⟩|e
     .exact⟨.inl this,ot⟩
     .exact⟨(f.new k b e).1,by have:=(f.new k b e).2;simp;omega⟩
    inj:=λk L b e E=>by
     rcases hβ' k b e with⟨n,N⟩|e<;>rcases hβ' L b E with⟨O,h4⟩|E
     .rw[n,O]
     .have:=(f.new L b E).2;omega
     .have:=(f.new k b e).2;omega
     .exact f.inj k L b e E
    sub:=λk b e=>by simp only[β'];rw[if_neg (λB=>by subst B;rw[hβ]at e;cases e)];exact e
    fresh:=λk b e=>by
     rcases hβ' k b e with⟨rfl,_⟩|e
     .exact .inr (by rw[qc2,qa0];exact .inl (by have:=rF (k:=k) (x::xs) 0 0 ot;simpa using this))
     .exact .inl e
    keep:=⟨ot,λb I ho=>⟨by
     rcases ho with n|⟨n,N⟩
     .exact .inl n
     .exact .inr ⟨n,λk e=>by
       rcases hβ' k b e with⟨_,O⟩|e
       .omega
       .exact N k e⟩,λq=>qn (l b I)⟩⟩
    own:=λk b q e _=>⟨qn (l b (f.new k b e).2),World.frozen?_of_block (l b (f.new k b e).2)⟩ }
   refine zD hrun (Z W0 ok0 β' _ _ m ⟨w.heap.size,by simp[β'],rfl⟩ (λy z g J a'=>?_) ?_)
   rotate_left
   .rw [ub];refine qp.skip ?_ (λy g=>?_)
    .have V:=C (1000001,0) ot;rw[<-V];obtain⟨T,v2⟩:=f.FK
     cases D:get σL (1000001,0)with
     | none =>
      refine⟨λ_=>⟨(T D).1,λk b e=>?_⟩,λv t=>?_⟩
      .rcases hβ' k b e with⟨_,rfl⟩|e
       .exact f.gr.size
       .exact (T D).2 k b e
      .simp only[mark,qf0,D]at t;cases t
     | some v =>
      obtain⟨i,rfl,W,Y,X⟩:=v2 v D;have M:get (mark d (some (Aj i))++σL) (1000001,0)=some (Aj i):=by rw[get_skip _ _ _ (by simp[mark])];exact D
      refine⟨λh=>?_,λv t=>?_⟩
      .rw[M]at h;cases h
      .rw[M]at t;simp only[qk]at t;subst t;refine⟨i,rfl,W,Y,λk v' G=>?_⟩
       by_cases s:k=d
       .subst s;simp only[mark,qd2,qf0,get,if_pos,qk]at G;refine⟨i,G.symm,qv _,λ_ b e=>?_⟩;rcases hβ' k b e with⟨_,rfl⟩|e
        .exact f.gr.size
        .rw[hβ]at e;cases e
       .rw[get_skip _ _ _ (by simp[mark,s])]at G;obtain⟨j,j1,j2,j3⟩:=X k v' G;refine⟨j,j1,j2,λU b e=>?_⟩;rcases hβ' k b e with⟨F,_⟩|e
        .exact absurd F s
        .exact j3 U b e
    .simp only[qa7]at g;obtain⟨⟨y1,y2⟩,g,rfl⟩:=g;obtain⟨j,c,rfl,_,_⟩:=oD _ _ _ _ g;exact λe=>je3 _ ((Nat.succ.inj e:d=1000000) ▸ r)
   replace g:(y,z)∈oC d 0 (x::xs):=by
    rw[qa0]at g;rcases g with g|g
    .exact g
    .exfalso;revert g;cases get σ (1000001,0)with
     | none=>simp[mark]
     | some v=>simp only[mark,yq,zd];rintro⟨rfl,_⟩;exact J rfl
   obtain⟨j,c,rfl,hj,rfl⟩:=oD _ _ _ _ g;obtain⟨uv,F,B⟩:=R.get _ _ hj;refine⟨w.heap.size,uv,c,by simp[β'],rfl,?_,?_,jm.keep m.keep m.sub _ _ B⟩
   .rw[qe6]at F;simp only[World.cell?,p,qa4];exact F
   .simp only[World.frozen?,p,Nat.not_lt_zero,decide_false,Bool.and_false]
  .cases h
 .cases h
def EL[pq](s:Inv Wb okb W0 ok0 ds nt β a w σL){k q n:Nat}{xs:List X}{b:Nat}(o:β k=some b)(h:mI σ k q n=some xs)(m:∀x∈BD k q n,get σL x=get σ x) :
 ∃vs:List Value,dU (jm β (okB W0.heap.size ok0 β) w) xs vs/\∀(j:Nat) (v:Value),vs[j]?=some v->w.cell? ⟨b,q+j,none⟩=some v/\w.frozen? ⟨b,q+j,none⟩=false:=by
 obtain⟨E,D⟩:=mJ _ _ _ h;have d:∀(j:Nat) (x:X),xs[j]?=some x->∃v,(w.cell? ⟨b,q+j,none⟩=some v/\w.frozen? ⟨b,q+j,none⟩=false)/\jm β (okB W0.heap.size ok0 β) w x v:=λj x t=>by
  have c:j<n:=by rw[<-E];exact (jj.1 t).1
  obtain⟨G,u,y,f,g,A,B,C⟩:=s.rep (k+1,q+j) _ (λe=>by have e:k=1000000:=by { have e:k+1=1000001:=e;omega };subst e;rw[s.nk]at o;cases o) ((m _ (DU n q j c)).trans (D j x t));rw[o]at f;simp only[qk]at f;subst f;simp only[AV.of.injEq,A1.one.injEq]at g;subst g;exact⟨u,⟨A,B⟩,C⟩
 refine⟨(List.range xs.length).map λj=>(w.cell? ⟨b,q+j,none⟩).getD undef,dU.of ot (λi x v f g=>?_),λj v p=>?_⟩
 .obtain⟨F,⟨l,_⟩,r⟩:=d i x f;have c:i<xs.length:=(jj.1 f).1;simp[c,l]at g;exact g ▸ r
 .have c:j<xs.length:=by have:=(jj.1 p).1;simpa using this
  obtain⟨F,⟨l,z⟩,r⟩:=d j _ (qt c);simp[c,l]at p;exact⟨p ▸ l,z⟩
end
def nM{α:Type}(n:Nat):∀(k:Nat) (l:List α),(chunk n k l).length=k
 | 0,_=>rfl
 | k+1,l=>by simp[chunk,nM n k]
def uU{α:Type}(n:Nat):∀(k:Nat) (l:List α),l.length=k*n->∀(i:Nat) (r:List α),(chunk n k l)[i]?=some r->r.length=n/\∀(j:Nat) (x:α),r[j]?=some x->l[i*n+j]?=some x
 | 0,l,_,i,r,h=>by simp[chunk]at h
 | k+1,l,b,0,r,h=>by
  simp only[chunk,kl,qk]at h;subst h;rw[jb0]at b;refine⟨oB,λj x a=>?_⟩;rw[qc5]at a;split at a
  .simpa using a
  .cases a
 | k+1,l,b,i+1,r,h=>by simp only[chunk,yd]at h;rw[jb0]at b;obtain⟨c,d⟩:=uU n k (l.drop n) oB i r h;refine⟨c,λj x a=>?_⟩;have:=d j x a;rw[jb4]at this;rw[jb0,show i*n+1*n+j=n+(i*n+j) by omega];exact this
section
variable {P:Program}{Wb W0:World}{okb ok0:Nat->Prop}{ds:List Deferred}{nt:Nat}{β:Nat->Option Nat}{a:Act}{w:World}{σ σL:St}{o:Oper}{T:Hints}{C C':List Sp}{ob:Obl}{u:Out}
def WZ[pq](l:Inv Wb okb W0 ok0 ds nt β a w σL){t:TypeId}{x:Operand}(p:o.op =.load t x)(h:Dk P T C σ o=some (u,C',ob))(H:CK β (okB W0.heap.size ok0 β) a w σ o)(D:∀x∈u.rd,get σL x=get σ x):C'=C/\Comes P Wb okb W0 ok0 β a w σL o u:=by
 simp only[Dk,p]at h;have X:=H x (by simp[p,Op.operands]);split at h<;>try (cases h;done)
 .rename_i k q d i e I E;split at h<;>try (cases h;done)
  simp only[km,qg2,zd]at h;obtain⟨v,⟨xs,S,A⟩,rfl,rfl,rfl⟩:=h;obtain⟨b,V,s⟩:=X _ e;obtain⟨c,r,n⟩:=EL l V S D;obtain⟨z,M,N,O⟩:=E9 A r;refine⟨rfl,λK Q B=>zD (v:=z) (w':=w) ?_ (B W0 ok0 β w z (l.grow ⟨rfl,rfl,rfl,qv _,λ_ _ _=>rfl⟩) M ot l.FK)⟩;have:=uJ (P:=P) (w:=w) (b:=b) (q:=q) I E (r.length.trans (mJ _ _ _ S).1) (λj v Y=>(n j v Y).1) N O;simp[execOp,p,Instr.loadAt,s,Instr.sureAddr,this,Result.andThen]
 .rename_i cs q d i e I E;split at h<;>try (cases h;done)
  rename_i W;simp only[km,zd]at h;obtain⟨v,A,rfl,rfl,rfl⟩:=h;obtain⟨b,L,s,V,n⟩:=X _ e
  let c:=(List.range i.size).map λj=>(w.cell? ⟨b,L+(q+j),none⟩).getD undef
  have r:dU (jm β (okB W0.heap.size ok0 β) w) (((cs.drop q).take i.size).map .d) c:=by
   refine dU.of (by simp[c];omega) (λj y z g U=>?_);simp only[qb6,qc5,jb4,km]at g;obtain⟨y',g,rfl⟩:=g;split at g
   .rename_i F;obtain⟨Z,m,R⟩:=n _ _ g;simp[c,F,m]at U;exact U ▸ R
   .cases g
  have f:∀(j:Nat) (v:Value),c[j]?=some v->w.cell? ⟨b,L+q+j,none⟩=some v:=λj z J=>by
   have F:j<i.size:=by have:=(jj.1 J).1;simpa[c]using this
   have G:q+j<cs.length:=od
   obtain⟨Z,m,R⟩:=n _ _ (qt G);simp[c,F,m]at J;rw[qe0];exact J ▸ m
  obtain⟨z,M,N,O⟩:=E9 A r;refine⟨rfl,λK Q B=>zD (v:=z) (w':=w) ?_ (B W0 ok0 β w z (l.grow ⟨rfl,rfl,rfl,qv _,λ_ _ _=>rfl⟩) M ot l.FK)⟩;have:=uJ (P:=P) (w:=w) (b:=b) (q:=L+q) I E (by simp[c]) f N O;simp[execOp,p,Instr.loadAt,s,Instr.sureAddr,this,Result.andThen]
def TP[pq](g:Inv Wb okb W0 ok0 ds nt β a w σL){t:TypeId}{x y:Operand}(U:o.op =.store t x y)(h:Dk P T C σ o=some (u,C',ob))(H:CK β (okB W0.heap.size ok0 β) a w σ o)(D:∀x∈u.rd,get σL x=get σ x):C'=C/\Comes P Wb okb W0 ok0 β a w σL o u:=by
 simp only[Dk,U]at h;have hx:=H x (by simp[U,Op.operands]);have hy:=H y (by simp[U,Op.operands]);split at h<;>try (cases h;done)
 rename_i k q A i hd e1 J hi;split at h<;>try (cases h;done)
 rename_i hc;obtain⟨ab,l,F,d⟩:=hc;simp only[qk,zd]at h;obtain⟨rfl,rfl,rfl⟩:=h;obtain⟨b,p,ex⟩:=hx _ e1;obtain⟨xs,h1⟩:=ja2.1 F;obtain⟨vs,hr,Y⟩:=EL g p h1 (λx hx=>D x (by simp[hx]));have X:=gm.cells (hy _ J) l;have M:=X.length;have ai:=hr.length.trans (mJ _ _ _ h1).1;have O:∀v∈(a.eval y).cells.toList,v.oneCell'=true:=λv hv=>by
  obtain⟨j,n⟩:=List.getElem?_of_mem hv;have f:j<A.xs.length:=by rw[<-M];exact (jj.1 n).1
  obtain⟨V,G,W⟩:=X.get _ _ (qt f);rw[n]at G;simp only[qk]at G;subst G;exact jE W (zr.1 l _ (zj f))
 have s:∀j,j<(a.eval y).cells.toList.length->w.cell? ⟨b,q+j,none⟩=some (vs.getD j undef)/\w.frozen? ⟨b,q+j,none⟩=false:=λj n=>by
  have f:j<vs.length:=od
  have:=Y j _ (qt f);simpa[List.getD_eq_getElem?_getD,f]using this
 have S:=run_storeCells_cells (P:=P) b q (a.eval y).cells.toList 0 w (λj n=>by rw[qc0,(s j n).1];rfl) (λj n=>by rw[qc0];exact (s j n).2) O;rw[qc0]at S;have ah:k≠1000000:=λe=>by subst e;rw[g.nk]at p;cases p
 have ae:W0.heap.size<=b/\b<w.heap.size:=⟨by
  rw[<-D (1000001,0) ot,<-D (1000001,k+1) ot]at d;obtain⟨v1,v2⟩:=g.FK
  cases Z:get σL (1000001,0)with
  | none=>exact (v1 Z).2 k b p
  | some v =>
   obtain⟨i,rfl,g1,gf,g2⟩:=v2 v Z;rw[Z]at d
   cases E:get σL (1000001,k+1)with
   | none=>rw[E]at d;simp[W9,Aj,verN]at d
   | some V =>
    obtain⟨j,rfl,j2,j3⟩:=g2 k V E;rw[E]at d;simp[W9,Aj,verN]at d;exact j3 d.symm b p,(g.new k b p).2⟩
 have m:Dc W0 ok0 β w W0 ok0 β (w.setCells b q (a.eval y).cells.toList) ((oC k q A.xs).map (·.1)):={
  nk:=g.nk
  gr:=by obtain⟨r1,r2,r3⟩:=wm b (a.eval y).cells.toList q w;exact⟨r1.trans g.gr.os,r2.trans g.gr.tape,r3.trans g.gr.output,by rw[setCells_size];exact g.gr.size,λi aa _=>(o7 b i od _ _ _).trans (g.gr.block i aa ot)⟩
  new:=λk b e=>by rw[setCells_size];exact g.new k b e
  inj:=g.inj
  sub:=λ_ _ e=>e
  fresh:=λ_ _ e=>.inl e
  keep:=⟨by rw[setCells_size];exact qv _,λI ad N=>⟨N,λB=>qn (o7 b I (λe=>by
   subst e;rcases N with L|L
   .omega
   .exact L.2 k p) _ _ _)⟩⟩
  own:=λk2 I B e hn=>by
   refine⟨World.cell?_setCells_out b _ q w ⟨I,B,none⟩ (λJ _=>?_),World.frozen?_setCells b _ q w _⟩;have J:I=b:=J;subst J;have : k2=k:=g.inj k2 k I e p;subst this;show B<q\/q+_<=B;rcases Nat.lt_or_ge B q with L|L
   .exact .inl L
   .rcases Nat.lt_or_ge B (q+(a.eval y).cells.toList.length)with h4|h4
    .exfalso;apply hn;have:=rF (k:=k2) A.xs q (B - q) od;rwa [show q+(B - q)=B by omega]at this
    .exact .inr h4 }
 refine⟨rfl,λK Q hK=>?_⟩;have R:(execOp a.eval o).run P w =.ok .skip (w.setCells b q (a.eval y).cells.toList):=by simp[execOp,U,Instr.storeAt,ex,Instr.sureAddr,storeVar,run_sizeOf hi,Result.andThen,show (a.eval y).cells.size=i.size by rw[<-qh7];omega];exact by simpa[Result.andThen]using congrArg (λr=>Result.andThen r λ(_:Unit) w'=>(Result.ok Next.skip w':Result Next)) S
 unfold Oper.wp;rw[R];refine hK W0 ok0 β _ undef m (fI.v _) (λz v hz _ a'=>?_) (g.FK.skip (λz hz=>?_))
 rotate_left
 .simp only[qa7]at hz;obtain⟨⟨y1,y2⟩,hz,rfl⟩:=hz;obtain⟨j,c,rfl,_,_⟩:=oD _ _ _ _ hz;show k+1≠1000001;omega
 obtain⟨j,c,rfl,n,rfl⟩:=oD _ _ _ _ hz;have f:j<(a.eval y).cells.toList.length:=by rw[M];exact (jj.1 n).1
 obtain⟨V,G,W⟩:=X.get _ _ n;refine⟨b,V,c,p,rfl,?_,?_,jm.keep m.keep m.sub _ _ W⟩
 .rw[World.cell?_setCells_in b _ q w (λj n=>by rw[(s j n).1];rfl) j f];rw[qt f]at G;exact G
 .rw[World.frozen?_setCells];exact (s j f).2
def flat_get{n:Nat}(z:List X)(c:z.length=n):∀(k i:Nat),i<k*n->(List.replicate k z).flatten[i]?=z[i % n]?
 | 0,i,h=>od
 | k+1,i,h=>by
  rw[List.replicate_succ,List.flatten_cons,List.getElem?_append];split
  .rename_i a;rw[c]at a;rw[jf2 a]
  .rename_i b;rw[c]at b|-;rw[jb0]at h;rw[flat_get z c k (i - n) od,<-Nat.mod_eq_sub_mod od]
def TN[pq](Y:Inv Wb okb W0 ok0 ds nt β a w σL){t:TypeId}{len:Nat}{c:Array (Nat×Operand)}(ho:o.op =.buildSlice t len c)(h:Dk P T C σ o=some (u,C',ob))(H:CK β (okB W0.heap.size ok0 β) a w σ o):C'=C/\Comes P Wb okb W0 ok0 β a w σL o u:=by
 simp only[Dk,ho]at h;split at h<;>try (cases h;done)
 rename_i G ht;split at h<;>try (cases h;done)
 rename_i b z V hi hz hp;split at h<;>try (cases h;done)
 rename_i hb;obtain⟨ak,J,n⟩:=hb;split at h<;>try (cases h;done)
 rename_i W hf;split at h<;>try (cases h;done)
 rename_i aa;simp only[qk,zd]at h;obtain⟨rfl,rfl,rfl⟩:=h;have ah:b.zero=some z:=by rw[hi]at hz;exact hz
 have ad:=partsO_rep (a:=a) (β:=β) (ok:=okB W0.heap.size ok0 β) (w:=w) _ _ hp (λx R=>H x (by simp[ho,Op.operands]at R|-;exact R));have S:dU (jm β (okB W0.heap.size ok0 β) w) (ofV z).xs z.cells.toList:=yK;have ai:z.cells.size=b.size:=by have:=S.length;rw[qh7]at this;omega
 have O:0<b.size:=Nat.pos_of_ne_zero (λe=>by rw[e]at J;simp at J);have h0:dU (jm β (okB W0.heap.size ok0 β) w) (List.replicate len (ofV z).xs).flatten ((Array.range (len*b.size)).map (z.cells[· % z.cells.size]!)).toList:=by
  refine dU.of (by simp[n]) (λi x v B I=>?_);have M:i<len*b.size:=by have:=(jj.1 B).1;simpa[n]using this
  rw[flat_get _ n _ _ M]at B;obtain⟨v',l,F⟩:=S.get _ _ B;rw[qe6]at l;simp only[qe6,Array.getElem?_map,Array.getElem?_range,M,if_true,qg6,qk,ai]at I;rw[<-I,getElem!_def,l];exact F
 obtain⟨cs,f1,f2⟩:=Be _ _ _ _ _ _ ad h0 hf;have L:∀(V:List (Nat×List X)) (Z q:List X),xB (λi=>some (i*b.size,b.size)) Z V=some q->q.length=Z.length:=λV=>by
  induction V with
  | nil=>intro Z q e;simp only[xB,qk]at e;rw[e]
  | cons p V ih =>
   intro Z q e;obtain⟨i,zs⟩:=p;simp only[xB]at e;split at e
   .rename_i hc;rw[ih _ _ e];simp;omega
   .cases e
 have ae:W.length=len*b.size:=by rw[L _ _ _ hf];simp[n]
 have an:cs.size=len*b.size:=by have:=f2.length;rw[qh7]at this;omega
 have ab:=je6 w (.cells cs G) none;have m:=Y.grow ab;refine⟨rfl,λK Q hK=>zD (v:=.slice (some ⟨w.heap.size,0,none⟩) len len) (w':=w.alloc (.cells cs G)) ?_ (hK W0 ok0 β _ _ m ?_ ot Y.FK)⟩
 .have aj:(zeroValue G).run P w =.ok z w:=by
   unfold zeroValue;rw[qa3,run_typeInfo _ hi];simp[Result.andThen,ah]
  simp only[execOp,ho,qa3,Instr.buildSlice,qc3 ht,Result.andThen,run_sizeOf hi];rw[oa];simp only[je0,qa3,Sem.run_ite];rw[oa];simp only[aj,Result.andThen,Array.toList_map];rw[show (List.map (λx=>(x.1,a.eval x.2)) c.toList)=(c.toList.map λ(i,x)=>(i,a.eval x)) from rfl,f1];rfl
 .have N:(w.alloc (.cells cs G)).heap[w.heap.size]?=some (.cells cs G):=by show (w.heap.push _)[w.heap.size]?=_;simp
  have A:∀(i:Nat) (x:D),(W.map X.toD)[i]?=some x->∃v,cs[i]?=some v/\fI (okB W0.heap.size ok0 β) w x v:=λi x R=>by
   simp only[qb6,km]at R;obtain⟨y,hy,rfl⟩:=R;obtain⟨v,l,F⟩:=f2.get _ _ hy;rw[qe6]at l;have E:y.clean=true:=zr.1 aa _ (qa1 hy)
   cases y with
   | d z=>exact⟨v,l,F⟩
   | p _ _=>cases E
   | e _ _=>cases E
   | f _ _=>cases E
  have g:(W.map X.toD).length=len*b.size:=by simp[ae]
  have U:fI (okB W0.heap.size ok0 β) (w.alloc (.cells cs G)) (.s b.size (chunk b.size len (W.map X.toD))) (.slice (some ⟨w.heap.size,0,none⟩) (chunk b.size len (W.map X.toD)).length len):=by
   refine .s (λi j=>(cs[i*b.size+j]?).getD undef) (by rw[nM];exact qv _) (by rw[nM];have : len<=len*b.size:=Nat.le_mul_of_pos_right _ O;unfold maxLen;omega) (λi r hr=>(uU _ _ _ g i r hr).1) (λi r j x B I=>?_) (λi r j x B I=>?_)
   .have:=(uU _ _ _ g i r B).2 j x I;obtain⟨v,l,F⟩:=A _ _ this;refine⟨w.heap.size,0,rfl,.inr ⟨Y.gr.size,λk e=>?_⟩,?_⟩
    .have:=(Y.new k _ e).2;omega
    .simp only[World.cell?,N,qa4];rw[l];rfl
   .have:=(uU _ _ _ g i r B).2 j x I;obtain⟨v,l,F⟩:=A _ _ this;rw[l];exact F.keep m.keep
  rw[nM]at U;exact U
def LZ{ok:Nat->Prop}{n:Nat}{es:List (List D)}{l:Option Addr}{len c:Nat}(h:fI ok w (.s n es) (.slice l len c))(A:0<n):len=es.length/\(l=none->es=[])/\∃us:List Value,us.length=es.length*n/\(∀q,l=some q->∀j u,us[j]?=some u->w.cell? (q.add j)=some u) /\
 ∀(i:Nat) (r:List D) (j:Nat) (x:D),es[i]?=some r->r[j]?=some x->∃u,us[i*n+j]?=some u/\fI ok w x u:=by
 obtain⟨C,I,U,e,J,H,p,y⟩:=fH h;simp only[ke]at e;obtain⟨rfl,rfl,rfl⟩:=e;have k:∀i (d:i<es.length),es[i].length=n:=λi d=>p i _ (qt d);refine⟨rfl,λe=>?_,(List.range (es.length*n)).map λq=>U (q / n) (q % n),ot,λq e j u v=>?_,λi r j x m z=>?_⟩
 .cases es with
  | nil=>rfl
  | cons r rs =>
   have B:r.length=n:=p 0 r rfl;have G:0<r.length:=od
   obtain⟨⟨b,o,f,_⟩,_⟩:=y 0 r 0 r[0] rfl (qt G);rw[e]at f;cases f
 .have g:j<es.length*n:=by have:=(jj.1 v).1;simpa using this
  have d:j / n<es.length:=Nat.div_lt_of_lt_mul (by rw[ja5];exact g);have H:=Nat.mod_lt j A;have B:=k _ d;obtain⟨⟨b,o,f,_,a⟩,_⟩:=y (j / n) _ (j % n) _ (qt d) (qt od);simp[g]at v;rw[e]at f;simp only[qk]at f;subst f;rw[add_eq,<-v,<-a,Nat.div_add_mod' j n]
 .have d:i<es.length:=(jj.1 m).1;have B:r.length=n:=p i r m;have g:j<n:=by have:=(jj.1 z).1;omega
  have t:i*n+j<es.length*n:=by have : (i+1)*n<=es.length*n:=jb6 _ d;rw[jb0]at this;omega
  refine⟨U i j,?_,(y i r j x m z).2⟩;have E:(i*n+j) / n=i:=by rw[ja5,Nat.mul_add_div A,Nat.div_eq_of_lt g];rfl
  have F:(i*n+j) % n=j:=by rw[ja5,Nat.mul_add_mod,jf2 g]
  simp[t,E,F]
def P7[pq](hI:Inv Wb okb W0 ok0 ds nt β a w σL){c:Call}(ho:o.op =.call c)(hc:c.callee =.builtin .append)(h:Dk P T C σ o=some (u,C',ob))(H:CK β (okB W0.heap.size ok0 β) a w σ o)(aC:∀p∈ob,p.2):Comes P Wb okb W0 ok0 β a w σL o u:=by
 simp only[Dk,ho,hc]at h;split at h<;>try (cases h;done)
 rename_i s x t t' I R;split at h<;>try (cases h;done)
 rename_i e n F n' r rs hu ak an;split at h<;>try (cases h;done)
 rename_i b z G hz;split at h<;>try (cases h;done)
 rename_i hb;obtain⟨rfl,rfl,rfl,ah,A,aE⟩:=hb;simp only[qk,zd]at h;obtain⟨rfl,rfl,rfl⟩:=h;obtain⟨b1,b2⟩:=aC _ (yq.2 rfl);have ae:b.zero=some z:=by rw[G]at hz;exact hz
 obtain⟨cl,args,ts⟩:=c;simp only at hc I R;subst hc;have ha:args=#[s,x]:=by rw[<-I]
 have ba:ts=#[t,t]:=by rw[<-R]
 subst ha ba;obtain⟨ad,e2,V⟩:=H s (by simp[ho,Op.operands,Call.operands]) _ ak;have E:fI (okB W0.heap.size ok0 β) w (.s b.size (r::rs)) (a.eval x):=H x (by simp[ho,Op.operands,Call.operands]) _ an;obtain⟨W,cx,Ux,e3,_⟩:=fH E;rw[e2]at V;rw[e3]at E;obtain⟨_,ay,l,lo,co,ro⟩:=LZ V A;obtain⟨_,az,f,ln,cn,rn⟩:=LZ E A
 cases W with
 | none=>exact absurd (az rfl) ot
 | some W =>
  have ao:∀u∈f,u.oneCell'=true:=λu hu=>by
   obtain⟨q,hq,rfl⟩:=ye hu;have au:q<(r::rs).length*b.size:=od
   have G:q / b.size<(r::rs).length:=Nat.div_lt_of_lt_mul (by rw[ja5];exact au);obtain⟨_,_,_,bc,_⟩:=fH E;obtain⟨_,_,_,_,_,_,ar,_⟩:=fH E;have bh:=ar _ _ (qt G);have hm:=Nat.mod_lt q A;obtain⟨v,B,M⟩:=rn (q / b.size) _ (q % b.size) _ (qt G) (qt od);rw[Nat.div_add_mod' q b.size,qt hq]at B;simp only[qk]at B;rw[B];refine jE (β:=β) (x:=.d ((r::rs)[q / b.size][q % b.size]'od)) M ?_;have:=zr.1 aE _ (zj G);exact zr.1 this _ (zj _)
  have L:∃Y w',(Builtin.append_ #[t,t] o.type #[a.eval s,a.eval x]).run P w =.ok Y w'/\w'.ownsRow w.heap.size e b.size Y (F.length+(rs.length+1)) (l++f)/\w.grownBy w' none:=by
   rw[e2,e3]
   cases ad with
   | some q=>exact run_append_arg_grows (P:=P) w t o.type e b z b.size b.bytes hu G ae rfl rfl ah A q F.length F.length l lo (co q rfl) W (rs.length+1) cx f (by simpa using ln) (cn W rfl) od b1 b2
   | none =>
    obtain rfl:=ay rfl;obtain rfl:l=[]:=ju (by simpa using lo);obtain⟨Y,w',J,r1,r2,_⟩:=run_append_own (P:=P) w w.heap.size t o.type e b z b.size b.bytes hu G ae rfl rfl ah A (.n0) 0 [] (qa2 w _ e b.size) W (rs.length+1) cx f (by simpa using ln) (cn W rfl) ao (by simpa using b1) (by simpa using b2) (qv _);exact⟨Y,w',J,by simpa using r1,r2⟩
  obtain⟨Y,w',J,ab,aq⟩:=L;have m:=hI.grow aq;refine λK Q hK=>zD (v:=Y) (w':=w') ?_ (hK W0 ok0 β _ _ m ?_ ot hI.FK)
  .simp[execOp,ho,resolve,invoke,builtin,J,Result.andThen]
  .obtain⟨bb,hh⟩:=ab;rcases hh with⟨_,h0⟩|⟨g,ai,aj,rfl,hg,Z,aa,bd,bf,aO⟩
   .omega
   .have U:(F++r::rs).length=F.length+(rs.length+1):=by simp
    have S:∀(q:Nat) (v:Value),(l++f)[q]?=some v->w'.cell? ⟨g,0+q,none⟩=some v:=λq v hv=>by rw[<-aO]at hv;have : aj.toList[q]?=some v:=vJ hv;simp only[World.cell?,Z,qa4];simpa using this
    have O:∀(i:Nat) (y:List D) (j:Nat) (x:D),(F++r::rs)[i]?=some y->y[j]?=some x->∃v,(l++f)[i*b.size+j]?=some v/\fI (okB W0.heap.size ok0 β) w x v:=λi y j x N X=>by
     by_cases G:i<F.length
     .rw[jt G]at N;obtain⟨v,B,M⟩:=ro i y j x N X;exact⟨v,by rw[jt (jj.1 B).1];exact B,M⟩
     .rw[js od]at N;obtain⟨v,B,M⟩:=rn (i - F.length) y j x N X;refine⟨v,?_,M⟩;have e7:i*b.size+j=l.length+((i - F.length)*b.size+j):=by
       rw[lo,Nat.sub_mul];have:=jb6 b.size (Nat.not_lt.1 G);omega
      rw[e7,js od,Nat.add_sub_cancel_left];exact B
    have L:fI (okB W0.heap.size ok0 β) w' (.s b.size (F++r::rs)) (.slice (some ⟨g,0,none⟩) (F++r::rs).length ai):=by
     refine .s (λi j=>((l++f)[i*b.size+j]?).getD undef) (by rw[U];exact aa) (by rw[U];exact b1) (λi y hy=>?_) (λi y j x N X=>?_) (λi y j x N X=>?_)
     .obtain⟨_,_,_,_,_,_,l1,_⟩:=fH V;obtain⟨_,_,_,_,_,_,l2,_⟩:=fH E
      by_cases G:i<F.length
      .rw[jt G]at hy;exact l1 i y hy
      .rw[js od]at hy;exact l2 _ y hy
     .obtain⟨v,B,M⟩:=O i y j x N X;refine⟨g,0,rfl,.inr ⟨kh hI.gr.size hg,λk e=>?_⟩,?_⟩
      .have:=(hI.new k _ e).2;omega
      .rw[S _ _ B,B];rfl
     .obtain⟨v,B,M⟩:=O i y j x N X;rw[B];exact M.keep m.keep
    rw[U]at L;exact L
def yM{ok:Nat->Prop} : ∀(xs:List Operand) (az:List A1),Gd σ xs=some az->(∀x∈xs,∀v,tC σ x=some v->iZ β ok w v (a.eval x))->dU (gm (λ_=>none) ok w) az (xs.map a.eval)
 | [],az,h,_=>by simp only[Gd,qk]at h;subst h;trivial
 | x::xs,az,h,H=>by
  simp only[Gd]at h;split at h<;>try (cases h;done)
  rename_i A e;split at h<;>try (cases h;done)
  rename_i l;simp only[km]at h;obtain⟨bs,h,rfl⟩:=h;refine⟨?_,yM xs bs h (λy b=>H y (by simp[b]))⟩;have g:=H x ot _ e;have c:∀(y:X) (v:Value),y.clean=true->jm β ok w y v->jm (λ_=>none) ok w y v:=λy v b g=>by
   cases y with
   | d z=>exact g
   | p _ _=>cases b
   | e _ _=>cases b
   | f _ _=>cases b
  cases A with
  | one y=>exact c y _ (by simpa[A1.clean,A1.xs]using l) g
  | agg t =>
   obtain⟨r,n,m⟩:=g;refine⟨r,n,dU.of m.length (λi y v k j=>?_)⟩;obtain⟨s,o,q⟩:=m.get _ _ k;rw[o]at j;simp only[qk]at j;subst j;exact c y _ (zr.1 l _ (qa1 k)) q
def c_call[pq](l:Inv Wb okb W0 ok0 ds nt β a w σL){c:Call}{f:FuncId}(z:o.op =.call c)(O:c.callee =.value (.func f))(h:Dk P T C σ o=some (u,C',ob))(H:CK β (okB W0.heap.size ok0 β) a w σ o)(hC:∀s∈C,Holds P s)(L:∀p∈ob,p.2)(V:∀x∈u.rd,get σL x=get σ x) :
 Comes P Wb okb W0 ok0 β a w σL o u:=by
 simp only[Dk,z,O]at h;split at h<;>try (cases h;done)
 rename_i s C2 N r;split at h<;>try (cases h;done)
 rename_i Z;have U:=hC s ot;have B:(execOp a.eval o).run P w =.ok (.enter f (c.args.toList.map a.eval).toArray) w:=by have:=U.OT (c.args.toList.map a.eval).toArray w;rw[Z]at this;simp only[execOp,z,resolve,O,show a.eval (.func f) =.func (.func f) #[] #[] from rfl,Deferred.ofValue,qa3,je0,Result.andThen,invoke];rw[show (c.args.map a.eval)=(c.args.toList.map a.eval).toArray by rw[<-Array.toList_map,Array.toArray_toList]];simpa using this
 have Y:=yM (a:=a) (β:=β) (ok:=okB W0.heap.size ok0 β) (w:=w) _ _ r (λx J=>H x (by simp only[z,Op.operands,Call.operands,O,Array.toList_append,qa0];exact .inr J));split at h
 .rename_i I;simp only[qk,zd]at h;obtain⟨rfl,rfl,rfl⟩:=h;have e:N=s.args:=L (false,N=s.args) ot;rw[e]at Y;intro K Q S;unfold Oper.wp;rw[B,Oper.upon_enter];have d:=U.runN I _ w _ Y;rw[Z]at d;refine d.mono ?_;rintro e w' ⟨hg,v,rfl,D⟩;have m:=l.grow hg;refine S W0 ok0 β w' v m ?_ ot l.FK;refine iZ.keep ⟨qv _,λb g n=>⟨?_,λ_=>rfl⟩⟩ (λ_ _ e=>by cases e) _ _ D;rcases n with n|n
  .exact n
  .refine .inr ⟨kh l.gr.size n,λk e=>?_⟩;have:=(l.new k b e).2;omega
 .rename_i i j I;split at h<;>try (cases h;done)
  rename_i G;simp only[qk,zd]at h;obtain⟨rfl,rfl,rfl⟩:=h;have e:N=s.args:=L (false,N=s.args) ot;rw[e]at Y;have ev:=V (1000001,0) ot;obtain⟨v1,v2⟩:=l.FK
  cases F:get σL (1000001,0)with
  | none=>rw[<-ev,F]at G;simp[verN]at G
  | some vv =>
   obtain⟨i',rfl,g1,R,g2⟩:=v2 vv F;have ei:i'=i:=by have:=G.1;rw[<-ev,F]at this;simpa[verN,Aj]using this
   subst ei;intro K Q S;unfold Oper.wp;rw[B,Oper.upon_enter];have M:=yM (a:=a) (β:=β) (ok:=λb=>(b<W0.heap.size/\ok0 b)\/W0.heap.size<=b) (w:=w) _ _ r (λx J v D=>iZ.keep ⟨qv _,λb g z=>⟨z.imp id (·.1),λ_=>rfl⟩⟩ (λ_ _ e=>e) _ _ (H x (by simp only[z,Op.operands,Call.operands,O,Array.toList_append,qa0];exact .inr J) v D));rw[e]at M;have d:=U.runM I _ w _ (pq.grow _ _ _ _ g1 l.gr) M;rw[Z]at d;refine d.mono ?_;rintro e w' ⟨A,ok1,G1,y,v,rfl,D⟩;have W:∀k b,β k=some b->(b<W0.heap.size/\ok0 b)\/W0.heap.size<=b:=λk b g=>by
    rcases Nat.lt_or_ge b W0.heap.size with h|h
    .rcases (l.new k b g).1 with h3|h3
     .omega
     .exact .inl ⟨h,h3⟩
    .exact .inr h
   have t:∀k b,β k=some b->ok1 b/\w'.heap[b]?=w.heap[b]?:=λk b g=>y b (l.new k b g).2 (W k b g);have m:Dc W0 ok0 β w w' ok1 β w' ([((1000001,0),Aj j)].map (·.1)):={
    gr:=⟨rfl,rfl,rfl,qv _,λ_ _ _=>rfl⟩
    new:=λk b g=>⟨.inr (t k b g).1,jz (l.new k b g).2 A⟩
    inj:=l.inj
    sub:=λ_ _ e=>e
    fresh:=λ_ _ e=>.inl e
    keep:=⟨A,λb g z=>⟨.inl ⟨jz g A,(y b g (z.imp id (·.1))).1⟩,λq=>qn (y b g (z.imp id (·.1))).2⟩⟩
    own:=λk b q e _=>⟨qn (t k b e).2,World.frozen?_of_block (t k b e).2⟩
    nk:=l.nk }
   refine S w' ok1 β w' v m ?_ (λx u J X=>?_) ⟨λh=>?_,λv D=>?_⟩
   .exact iZ.keep ⟨qv _,λb g n=>⟨.inl ⟨g,n⟩,λ_=>rfl⟩⟩ (λ_ _ e=>by cases e) _ _ D
   .simp only[yq,zd]at J;exact absurd (by rw[J.1]) X
   .simp[get]at h
   .simp only[qd2,qf0,get,if_pos,qk]at D;refine⟨j,D.symm,G1,⟨kh R.1 (kh l.gr.size A),λb g n=>?_⟩,λk v' n=>?_⟩
    .have E:=jz g R.1;obtain⟨c1,c2⟩:=R.2 b g n;obtain⟨c3,c4⟩:=y b (jz E l.gr.size) (.inl ⟨E,c1⟩);exact⟨c3,c4.trans ((l.gr.block b E ot).trans c2)⟩
    rw[get_skip [((1000001,0),Aj j)] σL (1000001,k+1) ot]at n;obtain⟨j',j1,j2,j3⟩:=g2 k v' n;exact⟨j',j1,od,λe=>od⟩
end
def TW{P:Program}{σ:St}{o:Oper}{T:Hints}{C a:List Sp}{ob:Obl}{u:Out}(h:Dk P T C σ o=some (u,a,ob)):∀s∈a,s∈C:=by
 have b:a=C\/∃s,C=s::a:=by
  unfold Dk Hw at h
  repeat' split at h
  all_goals first
   | (cases h;done)
   | (simp only[km,zd,qk]at h;first|(obtain⟨_,_,_,h,_⟩:=h;exact .inl h.symm)|(obtain⟨_,h,_⟩:=h;first|exact .inl h.symm|(subst h;exact .inr ⟨_,rfl⟩)))
 rcases b with rfl|⟨s,rfl⟩
 .exact λ_ h=>h
 .exact λ_ h=>by simp[h]
def Jf{σ:St}{o:Oper}{A:A1}{u:Out}(h:M6 σ o A=some u):A.xs.all X.plain=true:=by
 unfold M6 at h;split at h
 .rename_i d x xs c b;split at h
  .rename_i a;rw[b];exact a.1
  .cases h
 .cases h
section
variable {P:Program}{Wb W0:World}{okb ok0:Nat->Prop}{ds:List Deferred}{nt:Nat}{β:Nat->Option Nat}{a:Act}{w:World}{σ σL:St}{o:Oper}{T:Hints}{C C':List Sp}{ob:Obl}{u:Out}
def Dl[pq](j:Inv Wb okb W0 ok0 ds nt β a w σL)(h:Dk P T C σ o=some (u,C',ob))(H:CK β (okB W0.heap.size ok0 β) a w σ o)(r:∀s∈C,Holds P s)(k:∀p∈ob,p.2)
 (hag:∀x∈u.rd,get σL x=get σ x) (hag2:∀x∈u.mem.map (·.1),get σL x=get σ x):Comes P Wb okb W0 ok0 β a w σL o u:=by
 have d:Hw P T C σ o=some (u,C',ob)->Comes P Wb okb W0 ok0 β a w σL o u:=λh=>by
  unfold Hw at h;split at h
  .simp only[km,zd]at h;obtain⟨v,D,rfl,_⟩:=h;exact P8 j (BU D H)
  .simp only[qk,zd]at h;obtain⟨rfl,_,rfl⟩:=h;exact P8 j (BU (k (true,_) (yq.2 rfl)) H)
 cases g:o.op with
 | box t x =>
  simp only[Dk,g]at h;split at h<;>try (cases h;done)
  rename_i A e;simp only[km,zd]at h;obtain⟨u2,h,rfl,_⟩:=h;refine V8 j (A:=A) (v:=a.eval x) (elem:=t) (gm.cells (H x (by simp[g,Op.operands]) _ e) (Jf h)) h hag hag2 ?_;simp[execOp,g,Instr.box,newVar,newRow,Result.andThen]
 | alloc t =>
  simp only[Dk,g]at h;split at h<;>try (cases h;done)
  rename_i z E;simp only[km,zd]at h;obtain⟨u2,h,rfl,_⟩:=h;obtain⟨i,B,m⟩:=qg2.1 E;refine V8 j (A:=ofV z) (v:=z) (elem:=t) yK h hag hag2 ?_;simp[execOp,g,Instr.alloc,zeroValue,run_typeInfo _ B,m,newVar,newRow,Result.andThen]
 | load t x=>exact (WZ j g h H hag).2
 | store t x y=>exact (TP j g h H hag).2
 | buildSlice t n q=>exact (TN j g h H).2
 | call c =>
  cases l:c.callee with
  | value f =>
   cases f with
   | func f=>exact c_call j g l h H r k hag
   | _=>refine d ?_;simpa only[Dk,g,l]using h
  | builtin b =>
   cases b with
   | append=>exact P7 j g l h H k
   | _=>refine d ?_;simpa only[Dk,g,l]using h
  | _=>refine d ?_;simpa only[Dk,g,l]using h
 | _=>refine d ?_;simpa only[Dk,g]using h
def Inv.ops[pq](d:Inv Wb okb W0 ok0 ds nt β a w σL)(b:∀x∈Fb o,get σL x=get σ x):CK β (okB W0.heap.size ok0 β) a w σ o:=λx g v f =>
 ET f (λt e h c=>d.rep _ _ ot ((b _ (by subst e;unfold Fb;rw[List.mem_filterMap];exact⟨_,g,rfl⟩)).trans c))
def Co[pq]{y:Array Oper}{i:Nat}{rc:Rec}{K:Act->World->Prop}{Q:Exit->Act->World->Prop}(f:Inv Wb okb W0 ok0 ds nt β a w σL)(hi:y[i]?=some o)(h:El P T nt y C σ o=some (rc,C',ob))(H:∀s∈C,Holds P s)(B:∀p∈ob,p.2)
 (hag:∀x∈rc.rd,get σL x=get σ x) (hag2:∀x∈rc.ws,get σL x=get σ x) (hK:∀W1 ok1 β' a' w',Inv Wb okb W1 ok1 ds nt β' a' w' (rc.wr++σL)->K a' w'):wpOp P y Q i K a w:=by
 have I:∀g,zW P T nt C σ o g=some (rc,C',ob)->o.wp P a w K Q:=λg h=>by
  unfold zW at h;split at h<;>try (cases h;done)
  rename_i u S R J;split at h
  .rename_i d k;split at h<;>try (cases h;done)
   rename_i r;simp only[qk,zd]at h;obtain⟨rfl,rfl,rfl⟩:=h;refine Dl f J (f.ops (λx c=>hag x (by simp[c]))) H B (λx c=>hag x (by simp[c])) (λx c=>hag2 x (by simp only[Rec.ws,qb7,xb];exact .inr c)) K Q ?_;intro W1 ok1 β' w' z m L D q;refine hK W1 ok1 β' _ w' ((f.next m (wr:=((0,d),u.res.getD undefA)::u.mem) (λx c=>by simp only[qb7,xb];exact .inr c) (λx e=>by rw[k]at e;simp only[qk]at e;subst e;simp) (λx v c t=>?_) ?_))
   rotate_left
   .rw[qd2];exact qp.skip (l:=[((0,d),u.res.getD undefA)]) q ot
   simp only[xb,zd]at c;rcases c with⟨rfl,rfl⟩|c
   .exact⟨z,by rw[k];exact Fg a d z (by rw[f.sz];exact r),L⟩
   .exact D x v c t _
  .rename_i k;simp only[qk,zd]at h;obtain⟨rfl,rfl,rfl⟩:=h;refine Dl f J (f.ops (λx c=>hag x (by simp[c]))) H B (λx c=>hag x (by simp[c])) (λx c=>hag2 x c) K Q ?_;intro W1 ok1 β' w' z m L D q;exact hK W1 ok1 β' _ w' ((f.next m (wr:=u.mem) (λx c=>c) (λx e=>by rw[k]at e;cases e) (λx v c t=>D x v c t _) q))
 have hN:∀g,zX nt C o g=some (rc,C',ob)->K (a.put o.dst undef) w:=λg h=>by
  have m:=f.grow (w':=w) ⟨rfl,rfl,rfl,qv _,λ_ _ _=>rfl⟩;unfold zX at h;split at h
  .rename_i d k;split at h<;>try (cases h;done)
   rename_i r;simp only[qk,zd]at h;obtain⟨rfl,rfl,rfl⟩:=h;refine hK W0 ok0 β _ w (f.next m ot (λx e=>by rw[k]at e;simp only[qk]at e;subst e;simp) (λx v c _=>?_) (f.FK.skip ot));simp only[yq,zd]at c;obtain⟨rfl,rfl⟩:=c;exact⟨undef,by rw[k];exact Fg a d undef (by rw[f.sz];exact r),fI.v _⟩
  .rename_i k;simp only[qk,zd]at h;obtain⟨rfl,rfl,rfl⟩:=h;exact hK W0 ok0 β _ w (f.next m ot (λx e=>by rw[k]at e;cases e) ot f.FK)
 have O:∀g,zW P T nt C σ o g=some (rc,C',ob)->∀x∈g,x∈rc.rd:=λg h x c=>by
  unfold zW at h;split at h<;>try (cases h;done)
  split at h
  .split at h<;>try (cases h;done)
   simp only[qk,zd]at h;obtain⟨rfl,_⟩:=h;simp[c]
  .simp only[qk,zd]at h;obtain⟨rfl,_⟩:=h;simp[c]
 have A:∀g,zX nt C o g=some (rc,C',ob)->∀x∈g,x∈rc.rd:=λg h x c=>by
  unfold zX at h;split at h
  .split at h<;>try (cases h;done)
   simp only[qk,zd]at h;obtain⟨rfl,_⟩:=h;exact c
  .simp only[qk,zd]at h;obtain⟨rfl,_⟩:=h;exact c
 unfold wpOp;rw[hi];simp only;unfold El at h;split at h
 .rename_i n;rw[if_pos (by simp[Region.wanted,n])];exact .inl (I _ h)
 .rename_i j M n;split at h<;>try (cases h;done)
  rename_i d k;have F:∀(x:Value) (v:Value),get σ (0,d)=some (.of (.one (.d (.v x))))->(0,d)∈rc.rd->a.tmps[d]?=some x:=λx v e c=>by obtain⟨u,G,N⟩:=f.rep (0,d) _ ot ((hag _ c).trans e);rw[bW N]at G;exact G
  split at h<;>try (cases h;done)
  .rename_i b e;split at h
   .rename_i E;subst E;have:=F _ undef e (O _ h _ ot);rw[if_pos (by simp[Region.wanted,n,yielded,k,this])];exact .inl (I _ h)
   .rename_i E;have:=F _ undef e (A _ h _ ot);rw[if_neg (by simp[Region.wanted,n,yielded,k,this,E])];exact hN _ h
  .rename_i cs e;have:=F _ undef e (A _ h _ ot);rw[if_neg (by simp[Region.wanted,n,yielded,k,this])];exact hN _ h
end
def Ow{P:Program}{σ:St}{o:Oper}{T:Hints}{nt:Nat}{b:Array Oper}{C a:List Sp}{ob:Obl}{rc:Rec}(h:El P T nt b C σ o=some (rc,a,ob)):∀s∈a,s∈C:=by
 have c:∀g,zW P T nt C σ o g=some (rc,a,ob)->∀s∈a,s∈C:=λg h=>by
  unfold zW at h;split at h<;>try (cases h;done)
  rename_i u i f e;have:=TW e
  repeat' split at h
  all_goals first
   | (cases h;done)
   | (simp only[qk,zd]at h;obtain⟨_,rfl,_⟩:=h;exact this)
 have d:∀g,zX nt C o g=some (rc,a,ob)->∀s∈a,s∈C:=λg h=>by
  unfold zX at h
  repeat' split at h
  all_goals first
   | (cases h;done)
   | (simp only[qk,zd]at h;obtain⟨_,rfl,_⟩:=h;exact λ_ h=>h)
 unfold El at h
 repeat' split at h
 all_goals first
  | (cases h;done)
  | exact c _ h
  | exact d _ h
def acc (L:Nat->Bool):List Rec->Nat->St->St
 | [],_,σ=>σ
 | r::rs,i,σ=>acc L rs (i+1) (if L i then r.wr++σ else σ)
def get_hit:∀(l σ σ':St) (x:Loc),x∈l.map (·.1)->get (l++σ) x=get (l++σ') x
 | (k,u)::l,σ,σ',x,h=>by
  simp only[qd2,get];split
  .rfl
  .rename_i e;simp only[qb7,xb]at h;rcases h with h|h
   .exact absurd h.symm e
   .exact get_hit l σ σ' x h
def qw{L b:Nat->Bool}{x:Loc} : ∀(rs:List Rec) (i:Nat) (σ σ':St),get σ x=get σ' x->(∀(j:Nat) (r:Rec),rs[j]?=some r->x∈r.ws->L (i+j)=b (i+j))->get (acc L rs i σ) x=get (acc b rs i σ') x
 | [],i,σ,σ',h,_=>h
 | r::rs,i,σ,σ',h,c=>by
  simp only[acc];refine qw rs (i+1) _ _ ?_ (λj q d a=>by have:=c (j+1) q (by simpa using d) a;rwa [show i+(j+1)=i+1+j by omega]at this)
  by_cases a:x∈r.ws
  .have:=c 0 r rfl a;rw[qc0]at this;rw[this];split
   .exact get_hit _ _ _ _ a
   .exact h
  .split<;>split<;>simp only[get_skip _ _ _ a,h]
def acc_none:∀(rs:List Rec) (i:Nat) (σ:St) (L:Nat->Bool),(∀j,L (i+j)=false)->acc L rs i σ=σ
 | [],_,_,_,_=>rfl
 | r::rs,i,σ,L,h=>by have a:=h 0;rw[qc0]at a;simp only[acc,a];exact acc_none rs (i+1) σ L (λj=>by have:=h (j+1);rwa [show i+(j+1)=i+1+j by omega]at this)
def acc_succ:∀(rs:List Rec) (i b:Nat) (σ:St) (r:Rec),rs[i]?=some r->acc (λj=>decide (j<b+(i+1))) rs b σ=r.wr++acc (λj=>decide (j<b+i)) rs b σ
 | q::rs,0,b,σ,r,h=>by simp only[kl,qk]at h;subst h;simp only[acc];rw[acc_none rs (b+1) _ _ (λj=>US),acc_none rs (b+1) _ _ (λj=>US)];simp
 | q::rs,i+1,b,σ,r,h=>by simp only[acc];have:=acc_succ rs i (b+1) (q.wr++σ) r (by simpa using h);rw[if_pos US,if_pos US];simp only[show b+(i+1+1)=b+1+(i+1) by omega,show b+(i+1)=b+1+i by omega];exact this
def acc_all:∀(rs:List Rec) (b:Nat) (σ:St),acc (λj=>decide (j<b+rs.length)) rs b σ=rs.foldl (λs r=>r.wr++s) σ
 | [],_,_=>rfl
 | r::rs,b,σ=>by simp only[acc,jn,List.foldl_cons];rw[if_pos ot];have:=acc_all rs (b+1) (r.wr++σ);rwa [show b+1+rs.length=b+(rs.length+1) by omega]at this
section
variable {P:Program}{Wb W0:World}{okb ok0:Nat->Prop}{ds:List Deferred}{nt:Nat}{β:Nat->Option Nat}{a:Act}{w:World}{σ σ':St}{T:Hints}{C C':List Sp}{ob:Obl}{ops:Array Oper}{rs:List Rec}{Q:Exit->Act->World->Prop}
def Inv.congr[pq](h:Inv Wb okb W0 ok0 ds nt β a w σ)(e:∀x,get σ x=get σ' x):Inv Wb okb W0 ok0 ds nt β a w σ' :=
 ⟨h.gr,h.new,h.inj,λk b d=>by rw[<-e];exact h.dom k b d,λx v c f=>h.rep x v c (by rw[e];exact f),h.XU,h.sz,h.nk,h.FK.congr (λq=>(e _).symm)⟩
def Inv.drew[pq](h:Inv Wb okb W0 ok0 ds nt β a w σ):Inv Wb okb W0 ok0 ds nt β a { w with drawn:=w.drawn+1 } σ:=by have g:w.grownBy { w with drawn:=w.drawn+1 } none:=⟨rfl,rfl,rfl,qv _,λ_ _ _=>rfl⟩;exact (h.next (h.grow g) (wr:=[]) (d:=none) (u:=undef) ot ot ot h.FK)
def evR_at:∀(l:List Oper) (C:List Sp) (σ σ':St) (C':List Sp) (ob:Obl) (rs:List Rec),Xg P T nt ops l C σ=some (σ',C',ob,rs) ->
 (∀s∈C',s∈C)/\rs.length=l.length/\σ'=rs.foldl (λs r=>r.wr++s) σ/\∀(i:Nat) (o:Oper),l[i]?=some o->∃r d f a,rs[i]?=some r/\El P T nt ops d (acc (λj=>decide (j<i)) rs 0 σ) o=some (r,f,a)/\(∀s∈d,s∈C)/\∀p∈a,p∈ob
 | [],C,σ,σ',C',ob,rs,h=>by simp only[Xg,qk,zd]at h;obtain⟨rfl,rfl,rfl,rfl⟩:=h;exact⟨λ_ h=>h,rfl,rfl,λi o h=>by simp at h⟩
 | o::l,C,σ,σ',C',ob,rs,h=>by
  simp only[Xg]at h;split at h<;>try (cases h;done)
  rename_i e n m t;split at h<;>try (cases h;done)
  rename_i σ2 H G c z;simp only[qk,zd]at h;obtain⟨rfl,rfl,rfl,rfl⟩:=h;obtain⟨B,D,E,F⟩:=evR_at l n (e.wr++σ) _ _ _ _ z;have u:=Ow t;refine⟨λs h=>u s (B s h),by simp[D],by simp[E],λi q k=>?_⟩
  cases i with
  | zero =>
   simp only[kl,qk]at k;subst k;refine⟨e,C,n,m,rfl,?_,λ_ h=>h,λp g=>by simp[g]⟩;rw[acc_none _ _ _ _ (λj=>ot)];exact t
  | succ i =>
   obtain⟨r,d,f,a,v,w,x,y⟩:=F i q (by simpa using k);refine⟨r,d,f,a,by simpa using v,?_,λs h=>u s (x s h),λp g=>by simp[y p g]⟩;simp only[acc];rw[if_pos ot];have : acc (λj=>decide (j<i+1)) c (0+1) (e.wr++σ)=acc (λj=>decide (j<i)) c 0 (e.wr++σ):=by
    have sh:∀(rs:List Rec) (b:Nat) (σ:St),acc (λj=>decide (j<i+1)) rs (b+1) σ=acc (λj=>decide (j<i)) rs b σ:=λrs=>by
     induction rs with
     | nil=>intros;rfl
     | cons r rs A =>
      intro b σ;simp only[acc,Nat.add_lt_add_iff_right];exact A _ _
    exact sh _ _ _
   rw[this];exact w
def Ou[pq](b:Inv Wb okb W0 ok0 ds nt β a w σ)(h:Xg P T nt ops ops.toList C σ=some (σ',C',ob,rs))(q:∀s∈C,Holds P s)(f:∀p∈ob,p.2)
 (hQ:∀W1 ok1 β' a' w',Inv Wb okb W1 ok1 ds nt β' a' w' σ'->Q .normal a' w'):wpOps P ops Q (List.range ops.size) a w:=by
 obtain⟨_,y,z,A⟩:=evR_at _ _ _ _ _ _ _ h;have g:∀(n i:Nat) (W0:World) (ok0:Nat->Prop) (β:Nat->Option Nat) (a:Act) (w:World),i+n=ops.size->Inv Wb okb W0 ok0 ds nt β a w (acc (λj=>decide (j<i)) rs 0 σ)->wpOps P ops Q (List.range' i n) a w:=λn=>by
  induction n with
  | zero =>
   intro i W0 ok0 β a w t b;simp only[List.range'_zero,wpOps];refine hQ W0 ok0 β a w ?_;have e:i=0+rs.length:=by rw[y,qh7];omega
   rw[e,acc_all,<-z]at b;exact b
  | succ n x =>
   intro i W0 ok0 β a w t b;rw[List.range'_succ,wpOps_cons];have c:i<ops.size:=od
   obtain⟨r,D,E,B,k,l,m,o⟩:=A i ops[i] (by simp[c]);refine Co b (qa6 c) l (λs v=>q s (m s v)) (λp u=>f p (o p u)) (λ_ _=>rfl) (λ_ _=>rfl) (λW1 ok1 β' a' w' d=>x (i+1) W1 ok1 β' a' w' od ?_);have:=acc_succ rs i 0 σ r k;simp only[qa4]at this;rw[this];exact d
 have:=g ops.size 0 W0 ok0 β a w od (by rw[acc_none _ _ _ _ (λj=>ot)];exact b);rwa [List.range_eq_range']
def xR{a b:List Loc}{x:Loc}(c:x∈a)(d:x∈b):meets a b=true:=by unfold meets;rw[qh3];exact⟨x,c,by rw[qh3];exact⟨x,d,ot⟩⟩
def Dh{A:List Oper}{o:Oper}{r:Rec} : ∀(l:List Rec) (b:Nat),AZ A o r b l=true->∀(i:Nat) (q:Rec),l[i]?=some q->clash q r=true->waits A 9 o (b+i)=true
 | q::l,b,h,0,d,a,c=>by simp only[kl,qk]at a;subst a;simp only[AZ,qu,qc7,c]at h;simpa using h.1
 | q::l,b,h,i+1,d,a,c=>by simp only[AZ,qu]at h;have:=Dh l (b+1) h.2 i d (by simpa using a) c;rwa [show b+1+i=b+(i+1) by omega]at this
def TQ{A:List Oper}(os:List Oper):∀(rs dn:List Rec) (b:Nat),dn.length=b->calm A os rs dn b=true->∀(i:Nat) (o:Oper) (r:Rec),os[i]?=some o->rs[i]?=some r ->
 (∀e∈o.after.toList,Region.binds .any e=true->e.on<b+i)/\∀(k:Nat) (q:Rec),(dn++rs)[k]?=some q->k<b+i->clash q r=true->waits A 9 o k=true:=by
 induction os with
 | nil=>intro rs dn b _ _ i o r h;simp at h
 | cons o os p =>
  intro rs dn b d h i s t c a
  cases rs with
  | nil=>simp at a
  | cons r rs =>
   simp only[calm,qu,zr,qc7,ja1,ki]at h;obtain⟨⟨g,j⟩,l⟩:=h
   cases i with
   | zero =>
    simp only[kl,qk]at c a;subst c;subst a;refine⟨λe n d=>(j e n).resolve_left (by simp[d]),λk q f u m=>?_⟩;have:=Dh dn 0 g k q (by rw[jt od]at f;exact f) m;rwa [qa4]at this
   | succ i =>
    have:=p rs (dn++[r]) (b+1) (by simp[d]) l i s t (by simpa using c) (by simpa using a);rw[show b+1+i=b+(i+1) by omega,ub,jd2]at this;exact this
def sP{A:List Oper}{L:Nat->Bool}(b:∀(i:Nat) (o:Oper),A[i]?=some o->L i=true->∀k,edge o k=true->L k=true):∀(n:Nat) (o:Oper) (k:Nat),(∀k,edge o k=true->L k=true)->waits A n o k=true->L k=true
 | 0,_,_,_,h=>by cases h
 | n+1,o,k,c,h=>by
  simp only[waits,qc7,qh3,qu]at h;rcases h with h|⟨e,g,f,h⟩
  .exact c k h
  .cases a:A[e.on]? with
   | none=>rw[a]at h;cases h
   | some d =>
    rw[a]at h;refine sP b n d k (b e.on d a (c e.on ?_)) h;unfold edge;rw[qh3];exact⟨e,g,by simp[f]⟩
def M5[pq](I:Inv Wb okb W0 ok0 ds nt β a w σ)(h:Xg P T nt ops ops.toList C σ=some (σ',C',ob,rs))(N:calm ops.toList ops.toList rs [] 0=true)(hC:∀s∈C,Holds P s)(aj:∀p∈ob,p.2)
 (hQ:∀W1 ok1 β' a' w',Inv Wb okb W1 ok1 ds nt β' a' w' σ'->Q .normal a' w'):wpAny P .any ops Q ops.size (Array.replicate ops.size false) a w:=by
 obtain⟨_,k2,k3,k4⟩:=evR_at _ _ _ _ _ _ _ h;replace k2:rs.length=ops.size:=k2.trans qh7;have M:∀(i:Nat) (o:Oper) (r:Rec),ops[i]?=some o->rs[i]?=some r->(∀e∈o.after.toList,Region.binds .any e=true->e.on<i)/\∀(k:Nat) (q:Rec),rs[k]?=some q->k<i->clash q r=true->waits ops.toList 9 o k=true:=λi o r h1 h2=>by have:=TQ ops.toList rs [] 0 rfl N i o r (by simpa using h1) h2;simpa using this
 -- what is c waits for nothing
 have ao:∀(t:Nat) (c:Array Bool) (W0:World) (ok0:Nat->Prop) (β:Nat->Option Nat) (a:Act) (w:World),c.size=ops.size->((List.range ops.size).filter λi=>!c.getD i true).length<=t ->
  (∀(i:Nat) (o:Oper),ops[i]?=some o->c.getD i true=true->∀k,edge o k=true->c.getD k false=true) ->
  Inv Wb okb W0 ok0 ds nt β a w (acc (λj=>c.getD j false) rs 0 σ)->wpAny P .any ops Q t c a w:=λt=>by
  have done:∀(c:Array Bool) (W0:World) (ok0:Nat->Prop) (β:Nat->Option Nat) (a:Act) (w:World),c.size=ops.size->Region.ready .any ops c=[]->Inv Wb okb W0 ok0 ds nt β a w (acc (λj=>c.getD j false) rs 0 σ)->Q .normal a w:=λc W0 ok0 β a w g S I=>by
   have ab:∀n i,i<n->i<ops.size->c.getD i false=true:=λn=>by
    induction n with
    | zero=>intro i G;omega
    | succ n ih =>
     intro i G d
     by_cases hc:c.getD i true=true
     .simpa[yi,g,d]using hc
     .exfalso;have v:i∈Region.ready .any ops c:=by
       unfold Region.ready;rw[jc3];refine⟨by simpa using d,?_⟩;obtain⟨r,_,_,_,an,_⟩:=k4 i ops[i] (by simp[d]);have ak:=(M i ops[i] r (qa6 d) an).1;simp only[qa6 d,qg6,jd0,qu,ja1,ja6];refine⟨by simpa using hc,λe V=>?_⟩
       cases U:Region.binds .any e with
       | false=>rfl
       | true =>
        have:=ak e (by simpa using V) U;rw[ih e.on od od];rfl
      rw[S]at v;cases v
   refine hQ W0 ok0 β a w (I.congr (λx=>?_));rw[k3,<-acc_all rs 0 σ];refine qw rs 0 σ σ rfl (λj r B _=>?_);have d:j<ops.size:=by rw[<-k2];exact (jj.1 B).1
   rw[qa4,ab (j+1) j od d];simp;omega
  induction t with
  | zero =>
   intro c W0 ok0 β a w g F f I;have K:((List.range ops.size).filter λi=>!c.getD i true)=[]:=ju od;have S:Region.ready .any ops c=[]:=by unfold Region.ready;rw[List.filter_eq_nil_iff]at K|-;intro i G;have:=K i G;simp only[Bool.not_eq_true,Bool.not_eq_false']at this;simp[this]
   exact⟨S,done c W0 ok0 β a w g S I⟩
  | succ t ih =>
   intro c W0 ok0 β a w g F f I;refine⟨λS=>done c W0 ok0 β a w g S I,λi G=>?_⟩;unfold Region.ready at G;rw[jc3]at G;obtain⟨W,X⟩:=G;have d:i<ops.size:=by simpa using W
   simp only[qa6 d,qg6,jd0,qu,ja1,ja6]at X;obtain⟨aa,E⟩:=X;have y:∀k,edge ops[i] k=true->c.getD k false=true:=λk R=>by unfold edge at R;rw[qh3]at R;obtain⟨e,V,U⟩:=R;simp only[qu,beq_iff_eq]at U;have:=E e (by simpa using V);simp only[U.1,Bool.not_true,Bool.false_or]at this;rw[<-U.2];exact this
   have m:∀(i:Nat) (o:Oper),ops.toList[i]?=some o->c.getD i false=true->∀k,edge o k=true->c.getD k false=true:=λi o h1 h2=>f i o (by simpa using h1) (by
    have : i<ops.size:=by simpa using (jj.1 h1).1
    simpa[yi,g,this]using h2)
   have L:c.getD i false=false:=by simpa[yi,g,d]using aa
   obtain⟨r,Ci,Cj,aq,e1,e2,e3,e4⟩:=k4 i ops[i] (by simp[d]);have ah:=M i ops[i] r (qa6 d) e1
   -- writers of what it touches
   have wr:∀x,(x∈r.rd\/x∈r.ws)->∀(j:Nat) (q:Rec),rs[j]?=some q->x∈q.ws->c.getD j false=decide (j<i):=λx l j q A D=>by
    have B:j<ops.size:=by rw[<-k2];exact (jj.1 A).1
    rcases Nat.lt_trichotomy j i with J|rfl|ai
    .have O:clash q r=true:=by
      unfold clash;rcases l with l|l
      .rw[xR D l];rfl
      .rw[xR D l];simp
     rw[sP m _ _ j y (ah.2 j q A J O)];simp[J]
    .rw[L];simp
    .have O:clash r q=true:=by
      unfold clash;rcases l with l|l
      .rw[xR l D];simp
      .rw[xR l D];simp
     have V:=(M j ops[j] q (qa6 B) A).2 i r e1 ai O
     cases hL:c.getD j false with
     | false=>simp;omega
     | true =>
      have ae:c.getD j true=true:=by simpa[yi,g,B]using hL
      have:=sP m _ _ i (f j ops[j] (qa6 B) ae) V;rw[L]at this;cases this
   have z:∀x,(x∈r.rd\/x∈r.ws)->get (acc (λj=>c.getD j false) rs 0 σ) x=get (acc (λj=>decide (j<i)) rs 0 σ) x:=λx l =>
    qw rs 0 σ σ rfl (λj q A D=>by rw[qa4];exact wr x l j q A D)
   refine Co I (qa6 d) e2 (λs hs=>hC s (e3 s hs)) (λp hp=>aj p (e4 p hp)) (λx l=>z x (.inl l)) (λx l=>z x (.inr l)) (λW1 ok1 β' a' w' ad=>?_);have u:∀(j:Nat) (b:Bool),(c.setIfInBounds i true).getD j b=if j=i then true else c.getD j b:=λj b=>by
    simp only[yi,Array.getElem?_setIfInBounds]
    by_cases e:i=j
    .subst e;simp[g,d]
    .simp[e,Ne.symm e]
   refine ih (c.setIfInBounds i true) W1 ok1 β' a' w' (by simpa using g) ?_ ?_ (ad.congr (λx=>?_))
   .have v:i∈(List.range ops.size).filter λi=>!c.getD i true:=by rw[jc3];exact⟨W,by simp[aa]⟩
    have Z:((List.range ops.size).filter λj=>!(c.setIfInBounds i true).getD j true)=(((List.range ops.size).filter λj=>!c.getD j true)).filter (λj=>decide (j≠i)):=by
     rw[List.filter_filter];refine List.filter_congr (λj _=>?_);rw[u]
     by_cases e:j=i<;>simp[e]
    rw[Z];have : ((((List.range ops.size).filter λj=>!c.getD j true)).filter (λj=>decide (j≠i))).length<((List.range ops.size).filter λj=>!c.getD j true).length :=
     List.length_filter_lt_length_iff_exists.2 ⟨i,v,ot⟩
    omega
   .intro j o B Y k R;rw[u];rw[u]at Y
    by_cases ek:k=i
    .simp[ek]
    .rw[if_neg ek]
     by_cases H:j=i
     .subst H;rw[qa6 d]at B;simp only[qk]at B;subst B;exact y k R
     .rw[if_neg H]at Y;exact f j o B Y k R
   .by_cases l:x∈r.ws
    .have s1:=acc_succ rs i 0 σ r e1;simp only[qa4]at s1;rw[get_hit r.wr _ (acc (λj=>decide (j<i)) rs 0 σ) x l,<-s1];refine qw rs 0 σ σ rfl (λj q A D=>?_);rw[qa4,u]
     by_cases H:j=i
     .simp[H]
     .rw[if_neg H,wr x (.inr l) j q A D];simp;omega
    .rw[get_skip _ _ _ l];refine qw rs 0 σ σ rfl (λj q A D=>?_);rw[qa4,u]
     by_cases H:j=i
     .subst H;rw[e1]at A;simp only[qk]at A;subst A;exact absurd D l
     .rw[if_neg H]
 refine ao ops.size _ W0 ok0 β a w ot (kh (List.length_filter_le _ _) ot) ?_ ?_
 .intro i o G Y;have d:i<ops.size:=(qq.1 G).1;simp[yi,d]at Y
 .rw[acc_none]
  .exact I
  .intro j;simp only[yi,Array.getElem?_replicate];split<;>rfl
end
def exOf:Nat->Exit
 | 0=>.normal
 | 1=>.ret
 | n+2=>.exit n
def tL (P:Program) (c:Code) (Q:Exit->Act->World->Prop) (a:Act) (w:World):Prop :=
 ∀(b:Frame) (k:List Item) (cs:List Frame),∃e a' w',Q e a' w'/\Arrives P (lone (b.at a (.code c :: .inLoop c::k)) cs w) b k cs e a' w'
def tL.wp{P:Program}{c:Code}{Q:Exit->Act->World->Prop}{a:Act}{w:World}(h:tL P c Q a w):(Code.loop c).wp P Q a w :=
 λb k cs=>let ⟨e,a',w',q,r⟩:=h b k cs;⟨e,a',w',q,.of_steps (.one step_loop) r⟩
def tL.round{P:Program}{c:Code}{Q:Exit->Act->World->Prop}{a:Act}{w:World}(h:c.wp P (Exit.then (tL P c Q) Q) a w):tL P c Q a w:=by
 intro b k cs;obtain⟨e,a₁,w₁,f,d⟩:=h b (.inLoop c::k) cs
 cases e with
 | normal =>
  obtain⟨e₂,a₂,w₂,hq₂,harr₂⟩:=f b k cs;exact⟨e₂,a₂,w₂,hq₂,.of_steps (Steps.trans d (.one step_inLoop)) harr₂⟩
 | exit i=>exact⟨_,a₁,w₁,f,.pass (x:=.inLoop c) rfl (λ_ _=>.inl ot) d⟩
 | goto l=>exact⟨_,a₁,w₁,f,.pass (x:=.inLoop c) rfl (λ_ _=>.inl ot) d⟩
 | ret=>exact⟨_,a₁,w₁,f,.pass (x:=.inLoop c) rfl (λ_ _=>.inl ot) d⟩
 | panic g=>exact⟨_,a₁,w₁,f,.pass (x:=.inLoop c) rfl (λ_ _=>.inl ot) d⟩
 | outgrown=>exact⟨_,a₁,w₁,f,.pass (x:=.inLoop c) rfl (λ_ _=>.inl ot) d⟩
def vO [pq] (P:Program) (nt:Nat) (l:Lp):Prop:=∀(Wb:World) (okb:Nat->Prop) (W0:World) (ok0:Nat->Prop) (ds:List Deferred) (β:Nat->Option Nat) (a:Act) (w:World) (Q:Exit->Act->World->Prop),Inv Wb okb W0 ok0 ds nt β a w l.pre->(∀W1 ok1 β' a' w',Inv Wb okb W1 ok1 ds nt β' a' w' l.post->Q (exOf l.ex) a' w')->tL P l.body Q a w
section
variable {P:Program}{Wb W0:World}{okb ok0:Nat->Prop}{ds:List Deferred}{nt:Nat}{T:Hints}{L:List Lp}
def get_mem:∀(S:St) (x:Loc) (v:AV),get S x=some v->(x,v)∈S
 | (k,u)::r,x,v,h=>by
  simp only[get]at h;split at h
  .rename_i e;simp only[qk]at h;subst e;subst h;simp
  .simp[get_mem r x v h]
def Inv.forget[pq]{β:Nat->Option Nat}{a:Act}{w:World}{σ S:St}(h:Inv Wb okb W0 ok0 ds nt β a w σ)(hk:∀e∈S,get σ e.1=some e.2)(L:S.all (λe=>LB S e.2&&(e.1.1==0||(get S (e.1.1,0)).isSome))=true)(m:(get σ (1000001,0)).isNone=true):∃β',Inv Wb okb W0 ok0 ds nt β' a w S:=by
 let β':Nat->Option Nat:=λk=>if (get S (k+1,0)).isSome then β k else none
 have A:∀k b,β' k=some b->β k=some b:=λk b e=>by
  simp only[β']at e;split at e
  .exact e
  .cases e
 have o:zH (okB W0.heap.size ok0 β) w (okB W0.heap.size ok0 β') w:=⟨qv _,λb Q r=>⟨by
  rcases r with r|r
  .exact .inl r
  .exact .inr ⟨r.1,λk e=>r.2 k (A k b e)⟩,λ_=>rfl⟩⟩
 have C:∀(x:X) (v:Value),kept S x=true->jm β (okB W0.heap.size ok0 β) w x v->jm β' (okB W0.heap.size ok0 β') w x v:=λx v s l=>by
  cases x with
  | p k q =>
   obtain⟨b,g,c⟩:=l;exact⟨b,by simp only[β'];rw[if_pos (show (get S (k+1,0)).isSome=true from s)];exact g,c⟩
  | d y=>exact jm.keep (β:=λ_=>none) o (λ_ _ e=>by cases e) (.d y) v l
  | e cs q=>exact jm.keep (β:=λ_=>none) o (λ_ _ e=>by cases e) (.e cs q) v l
  | f n K=>exact jm.keep (β:=λ_=>none) o (λ_ _ e=>by cases e) (.f n K) v l
 have F:∀(x:A1) (v:Value),x.xs.all (kept S)=true->gm β (okB W0.heap.size ok0 β) w x v->gm β' (okB W0.heap.size ok0 β') w x v:=λx v s l=>by
  cases x with
  | one y=>exact C y v (by simpa[A1.xs]using s) l
  | agg P =>
   obtain⟨E,e,B⟩:=l;refine⟨E,e,dU.of B.length (λi y u g c=>?_)⟩;obtain⟨O,t,z⟩:=B.get _ _ g;rw[t]at c;simp only[qk]at c;subst c;exact C y _ (zr.1 s _ (qa1 g)) z
 refine⟨β',h.gr,λk b e=>h.new k b (A k b e),λk H b e I=>h.inj k H b (A k b e) (A H b I),λk b e=>?_,λx v D s=>?_,h.XU,h.sz,?_,?_,?_⟩
 .simp only[β']at e;split at e
  .assumption
  .cases e
 .have G:=get_mem S x v s;have j:=zr.1 L _ G;simp only[qu,qc7]at j;have l:=h.rep x v D (hk _ G);obtain⟨k,q⟩:=x
  cases k with
  | zero =>
   obtain⟨u,g,c⟩:=l;refine⟨u,g,?_⟩
   cases v with
   | of y=>exact F y u j.1 c
   | rz P =>
    obtain⟨E,e,B⟩:=c;refine⟨E,e,dU.of B.length (λi y u g c=>?_)⟩;obtain⟨O,t,z⟩:=B.get _ _ g;rw[t]at c;simp only[qk]at c;subst c;exact F y _ (zr.1 j.1 _ (qa1 g)) z
  | succ k =>
   obtain⟨b,u,y,g,rfl,t,z,J⟩:=l;have M:(get S (k+1,0)).isSome=true:=by simpa using j.2
   exact⟨b,u,y,by simp only[β'];rw[if_pos M];exact g,rfl,t,z,C y u (by simpa[LB,A1.xs]using j.1) J⟩
 .simp only[β',h.nk,ite_self]
 .exact λ_=>⟨(h.FK.1 (qh4.1 m)).1,λk b e=>(h.FK.1 (qh4.1 m)).2 k b (A k b e)⟩
 .intro v N;have:=hk _ (get_mem S _ v N);rw[qh4.1 m]at this;cases this
def rG[pq](N:∀l∈L,vO P nt l)(V:P.follows .mixedOrders=true)(c:Code):∀(C:List Sp) (σ:St) (e:Nat) (σ':St) (C':List Sp) (ob:Obl),Dt P T L nt c C σ=some (e,σ',C',ob)->(∀s∈C,Holds P s)->(∀p∈ob,p.2) ->
 (∀s∈C',s∈C)/\∀(W0:World) (ok0:Nat->Prop) (β:Nat->Option Nat) (a:Act) (w:World) (Q:Exit->Act->World->Prop),Inv Wb okb W0 ok0 ds nt β a w σ->(∀W1 ok1 β' a' w',Inv Wb okb W1 ok1 ds nt β' a' w' σ'->Q (exOf e) a' w')->c.wp P Q a w:=by
 induction c with
 | skip =>
  intro C σ e σ' C' ob h g b;simp only[Dt,qk,zd]at h;obtain⟨rfl,rfl,rfl,rfl⟩:=h;exact⟨λ_ h=>h,λW0 ok0 β a w Q d f=>wp_skip (f W0 ok0 β a w d)⟩
 | region H ops r =>
  intro C σ e σ' C' ob h g b;simp only[Dt]at h;split at h<;>try (cases h;done)
  rename_i σ2 I u rs E;split at h<;>try (cases h;done)
  rename_i R;simp only[qk,zd]at h;obtain⟨rfl,rfl,rfl,rfl⟩:=h;refine⟨(evR_at _ _ _ _ _ _ _ E).1,λW0 ok0 β a w Q d f=>?_⟩
  cases r with
  | false=>exact wp_region (Ou d E g b f)
  | true=>exact wp_region_any V (M5 d.drew E (by simpa using R) g b f)
 | seq x y k o =>
  intro C σ e σ' C' ob h g b;simp only[Dt]at h;split at h
  .rename_i σ1 Z X M;split at h<;>try (cases h;done)
   rename_i J σ2 I u z;simp only[qk,zd]at h;obtain⟨rfl,rfl,rfl,rfl⟩:=h;obtain⟨j,m⟩:=k _ _ _ _ _ _ M g (λp D=>b p (by simp[D]));obtain⟨Y,W⟩:=o _ _ _ _ _ _ z (λs F=>g s (j s F)) (λp D=>b p (by simp[D]));exact⟨λs F=>j s (Y s F),λW0 ok0 β a w Q d f=>wp_seq (m W0 ok0 β a w _ d (λW1 ok1 β' a' w' i=>W W1 ok1 β' a' w' Q i f))⟩
  .rename_i B;obtain⟨j,m⟩:=k _ _ _ _ _ _ h g b;refine⟨j,λW0 ok0 β a w Q d f=>wp_seq (m W0 ok0 β a w _ d (λW1 ok1 β' a' w' i=>?_))⟩;have:=f W1 ok1 β' a' w' i
   match e,h,this with
   | 0,h,_=>exact absurd h (B _ _ _)
   | 1,_,t=>exact t
   | n+2,_,t=>exact t
 | cond c x y k o =>
  intro C σ e σ' C' ob h g b;simp only[Dt]at h;split at h<;>try (cases h;done)
  .rename_i q;obtain⟨j,m⟩:=k _ _ _ _ _ _ h g b;exact⟨j,λW0 ok0 β a w Q d f=>wp_cond_true (bW (ET q (λt _ v G=>d.rep _ _ ot G))) (m W0 ok0 β a w Q d f)⟩
  .rename_i q;obtain⟨j,m⟩:=o _ _ _ _ _ _ h g b;exact⟨j,λW0 ok0 β a w Q d f=>wp_cond_false (bW (ET q (λt _ v G=>d.rep _ _ ot G))) (m W0 ok0 β a w Q d f)⟩
 | block H c K =>
  intro C σ e σ' C' ob h g b;simp only[Dt]at h;split at h<;>try (cases h;done)
  rename_i J σ2 I u z;simp only[qk,zd]at h;obtain⟨rfl,rfl,rfl,rfl⟩:=h;obtain⟨j,m⟩:=K _ _ _ _ _ _ z g b;refine⟨j,λW0 ok0 β a w Q d f=>wp_block (m W0 ok0 β a w _ d (λW1 ok1 β' a' w' i=>?_))⟩;have:=f W1 ok1 β' a' w' i
  match J,this with
  | 0,t=>exact (by simpa using t:Q (exOf 0) a' w')
  | 1,t=>exact (by simpa using t:Q (exOf 1) a' w')
  | n+2,t =>
   simp only[exOf,Exit.inBlock]
   by_cases A:n=H
   .subst A;simpa[exOf]using t
   .rw[if_neg A];simpa[A,exOf]using t
 | exit H =>
  intro C σ e σ' C' ob h g b;simp only[Dt,qk,zd]at h;obtain⟨rfl,rfl,rfl,rfl⟩:=h;exact⟨λ_ h=>h,λW0 ok0 β a w Q d f=>wp_exit (f W0 ok0 β a w d)⟩
 | ret =>
  intro C σ e σ' C' ob h g b;simp only[Dt,qk,zd]at h;obtain⟨rfl,rfl,rfl,rfl⟩:=h;exact⟨λ_ h=>h,λW0 ok0 β a w Q d f=>wp_ret (f W0 ok0 β a w d)⟩
 | loop c K =>
  intro C σ e σ' C' ob h g b;simp only[Dt]at h;split at h<;>try (cases h;done)
  rename_i L2 l;split at h<;>try (cases h;done)
  rename_i q;simp only[qk,zd]at h;obtain⟨rfl,rfl,rfl,rfl⟩:=h;refine⟨λ_ h=>h,λW0 ok0 β a w Q d f=>?_⟩;have O:l.body=c:=b (true,_) (List.mem_cons_self ..);obtain⟨β',i⟩:=d.forget (S:=l.pre) (λe U=>b (true,_) (by simp only[xb,known,qa7];exact .inr ⟨e,U,rfl⟩)) q.1 q.2;have:=(N l ot Wb okb W0 ok0 ds β' a w Q i f).wp;rwa [O]at this
 | _=>intro C σ e σ' C' ob h;simp[Dt]at h
def qU[pq]{β:Nat->Option Nat}{a:Act}{w:World}{σ:St}{r:ResultVar}{A:A1}(l:Inv Wb okb W0 ok0 ds nt β a w σ)(g:ResultVar->Sem Value)(p:∀t,g (.tmp t)=pure (a.tmps.getD t undef))(s:∀x t,g (.cell x t)=do loadVar t (<-asAddr (a.tmps.getD x undef)))(h:Ie P σ r=some A) :
 ∃u,(g r).run P w =.ok u w/\gm β (okB W0.heap.size ok0 β) w A u:=by
 unfold Ie at h;split at h
 .rename_i t;split at h<;>try (cases h;done)
  rename_i H e;simp only[qk]at h;subst h;obtain⟨u,c,f⟩:=l.rep _ _ ot e;exact⟨u,by rw[p];simp[yi,c],f⟩
 .rename_i x t;split at h<;>try (cases h;done)
  rename_i k q d i e D C;split at h<;>try (cases h;done)
  split at h<;>try (cases h;done)
  rename_i v m;simp only[qk]at h;subst h;obtain⟨J,c,f⟩:=qg2.1 m;obtain⟨u,o,b,y,rfl⟩:=l.rep _ _ ot e;obtain⟨I,n,B⟩:=EL l y c (λ_ _=>rfl);obtain⟨z,E,F,G⟩:=E9 f n;have:=uJ (P:=P) (w:=w) (b:=b) (q:=q) D C (n.length.trans (mJ _ _ _ c).1) (λj v m=>(B j v m).1) F G;exact⟨z,by rw[s];simp[yi,o,asAddr,this],E⟩
def Og[pq]{o:Func}{β:Nat->Option Nat}{a:Act}{w:World}{σ:St}{v:AV}(d:Inv Wb okb W0 ok0 ds nt β a w σ)(g:ResultVar->Sem Value)(b:∀t,g (.tmp t)=pure (a.tmps.getD t undef))(c:∀x t,g (.cell x t)=do loadVar t (<-asAddr (a.tmps.getD x undef)))(h:U2 P σ o.results.toList=some v) :
 ∃u,(do let vs <-o.results.mapM g;pure (if h:vs.size=1 then vs[0]else .tuple vs):Sem Value).run P w =.ok u w/\iZ β (okB W0.heap.size ok0 β) w v u:=by
 rw[qa3,Array.mapM_eq_mapM_toList,Sem.run_map];unfold U2 at h;split at h<;>try (cases h;done)
 .rename_i r i;simp only[km]at h;obtain⟨A,h,rfl⟩:=h;obtain⟨u,e,f⟩:=qU d g b c h;refine⟨u,?_,f⟩;rw[i,jf4,qa3];rw[e];simp[Result.andThen]
 .rename_i r s i;split at h<;>try (cases h;done)
  rename_i A B m n;simp only[qk]at h;subst h;obtain⟨u,e,f⟩:=qU d g b c m;obtain⟨j,k,l⟩:=qU d g b c n;refine⟨.tuple #[u,j],?_,[u,j],rfl,f,l,trivial⟩;rw[i,jf4,qa3];rw[e];simp only[Result.andThen];rw[qa3,jf4,qa3];rw[k];simp[Result.andThen]
 .rename_i r s t i;split at h<;>try (cases h;done)
  rename_i A B C m n y;simp only[qk]at h;subst h;obtain⟨u,e,f⟩:=qU d g b c m;obtain⟨j,k,l⟩:=qU d g b c n;obtain⟨u2,p,q⟩:=qU d g b c y;refine⟨.tuple #[u,j,u2],?_,[u,j,u2],rfl,f,l,q,trivial⟩;rw[i,jf4,qa3];rw[e];simp only[Result.andThen];rw[qa3,jf4,qa3];rw[k];simp only[Result.andThen];rw[qa3,jf4,qa3];rw[p];simp[Result.andThen]
def Ig[pq]{b:Func}{β:Nat->Option Nat}{a:Act}{w:World}{σ:St}{v:AV}(c:Inv Wb okb W0 ok0 ds nt β a w σ)(h:U2 P σ b.results.toList=some v) :
 ∃u,(results b a.tmps).run P w =.ok u w/\iZ β (okB W0.heap.size ok0 β) w v u:=Og c _ (λ_=>rfl) (λ_ _=>rfl) h
end
def closed (S:St):Bool:=S.all (λe=>LB S e.2&&(e.1.1==0||(get S (e.1.1,0)).isSome))
def loopOf:Code->Option Code
 | .loop c=>some c
 | .seq a b=>(loopOf a).orElse λ_=>loopOf b
 | .cond _ a b=>(loopOf a).orElse λ_=>loopOf b
 | .block _ c=>loopOf c
 | .scope c=>loopOf c
 | _=>none
def Un[pq]{P:Program}(m:P.follows .mixedOrders=true){nt:Nat}{body:Code}{pre post:St}{T:Hints}{C f:List Sp}{σ':St}{e:Nat}{ob:Obl}(l:Dt P T [] nt body C pre=some (e+1,σ',f,ob))(h:∀s∈C,Holds P s)(d:∀p∈ob,p.2)(hk:∀x∈post,get σ' x.1=some x.2)(k:closed post=true)(c:(get σ' (1000001,0)).isNone=true):vO P nt ⟨body,pre,e+1,post⟩:=λWb okb W0 ok0 ds β a w Q i j=>by
 refine tL.round ((rG (L:=[]) ot m body _ _ _ _ _ _ l h d).2 W0 ok0 β a w _ i (λW1 ok1 β' a' w' b=>?_));obtain⟨β2,g⟩:=b.forget hk k c;have:=j W1 ok1 β2 a' w' g
 cases e with
 | zero=>exact this
 | succ n=>exact this
def Uo[pq]{P:Program}(t:P.follows .mixedOrders=true){nt:Nat}{b:Code}{e c d:St}{T:Hints}{C j:List Sp}{σ':St}{i:Nat}{ob:Obl}(q:Dt P T [] nt b C e=some (0,σ',j,ob))(l:∀s∈C,Holds P s)(h:∀p∈ob,p.2)(hk:∀x∈c,get σ' x.1=some x.2)(o:closed c=true)(g:(get σ' (1000001,0)).isNone=true)(r:vO P nt ⟨b,c,i,d⟩):vO P nt ⟨b,e,i,d⟩:=λWb okb W0 ok0 ds β a w Q m n=>by refine tL.round ((rG (L:=[]) ot t b _ _ _ _ _ _ q l h).2 W0 ok0 β a w _ m (λW1 ok1 β' a' w' f=>?_));obtain⟨β2,k⟩:=f.forget hk o g;exact r Wb okb W1 ok1 ds β2 a' w' Q k n
def argsS_get:∀(az:List A1) (i:Nat) (x:Loc) (v:AV),get (argsS i az) x=some v->∃j A,x=(0,i+j)/\az[j]?=some A/\v =.of A
 | a::r,i,x,v,h=>by
  simp only[argsS,get]at h;split at h
  .rename_i e;simp only[qk]at h;exact⟨0,a,e.symm,rfl,h.symm⟩
  .obtain⟨j,A,b,c,d⟩:=argsS_get r (i+1) x v h;exact⟨j+1,A,by rw[b];simp;omega,by simpa using c,d⟩
def gm.bare{β:Nat->Option Nat}{ok:Nat->Prop}{w:World}{A:A1}{v:Value}(j:A.clean=true)(h:gm β ok w A v):gm (λ_=>none) ok w A v:=by
 have a:∀(y:X) (v:Value),y.clean=true->jm β ok w y v->jm (λ_=>none) ok w y v:=λy v c o=>by
  cases y with
  | d z=>exact o
  | p _ _=>cases c
  | e _ _=>cases c
  | f _ _=>cases c
 cases A with
 | one y=>exact a y _ (by simpa[A1.clean,A1.xs]using j) h
 | agg s =>
  obtain⟨q,l,k⟩:=h;refine⟨q,l,dU.of k.length (λi y v g b=>?_)⟩;obtain⟨r,m,n⟩:=k.get _ _ g;rw[m]at b;simp only[qk]at b;subst b;exact a y _ (zr.1 j _ (qa1 g)) n
def iZ.bare{β:Nat->Option Nat}{ok:Nat->Prop}{w:World}{v:AV}{u:Value}(c:v.clean=true)(h:iZ β ok w v u):iZ (λ_=>none) ok w v u:=by
 cases v with
 | of A=>exact gm.bare c h
 | rz k =>
  obtain⟨j,e,d⟩:=h;refine⟨j,e,dU.of d.length (λi y v b a=>?_)⟩;obtain⟨l,f,g⟩:=d.get _ _ b;rw[f]at a;simp only[qk]at a;subst a;exact gm.bare (zr.1 c _ (qa1 b)) g
def De(az:List A1)(i q:Nat):get (argsS i az) (1000001,q)=none:=by
 cases h:get (argsS i az) (1000001,q)with
 | none=>rfl
 | some v =>
  obtain⟨j,A,e,_⟩:=argsS_get _ _ _ _ h;simp at e
def holds[pq]{P:Program}(M:P.follows .mixedOrders=true){f:FuncId}{fn:Func}{body:Code}(Q:P.funcs[f]?=some fn)(m:fn.body=some body)(hn:(fn.name == "runtime.NumGoroutine")=false)(r:Mv)
 (T:Hints) (L:List Lp) (C:List Sp) {args:List A1} {res:AV} (hC:∀s∈C,Holds P s) (hL:∀l∈L,vO P fn.ntmps l) {ob:Obl}
 (h:Wd r.p P fn body T L C args=some (res,[],ob)) (hob:∀p∈ob,p.2):Holds P (@Sp.mk f args res r):=by
 unfold Wd at h;split at h<;>try (cases h;done)
 rename_i O;split at h<;>try (cases h;done)
 rename_i e σ C' aa W;split at h<;>try (cases h;done)
 rename_i o;split at h<;>try (cases h;done)
 rename_i D t;split at h<;>try (cases h;done)
 rename_i F;simp only[qk,zd]at h;obtain⟨rfl,rfl,rfl⟩:=h;have H:∀(Wb:World) (okb:Nat->Prop) (W0:World) (ok0 ok:Nat->Prop) (w:World) (n:List Value),W0.grownBy w none->qp Wb okb W0 ok0 (λ_=>none) (verS r.p++argsS 0 args)->(∀b,ok b->b<w.heap.size->(b<W0.heap.size/\ok0 b)\/W0.heap.size<=b)->dU (gm (λ_=>none) ok w) args n ->
  Inv Wb okb W0 ok0 [] fn.ntmps (λ_=>none) ⟨n.toArray++Array.replicate (fn.ntmps - n.toArray.size) undef,[]⟩ w (verS r.p++argsS 0 args):=λWb okb W0 ok0 ok w n hg I U d=>by
  have hl:n.length=args.length:=d.length;refine⟨hg,ot,ot,ot,λx v S X=>?_,rfl,?_,rfl,I⟩
  .rw[get_skip _ _ _ (λM=>S (by revert M;cases r.p with|none=>simp[verS]|some p=>simp only[verS,qb7,jb5,yq];rintro rfl;rfl))]at X;obtain⟨j,A,rfl,e2,rfl⟩:=argsS_get _ _ _ _ X;obtain⟨u,V,e4⟩:=d.get _ _ e2;have hj:j<n.length:=(jj.1 V).1;refine⟨u,?_,gm.keep ⟨qv _,λb m q=>⟨(U b q m).imp id (λh=>⟨h,ot⟩),λ_=>rfl⟩⟩ (λ_ _ h=>h) _ _ e4⟩;rw[qa4,Array.getElem?_append_left (by simpa using hj)];simpa using V
  .simp only[Array.size_append,je1,Array.size_replicate];omega
 have hA:r.p=none->Tx P f args D:=?_;have hB:∀i j,r.p=some (i,j)->Tw P f args D i j:=?_
 .refine⟨λaz w=>?_,?_⟩
  rotate_left
  .show (match r.p with|none=>Tx P f args D|some (i,j)=>Tw P f args D i j)
   cases a:r.p with
   | none=>exact hA a
   | some p=>exact hB p.1 p.2 a
  have R:¬fn.name = "runtime.NumGoroutine":=by simpa using hn
  simp[callFunc,Q,R,m,Result.andThen]
 rotate_left
 .intro a ok w n d;obtain⟨_,k⟩:=rG (Wb:=w) (okb:=ok) (ds:=[]) hL M body _ _ _ _ _ _ W hC hob;refine calls_of_wp Q m (k w ok (λ_=>none) _ w _ (H w ok w ok ok w n ⟨rfl,rfl,rfl,qv _,λ_ _ _=>rfl⟩ ?_ (λb y z=>.inl ⟨z,y⟩) d) ?_)
  .rw[a];refine⟨λ_=>⟨⟨rfl,rfl⟩,ot⟩,λv t=>?_⟩;rw[show verS none++argsS 0 args=argsS 0 args from rfl,De]at t;cases t
  .intro W1 ok1 β' a' w' g;obtain⟨u,y,z⟩:=Ig g t;have c:get σ (1000001,0)=none:=by have:=o.2;rw[a]at this;exact qh4.1 this
   obtain⟨⟨rfl,rfl⟩,_⟩:=g.FK.1 c;have fin:a'.defers=[]/\∃v,(results fn a'.tmps).run P w' =.ok v w'/\(W1.grownBy w' none/\∃J,Ending.returned v =.returned J/\iZ (λ_=>none) (λb=>ok1 b\/W1.heap.size<=b) w' D J):=by
    refine⟨g.XU,u,y,g.gr,u,rfl,?_⟩;refine iZ.keep ⟨qv _,λb m q=>⟨?_,λ_=>rfl⟩⟩ (λ_ _ e=>by cases e) _ _ (iZ.bare F z);rcases q with q|q
    .exact .inl q.2
    .exact .inr q.1
   match e,o.1 with
   | 0,_=>exact fin
   | 1,_=>exact fin
 .intro i j a ok w n hG d;obtain⟨_,k⟩:=rG (Wb:=w) (okb:=ok) (ds:=[]) hL M body _ _ _ _ _ _ W hC hob;refine calls_of_wp Q m (k w ok (λ_=>none) _ w _ (H w ok w ok ok w n ⟨rfl,rfl,rfl,qv _,λ_ _ _=>rfl⟩ ?_ (λb y z=>.inl ⟨z,y⟩) d) ?_)
  .rw[a];refine⟨λh=>by simp[verS,get]at h,λv t=>?_⟩;simp only[verS,qd2,qf0,get,if_pos,qk]at t;refine⟨i,t.symm,hG,⟨qv _,λb _ h=>⟨h,rfl⟩⟩,λk v' K=>?_⟩;rw[get_skip _ _ _ (by simp[verS]),De]at K;cases K
  .intro W1 ok1 β' a' w' g;obtain⟨u,y,z⟩:=Ig g t;have c:=o.2;rw[a]at c;simp only[verE]at c
   cases B:get σ (1000001,0)with
   | none=>rw[B]at c;simp[verN]at c
   | some vv =>
    obtain⟨Y,rfl,g1,N,_⟩:=g.FK.2 vv B;have ej:Y=j:=by rw[B]at c;simpa[verN,Aj]using c
    subst ej;have fin:a'.defers=[]/\∃v,(results fn a'.tmps).run P w' =.ok v w'/\(w.heap.size<=w'.heap.size/\∃ok1:Nat->Prop,pq.G Y w' ok1/\(∀b,b<w.heap.size->ok b->ok1 b/\w'.heap[b]?=w.heap[b]?)/\∃J,Ending.returned v =.returned J/\iZ (λ_=>none) ok1 w' D J):=by
     refine⟨g.XU,u,y,kh N.1 g.gr.size,_,pq.grow _ _ _ _ g1 g.gr,λb m K=>?_,u,rfl,?_⟩
     .obtain⟨Z,c2⟩:=N.2 b m K;have E:=jz m N.1;exact⟨.inl ⟨E,Z⟩,(g.gr.block b E ot).trans c2⟩
     .exact iZ.keep ⟨qv _,λb m q=>⟨q.imp id (·.1),λ_=>rfl⟩⟩ (λ_ _ e=>by cases e) _ _ (iZ.bare F z)
    match e,o.1 with
    | 0,_=>exact fin
    | 1,_=>exact fin
end Go.Proofs.YtgfdimkbfnpepaaGreat.Pe
