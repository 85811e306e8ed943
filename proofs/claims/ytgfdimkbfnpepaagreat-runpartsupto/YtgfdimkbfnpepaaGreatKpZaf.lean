import Derived.Test.YtgfdimkbfnpepaaGreatKpZae
namespace Go.Proofs.YtgfdimkbfnpepaaGreat
set_option linter.all false
open Go.Proofs.Tryz
set_option maxRecDepth 100000
set_option maxHeartbeats 4000000
open Go.ChangeShapes Go.WideShapes Go.ChangeAt Go.RowKit
variable {K:Act->World->Prop}{ops:Array Oper}{e:Ending}{Q:Exit->Act->World->Prop}{l ts y:List Ty}{list:List Va}{vs:List Value}{H i lc tc:Nat}{U V:Nat->Value}{o:Oper}{ps:Option (List (Ty×Va))}{a la ta:Option Addr}{E:Prop}{T:Ty}{x:Va}{u v:Value}{W W2 w w':World}
def EZ:(prog.info? 111).map (λi=>(i.zero,i.size,i.bytes))=some (some (.agg #[.i 0,.n0,.i 0,.i 0,.i 0,.string ⟨#[]⟩,.n0,.n0,.n0]),9,144):=oA
def aggC:Value->List Value
 | .agg xs=>xs.toList
 | _=>[]
def nC (cs:List (Value×Value)):List Value:=cs.flatMap λp=>aggC p.1++aggC p.2
def mH (B:Nat) (w:World) (v:Value) (cs:List (Value×Value)):Prop:=w.ownsRow B 111 9 v cs.length (nC cs)
def eF (w:World):List (Ty×Va)->List (Value×Value)->Prop
 | [],[]=>True
 | p::C,q::cs=>(aH (λ_=>True) w p.1 q.1/\aA (λ_=>True) w p.2 q.2)/\eF w C cs
 | [],_::_=>False
 | _::_,[]=>False
def rM(a b:List (Value×Value)):nC (a++b)=nC a++nC b:=by simp[nC]
def eF.len: ∀{C:List (Ty×Va)}{cs:List (Value×Value)},eF w C cs->cs.length=C.length
 | [],[],_=>rfl
 | _::_,_::_,h=>by simp[eF.len h.2]
 | [],_::_,h=>h.elim
 | _::_,[],h=>h.elim
def eF.append: ∀{C D:List (Ty×Va)}{cs ds:List (Value×Value)},eF w C cs->eF w D ds->eF w (C++D) (cs++ds)
 | [],D,[],ds,_,h=>h
 | _::_,_,_::_,_,h,k=>⟨h.1,eF.append h.2 k⟩
 | [],_,_::_,_,h,_=>h.elim
 | _::_,_,[],_,h,_=>h.elim
def eF.last{cs:List (Value×Value)}{q:Value×Value} : ∀{C:List (Ty×Va)},eF w C (cs++[q])->∃a p,C=a++[p]/\eF w a cs/\aH (λ_=>True) w p.1 q.1/\aA (λ_=>True) w p.2 q.2:=by
 induction cs with
 | nil =>
  intro C h
  match C,h with
  | [p],h=>exact⟨[],p,rfl,trivial,h.1.1,h.1.2⟩
  | _::_::_,h=>exact h.2.elim
  | [],h=>exact h.elim
 | cons x cs d =>
  intro C h
  match C,h with
  | r::C,h =>
   obtain⟨a,p,rfl,b,c⟩:=d h.2;exact⟨r::a,p,rfl,⟨h.1,b⟩,c⟩
  | [],h=>exact h.elim
def nine(d:aH (λ_=>True) w T u)(e:aA (λ_=>True) w x v):(aggC u++aggC v).length=9/\∀z∈aggC u++aggC v,z.oneCell'=true:=by obtain⟨a,c,V,rfl,i,h⟩:=d.inv;obtain⟨k,n,f,s,p,al,g,ta,tl,tc,j,m,l,rfl⟩:=e.bg;refine⟨rfl,λz b=>?_⟩;simp[aggC,bY,bg]at b;rcases b with rfl|rfl|rfl|rfl|rfl|rfl|rfl|rfl|rfl<;>rfl
def yS: ∀{C:List (Ty×Va)}{cs:List (Value×Value)},eF w C cs->(nC cs).length=cs.length*9/\∀z∈nC cs,z.oneCell'=true
 | [],[],_=>⟨rfl,λz hz=>by simp[nC]at hz⟩
 | p::C,q::cs,h=>by
  obtain⟨a,b⟩:=yS h.2;obtain⟨n1,c⟩:=nine h.1.1 h.1.2;have e:nC (q::cs)=(aggC q.1++aggC q.2)++nC cs:=by simp[nC]
  rw[e];refine⟨by rw[qS,n1,a,jn];omega,λz hz=>?_⟩;rcases qa0.1 hz with hz|hz
  .exact c z hz
  .exact b z hz
 | [],_::_,h=>h.elim
 | _::_,[],h=>h.elim
def vT (w W:World) (ts:List Ty) (a:Option Addr) (U:Nat->Value):Prop :=
 ts.length<=maxLen/\∀i (h:i<ts.length),rC (λ_=>True) W a i (U i)/\aH (λ_=>True) w ts[i] (U i)
def vT.grow(h:vT w W ts a U)(c:W.grownBy W2 none):vT w W2 ts a U :=
 ⟨h.1,λi b=>⟨(h.2 i b).1.same (ni c),(h.2 i b).2⟩⟩
def vT.of(h:dw (λ_=>True) w ts a U)(c:w.grownBy W none):vT w W ts a U :=
 ⟨h.1,λi b=>⟨(h.2.1 i b).same (ni c),h.2.2 i b⟩⟩
def J2(a:list.length<=maxLen)(c:ts.length<=maxLen)(b:list.length≠ts.length)(W:World) :
 Calls prog 133 #[.slice la list.length lc,.slice ta ts.length tc] W λe w'=>e =.returned (.tuple #[.n0,.bool false])/\w'=W:=by
 unfold maxLen at a c;have d:((list.length:Int)==(ts.length:Int))=false:=vh
 have f:((list.length:Int) != (ts.length:Int))=true:=by rw[bne_iff_ne];omega
 have g:¬(list.length:Int)=(ts.length:Int):=od
 go_enter func133,ntmps133;go_wp2_with fail;go_ret2;exact⟨rfl,rfl⟩
def Nv(n:Nat)(p:n<=20000000)(W:World) :
 Calls prog 180 #[.n0,.i n] W λe w'=>∃v,e =.returned v/\w'.ownsRow W.heap.size 111 9 v 0 []/\W.grownBy w' none:=by
 have k:(n:Int)<=20000000:=od
 have j:¬(n:Int)<0:=od
 by_cases h:n=0
 .subst h;go_enter func180,ntmps180;go_wp2_with fail;go_ret;exact⟨_,rfl,qa2 _ _ _ _,bM _ _⟩
 .obtain⟨g,f,q,m,b,a,o,l⟩:=zG W 113 3 113 111 .i64 .i64 _ 9 144 EZ underlying113 underlying3 n od ov rfl od ov;have c:(n:Int) > 0:=by omega
  have HO:=jh b;have d:=jh a;clear b a;go_enter func180,ntmps180;go_wp2_with (at_builtin;refine Lib.wpList_append_run _ rfl _ _ _ _ rfl _ _ rfl rfl _ _ m ?_);go_ret;exact⟨_,rfl,HO,d⟩
def YK{a:Act}(B:Nat)(cs:List (Value×Value))(t:Int)(ta:Option Addr)(tl tc:Nat)(k n b:Int)(st:ByteArray)(e:Option Addr)(g f:Nat)(j:Option Addr)(m l:Nat)(na:Option Addr)(d nc:Nat)(w0:World)(v:Value)(c:o.guard=none)(s x:Operand)
 (ho:o.op =.call { callee:=.builtin .append,args:=#[s,x],argTypes:=#[113,113] }) (hs:a.eval s=v) (hx:a.eval x =.slice (some ⟨H,0,none⟩) 1 1) (hH:w0.heap.size=H)
 (hown:mH B w0 v cs) (hB:B<=w0.heap.size) (hlen:cs.length<=20000000)
 (h:∀v' w',mH B w' v' (cs++[(bY t ta tl tc,bg k n b st e g f j m l na d nc)])->Gr w0 v w' v'->K (a.put o.dst v') w') :
 if Region.wanted o (yielded ops a.tmps)=true then Oper.wp prog o a (w0.alloc (.cells #[.i t,.slice ta tl tc,.i k,.i n,.i b,.string st,.slice e g f,.slice j m l,.slice na d nc] 111)) K Q else E:=by
 subst hH;refine yx c s x 113 ho B 111 underlying113 EZ rfl ov v cs.length (nC cs) hs (xo hown _) _ 1 [.i t,.slice ta tl tc,.i k,.i n,.i b,.string st,.slice e g f,.slice j m l,.slice na d nc] hx rfl (gZ.new _ _ _ _ _) ?_ ?_ ?_ ?_ ?_
 .intro u p;simp at p;rcases p with rfl|rfl|rfl|rfl|rfl|rfl|rfl|rfl|rfl<;>rfl
 .unfold maxLen;omega
 .omega
 .simp;omega
 .intro v' w' q r _;exact h v' w' (by unfold mH;rw[rM,qS];exact q) (Gr.trans (Gr.alloc (Gr.refl w0 v) _) r)
def XM{a:Act}(B:Nat)(cs:List (Value×Value))(t:Int)(ta:Option Addr)(tl tc:Nat)(k n b:Int)(st:ByteArray)(e:Option Addr)(g f:Nat)(j:Option Addr)(m l:Nat)(na:Option Addr)(d nc:Nat)(w0:World)(v:Value)(c:o.guard=none)(s x:Operand)
 (ho:o.op =.call { callee:=.builtin .append,args:=#[s,x],argTypes:=#[113,113] }) (hs:a.eval s=v) (hx:a.eval x =.slice (some ⟨H,0,none⟩) 1 1) (hH:w0.heap.size=H)
 (hown:mH B w0 v cs) (hB:B<=w0.heap.size) (hlen:cs.length<=20000000)
 (h:∀v' w',mH B w' v' (cs++[(bY t ta tl tc,bg k n b st e g f j m l na d nc)])->Gr w0 v w' v'->K (a.put o.dst v') w') :
 if Region.wanted o (yielded ops a.tmps)=true then Oper.wp prog o a (w0.alloc (.cells #[.i t,.slice ta tl tc,.i k,.i n,.i b,.string st,.slice e g f,.slice j m l,.slice na d nc] 111)).drew K Q else E :=
 YK B cs t ta tl tc k n b st e g f j m l na d nc w0.drew v c s x ho hs hx hH hown hB hlen (λv' w' p q=>h v' w' p q.QY)
def CZ(ts:List Ty)(l:List Va)(j:Nat)(a:j<ts.length)(b:j<l.length):(ts.zip l).take (j+1)=(ts.zip l).take j++[(ts[j],l[j])]:=by rw[ur oB];simp
def Hm(hL:aT (λ_=>True) w list la V)(hT:vT w W ts ta U)(hW:w.grownBy W none)(G:list.length=ts.length)(hz:list.length<=20000000) :
 Calls prog 133 #[.slice la list.length lc,.slice ta ts.length tc] W λe w'=>∃cv cs,e =.returned (.tuple #[cv,.bool true])/\mH W.heap.size w' cv cs/\eF w (ts.zip list) cs/\W.grownBy w' none:=by
 have hl:=hL.1;unfold maxLen at hl;obtain⟨HL,HT,HW,HE⟩:=JT hL hT hW G;have hZ:=hz;have I:=jh (Nv list.length hz W);rw[<-G];clear hL hT hW G;go_enter func133,ntmps133;go_wp2_with fail;refine I.mono ?_;rintro e w1 ⟨bd,rfl,u,P⟩;have ao:=jh u;have ah:=jh P;clear u P I;go_wp2_with fail;go_loopw [6,19] (λcv iv wr=>∃(j:Nat) (cs:List (Value×Value)),j<=list.length/\iv =.i j/\mH W.heap.size wr cv cs/\eF w ((ts.zip list).take j) cs/\W.grownBy wr none) (λ_ iv _=>list.length - (intOf iv).toNat)
 case atStart=>exact⟨0,[],kB _,rfl,ao,trivial,ah⟩
 case round =>
  obtain⟨j,cs,hj,rfl,b,s,p⟩:=hrel
  by_cases v:j<list.length
  .have Q:=aJ HW p;have t:j<ts.length:=by rw[<-HE.out];exact v
   obtain⟨L,E⟩:=(HT.out.grow p).2 j t;obtain⟨y,o0,t0,a0,l0,c0,rfl,_,Y,t1,t2⟩:=L.cells;have F:=HL.out.2.2 j v;obtain⟨b3,o3,rfl,_,z,A,x,B,c,f,d,m,fE,n,g,l,k,Z,e0,e1,e2,e3,e4,e5,e6⟩:=(HL.out.2.1 j v).same (ni Q);rw[Y]at E;rw[Z]at F;have q0:y<wr.heap.size:=kd wr _ t1;have q3:b3<wr.heap.size:=kd wr _ e0;have ax:=s.len;have S:cs.length<=20000000:=by rw[ax];simp;omega
   have hB:W.heap.size<=wr.heap.size:=p.size;have au:(j:Int)<(list.length:Int):=od
   have az:y<W.heap.size:=by obtain⟨M,_⟩:=HT.out.2 j t;obtain⟨bb,bj,bk,ba,bh,bc,N,_,_,ay,_⟩:=M.cells;simp only[qk,qb2,and_true]at N;obtain⟨rfl,rfl⟩:=N;exact kd W _ ay
   have n0:some y≠u6.ownBlock:=λe=>by have:=(kp b y e.symm).1;omega
   have n3:some wr.heap.size≠u6.ownBlock:=λe=>by have:=(kp b wr.heap.size e.symm).2;omega
   have aa:=qT wr (.cells #[.i z,.i A,.i x,.string B,.slice c f d,.slice m fE n,.slice g l k] 36);have q:=xo b (.cells #[.i z,.i A,.i x,.string B,.slice c f d,.slice m fE n,.slice g l k] 36);have H:=aJ p (aK (w:=wr) (.cells #[.i z,.i A,.i x,.string B,.slice c f d,.slice m fE n,.slice g l k] 36));have ab:=(qn (qb1 (w:=wr) (o:=(.cells #[.i z,.i A,.i x,.string B,.slice c f d,.slice m fE n,.slice g l k] 36)) (h:=q0))).trans t1;have ad:=(qn (qb1 (w:=wr) (o:=(.cells #[.i z,.i A,.i x,.string B,.slice c f d,.slice m fE n,.slice g l k] 36)) (h:=q0))).trans t2;have X:(wr.alloc (.cells #[.i z,.i A,.i x,.string B,.slice c f d,.slice m fE n,.slice g l k] 36)).heap.size=wr.heap.size+1:=ot
   have aC:j<9223372036854775807:=od
   clear au Q L;go_wp2_with fail;generalize wr.alloc (.cells #[.i z,.i A,.i x,.string B,.slice c f d,.slice m fE n,.slice g l k] 36)=r at *;have bl:∀a:World,r.grownBy a u6.ownBlock->a.cell? ⟨y,o0+j*2,none⟩=some (.i t0):=λa h=>(qn (h.block y od n0)).trans ab;have bm:∀a:World,r.grownBy a u6.ownBlock->a.cell? ⟨y,o0+j*2+1,none⟩=some (.slice a0 l0 c0):=λa h=>(qn (h.block y od n0)).trans ad;have C:∀a:World,r.grownBy a u6.ownBlock->a.heap[wr.heap.size]?=_:=λa h=>(h.block wr.heap.size od n3).trans aa;have bn:∀a:World,r.grownBy a u6.ownBlock->a.cell? ⟨wr.heap.size,0,none⟩=some (.i z):=λa h=>(cO (C a h)).1;have bo:∀a:World,r.grownBy a u6.ownBlock->a.cell? ⟨wr.heap.size,1,none⟩=some (.i A):=λa h=>(cO (C a h)).2.1;have bp:∀a:World,r.grownBy a u6.ownBlock->a.cell? ⟨wr.heap.size,2,none⟩=some (.i x):=λa h=>(cO (C a h)).2.2.1;have bq:∀a:World,r.grownBy a u6.ownBlock->a.cell? ⟨wr.heap.size,3,none⟩=some (.string B):=λa h=>(cO (C a h)).2.2.2.1;have br:∀a:World,r.grownBy a u6.ownBlock->a.cell? ⟨wr.heap.size,4,none⟩=some (.slice c f d):=λa h=>(cO (C a h)).2.2.2.2.1;have bt:∀a:World,r.grownBy a u6.ownBlock->a.cell? ⟨wr.heap.size,5,none⟩=some (.slice m fE n):=λa h=>(cO (C a h)).2.2.2.2.2.1;have bw:∀a:World,r.grownBy a u6.ownBlock->a.cell? ⟨wr.heap.size,6,none⟩=some (.slice g l k):=λa h=>(cO (C a h)).2.2.2.2.2.2;clear C;have aO:mH W.heap.size r.drew u6 cs:=q;have ae:Hid (W.heap.size<=r.heap.size):=H.size;obtain⟨ai,J,ak,an,D⟩:=wg H q E F s;have aE:(j:Int)<(list.length:Int):=od
   clear X;clear H q E F s b p Y Z e0 e1 e2 e3 e4 e5 e6 t1 t2 ab ad aa;go_region_held3 (λw'=>r.grownBy w' u6.ownBlock) (first|assumption|exact fK (bM _ _)|exact fF oS (kL (aK _))|exact fK (kL (aK _))) (first
    | (refine XM W.heap.size cs _ _ _ _ _ _ _ _ _ _ _ _ _ _ _ _ _ r u6 rfl (.tmp 24) (.tmp 31) rfl rfl rfl rfl J ae S ?_;intro v' w9 T O;have K:r.grownBy w9 u6.ownBlock:=O.1;have aq:=jh T;clear T O))
   have ar:=jh (dX ai J (qv _) K);clear K;go_wp2_with fail;go_roundw
   case rel =>
    refine⟨j+1,_,od,OF,aq,?_,ar⟩;rw[CZ ts list j t v];exact eF.append D ⟨⟨ak,an⟩,trivial⟩
   case measure=>simp[intOf];omega
  .have R:(ts.zip list).take j=ts.zip list:=qh1 (by have:=HE.out;simp;omega);rw[R]at s;have HO:=jh b;have D:=jh s;have aj:=jh p;have bf:¬(j:Int)<(list.length:Int):=by omega
   clear b s p R;go_wp2_with fail;go_ret2;exact⟨_,rfl,_,HO,D,aj⟩
def gY (w W:World) (ps:Option (List (Ty×Va))) (e:Ending) (w':World):Prop :=
 ((ps=none/\e =.returned (.tuple #[.n0,.bool false]))\/∃l cv cs,ps=some l/\e =.returned (.tuple #[cv,.bool true])/\mH W.heap.size w' cv cs/\eF w l cs)/\W.grownBy w' none
def kX(b:aT (λ_=>True) w list la V)(c:vT w W ts ta U)(f:w.grownBy W none)(l:list.length<=20000000) :
 Calls prog 133 #[.slice la list.length lc,.slice ta ts.length tc] W (gY w W (if list.length=ts.length then some (ts.zip list)else none)):=by
 by_cases h:list.length=ts.length
 .rw[if_pos h];exact (Hm b c f h l).mono λe w' ⟨d,cs,a,j,g,i⟩=>⟨.inr ⟨_,d,cs,rfl,a,j,g⟩,i⟩
 .rw[if_neg h];exact (J2 b.1 c.1 h W).mono λe w' ⟨a,k⟩=>⟨.inl ⟨rfl,a⟩,by rw[k];exact bM _ _⟩
def gY.grown(h:gY w W2 ps e w')(d:W.grownBy W2 none):gY w W ps e w':=by
 refine⟨?_,aJ d h.2⟩;rcases h.1 with h|⟨l,f,cs,i,j,c,k⟩
 .exact .inl h
 .refine .inr ⟨l,f,cs,i,j,?_,k⟩;have o:=d.size;refine⟨c.1,?_⟩;rcases c.2 with q|⟨g,a,b,m,p,n⟩
  .exact .inl q
  .exact .inr ⟨g,a,b,m,od,n⟩
def gY.form(h:gY w W ps e w'):∃a b,e =.returned (.tuple #[a,.bool b]):=by
 rcases h.1 with⟨_,h⟩|⟨l,a,cs,_,h,_⟩
 .exact⟨_,_,h⟩
 .exact⟨_,_,h⟩
def L6{t:Int}{l c g n:Nat}(k:aH (λ_=>True) w T (bY t a l c))(m:n<=maxLen)(h:tN W g n n (.i t) (.slice a l c)):vT w W (List.replicate n T) (some ⟨g,0,none⟩) (λ_=>bY t a l c):=by
 refine⟨by simpa using m,λi b=>?_⟩;rw[List.length_replicate]at b;obtain⟨e,d,p,q,o⟩:=h;obtain⟨f,j⟩:=o i b;refine⟨⟨g,0,rfl,trivial,t,a,l,c,rfl,?_,?_⟩,by rw[List.getElem_replicate];exact k⟩
 .rw[qa4];simp[World.cell?,d,f]
 .rw[qa4];simp[World.cell?,d,j]
def iR(w:World)(o a:Obj):((w.alloc o).alloc a).heap[w.heap.size+1]?=some a:=by have:=qT (w.alloc o) a;rwa [show (w.alloc o).heap.size=w.heap.size+1 from by simp]at this
def DF(p:aT (λ_=>True) w list la V)(q:aH (λ_=>True) w T u)(x:w.grownBy W none) :
 Calls prog 134 #[.slice la list.length lc,u] W (gY w W (if list.length<=24 then some ((List.replicate list.length T).zip list)else none)):=by
 have K:=p.1;unfold maxLen at K;obtain⟨a,c,M,rfl,E,B⟩:=q.inv
 by_cases k:list.length<=24
 .rw[if_pos k];have m:¬(24:Int)<(list.length:Int):=by omega
  obtain⟨j,HL,z,A⟩:=JT (Kk T.t a T.args.length c) p q x;have f:Hid (∀(W2:World) (g o:Nat),W.grownBy W2 none->tN W2 g list.length list.length (.i T.t) (.slice a T.args.length c)->Calls prog 133 #[.slice la list.length lc,.slice (some ⟨g,0,none⟩) list.length o] W2 (gY w W2 (some ((List.replicate list.length T).zip list)))):=λW2 g o r b=>by have h:=kX (lc:=lc) (tc:=o) HL (L6 z oT b) (aJ A r) od;rw[List.length_replicate,if_pos rfl]at h;exact h
  clear p q x B E HL z A;unfold bY;go_enter func134,ntmps134;go_wp2_with fail;refine (j _ _ _ od _ (xq (iR _ _ _)) (wy (iR _ _ _))).mono ?_;rintro e N ⟨g,o,rfl,J,b,r⟩;have H:=jh b;have y:=jh (aJ (aJ (aK _) (aK _)) r);clear r b;go_wp2_with fail;refine (f _ _ _ y H).mono ?_;rintro e O d;have L:=gY.grown d y;clear d;rcases L with⟨⟨s,rfl⟩|⟨l,I,cs,s,rfl,D,C⟩,n⟩
  .cases s
  .obtain⟨HO,F,G,v⟩:=JT D C s n;clear D C s n;go_wp2_with fail;go_ret2;exact⟨.inr ⟨l,I,cs,G,rfl,HO,F⟩,v⟩
 .rw[if_neg k];have m:(24:Int)<(list.length:Int):=by omega
  clear p q x B E;unfold bY;go_enter func134,ntmps134;go_wp2_with fail;go_ret2;exact⟨.inl ⟨rfl,rfl⟩,aK _⟩
structure IQ (T:Ty) (x:Va):Prop where
 len:(T.args.length:Int)=bT T.t
 side:T.t=12->x.n=0\/x.n=1
def JZ(hT:aH (λ_=>True) w T u)(hV:aA (λ_=>True) w x v)(P:IQ T x)(hz:x.size<=20000000)(W:World)(hW:w.grownBy W none) :
 Calls prog 85 #[u,v] W (gY w W (partsOf T x)):=by
 obtain⟨a,c,V,rfl,it,N⟩:=hT.inv;obtain⟨D,E,ta,tc,na,nc,VV,VT,VN,rfl,⟨ik,iN,ia,hs,ae⟩,O,ab,ad⟩:=hV.inv;have ah:=kS x.args;have ai:=eP x;have bf:=O.1;have aC:=N.1;unfold maxLen at bf aC;obtain⟨aO,z,X,p,Q⟩:=wg hT.cap O ab N hW;have J:Hid (∀o1 o2:Obj,W.grownBy ((W.alloc o1).alloc o2) none):=λo1 o2=>aJ (aK _) (aK _);have r:=jh P.len;have HZ:Hid (x.args.length<=20000000):=by show _<=_;omega
 by_cases h8:T.t=8
 .have q:partsOf T x=if x.args.length=x.types.length then some (x.types.zip x.args)else none:=by
   simp only[partsOf,bS];rw[if_pos h8];split<;>rfl
  have HC:Hid (∀W2,W.grownBy W2 none->Calls prog 133 #[.slice D x.args.length E,.slice ta x.types.length tc] W2 (gY w W2 (partsOf T x))):=λW2 hg=>by rw[q];exact kX z (vT.of X (aJ Q hg)) (aJ Q hg) HZ
  generalize partsOf T x=ps at *;clear q hT hV P hz hW it ik iN ia hs ae O ab ad N ah ai z X p Q r HZ;rw[h8];clear h8;unfold bY bg;go_enter func85,ntmps85;go_wp2_with fail;refine (HC _ (J _ _)).mono ?_;rintro e w2 b;have q:=gY.grown b (J _ _);clear b;rcases q with⟨⟨o,rfl⟩|⟨l,cv,cs,o,rfl,ho,hc⟩,g⟩
  .have S:=jh o;have m:=jh g;clear o g;go_wp2_with fail;go_ret2;exact⟨.inl ⟨S,rfl⟩,m⟩
  .obtain⟨HO,R,S,m⟩:=JT ho hc o g;clear ho hc o g;go_wp2_with fail;go_ret2;exact⟨.inr ⟨l,cv,cs,S,rfl,HO,R⟩,m⟩
 have b8:(T.t==8)=false:=by simpa using h8
 by_cases h9:T.t=9/\x.args.length=0
 .have q:partsOf T x=some []:=by
   simp only[partsOf,bS];rw[if_neg h8,if_pos h9];rfl
  obtain⟨h9,h0⟩:=h9;rw[q,h9,h0];clear q hT hV P hz hW it ik iN ia hs ae O ab ad N ah ai z X p Q r HZ h8 b8 h9 h0;unfold bY bg;go_enter func85,ntmps85;go_wp2_with fail;go_ret2;exact⟨.inr ⟨[],.n0,[],rfl,rfl,qa2 _ _ _ _,trivial⟩,J _ _⟩
 by_cases A:T.t=10
 .have q:partsOf T x=if x.args.length<=24 then some ((List.replicate x.args.length (bB T.args 0)).zip x.args)else none:=by
   simp only[partsOf,bS];rw[if_neg h8,if_neg h9,if_pos A];split<;>rfl
  have aE:T.args.length=1:=by have:=r.out;rw[A]at this;simp[bT]at this;omega
  obtain⟨y,hy⟩:=jc5.1 aE;have bc:bB T.args 0=y:=by simp[bB,hy]
  obtain⟨j,F,t0,Y,l0,Z,rfl,_,an,t1,t2⟩:=((p.2.1 0 od).same (ni Q)).cells;have I:=p.out.2.2 0 od;rw[an]at I;simp only[hy,qh2]at I;rw[qh0,qc0]at t1 t2;have q0:j<W.heap.size:=kd W _ t1;have HC:Hid (∀W2,W.grownBy W2 none->Calls prog 134 #[.slice D x.args.length E,bY t0 Y l0 Z] W2 (gY w W2 (partsOf T x))):=λW2 hg=>by rw[q,bc];exact DF z I (aJ Q hg)
  generalize partsOf T x=ps at *;clear q hT hV P hz hW it ik iN ia hs ae O ab ad N ah ai z X p Q r HZ bc hy an I b8;rw[A,aE];clear A h8 h9 aE aC;have aq:Hid (∀f:World,W.grownBy f none->∀W2,f.grownBy W2 none->Calls prog 134 #[.slice D x.args.length E,.agg #[.i t0,.slice Y l0 Z]] W2 (gY w f ps)):=λf h5 W2 h2=>(HC W2 (aJ h5 h2)).mono λe w' h=>h.grown h2;clear HC;unfold bY bg;go_enter func85,ntmps85;go_wp2_with fail;have K:=CJ W (.cells #[.i 10,.slice (some ⟨j,F,none⟩) 1 c] 54) (.cells #[.i x.k,.i x.n,.i x.a,.string x.s,.slice D x.args.length E,.slice ta x.types.length tc,.slice na x.code.length nc] 36);have L:=iR W (.cells #[.i 10,.slice (some ⟨j,F,none⟩) 1 c] 54) (.cells #[.i x.k,.i x.n,.i x.a,.string x.s,.slice D x.args.length E,.slice ta x.types.length tc,.slice na x.code.length nc] 36);have B:=jh (aJ (aK (w:=W) (.cells #[.i 10,.slice (some ⟨j,F,none⟩) 1 c] 54)) (aK (.cells #[.i x.k,.i x.n,.i x.a,.string x.s,.slice D x.args.length E,.slice ta x.types.length tc,.slice na x.code.length nc] 36)));have aj:=(qn (B.block j q0 ot)).trans t1;have ak:=(qn (B.block j q0 ot)).trans t2;have M:j<((W.alloc (.cells #[.i 10,.slice (some ⟨j,F,none⟩) 1 c] 54)).alloc (.cells #[.i x.k,.i x.n,.i x.a,.string x.s,.slice D x.args.length E,.slice ta x.types.length tc,.slice na x.code.length nc] 36)).heap.size:=oB
  generalize (W.alloc (.cells #[.i 10,.slice (some ⟨j,F,none⟩) 1 c] 54)).alloc (.cells #[.i x.k,.i x.n,.i x.a,.string x.s,.slice D x.args.length E,.slice ta x.types.length tc,.slice na x.code.length nc] 36)=f at *;have k0:∀d:World,f.grownBy d none->d.heap[W.heap.size]?=_:=λd h=>(h.block _ (qq.1 K).1 ot).trans K;have k1:∀d:World,f.grownBy d none->d.heap[W.heap.size+1]?=_:=λd h=>(h.block _ (qq.1 L).1 ot).trans L;have f1:∀d:World,f.grownBy d none->d.cell? ⟨W.heap.size,1,none⟩=some (.slice (some ⟨j,F,none⟩) 1 c):=λd h=>wy (k0 d h);have f2:∀d:World,f.grownBy d none->d.cell? ⟨W.heap.size+1,4,none⟩=some (.slice D x.args.length E):=λd h=>(cO (k1 d h)).2.2.2.2.1;have f3:∀d:World,f.grownBy d none->d.cell? ⟨W.heap.size+1,1,none⟩=some (.i x.n):=λd h=>(cO (k1 d h)).2.1;have f4:∀d:World,f.grownBy d none->d.cell? ⟨j,F,none⟩=some (.i t0):=λd h=>(qn (h.block j M ot)).trans aj;have f5:∀d:World,f.grownBy d none->d.cell? ⟨j,F+1,none⟩=some (.slice Y l0 Z):=λd h=>(qn (h.block j M ot)).trans ak;clear k0 k1 K L aj ak M q0 t1 t2;go_region_held3 (λw'=>f.grownBy w' none) (first|assumption|exact fK (bM _ _)|exact fK (aK _)|exact aJ oS (aK _)) (first
   | (go_at_call 134;refine (aq f B _ oS).mono ?_;rintro e w2 b;obtain⟨cv,bb,rfl⟩:=b.form;have hS:=aJ (bM f none) b.2;have ar:=jh b;clear b))
  all_goals
   clear hS;go_wp2_with fail;go_ret2;exact ar.grown B
 have au:(T.t==10)=false:=by simpa using A
 by_cases G:T.t=13
 .have q:partsOf T x=if x.args.length<=24 then some ((List.replicate x.args.length (.nd 11 T.args)).zip x.args)else none:=by
   simp only[partsOf,bS];rw[if_neg h8,if_neg h9,if_neg A,if_pos G];split<;>rfl
  have HC:Hid (∀W2,W.grownBy W2 none->Calls prog 134 #[.slice D x.args.length E,bY 11 a T.args.length c] W2 (gY w W2 (partsOf T x))):=λW2 hg=>by rw[q];exact DF z (aH.of ⟨ov,ov⟩ p aO) (aJ Q hg)
  generalize partsOf T x=ps at *;clear q hT hV P hz hW it ik iN ia hs ae O ab ad N ah ai z X p Q r HZ b8 au;rw[G];clear G h8 h9 A;unfold bY at HC;unfold bY bg;go_enter func85,ntmps85;go_wp2_with fail;refine (HC _ (J _ _)).mono ?_;rintro e w2 b;have q:=gY.grown b (J _ _);clear b;rcases q with⟨⟨o,rfl⟩|⟨l,cv,cs,o,rfl,ho,hc⟩,g⟩
  .have S:=jh o;have m:=jh g;clear o g;go_wp2_with fail;go_ret2;exact⟨.inl ⟨S,rfl⟩,m⟩
  .obtain⟨HO,R,S,m⟩:=JT ho hc o g;clear ho hc o g;go_wp2_with fail;go_ret2;exact⟨.inr ⟨l,cv,cs,S,rfl,HO,R⟩,m⟩
 have ax:(T.t==13)=false:=by simpa using G
 by_cases C:T.t=12
 .have az:T.args.length=2:=by have:=r.out;rw[C]at this;simp[bT]at this;omega
  rcases P.side C with o|o
  .have q:partsOf T x=if x.args.length=([T.args[0]'od]:List Ty).length then some (([T.args[0]'od]:List Ty).zip x.args)else none:=by
    simp only[partsOf,bS];rw[if_neg h8,if_neg h9,if_neg A,if_neg G,if_pos C,o];have e1:bB T.args ((0:Int).toNat)=T.args[0]'od:=by show bB T.args 0=_;unfold bB;rw[qt od];rfl
    rw[e1]
    by_cases h0:x.args.length=1
    .rw[if_pos h0,if_pos (by simpa using h0)];rfl
    .rw[if_neg h0,if_neg (by simpa using h0)];rfl
   obtain⟨j,F,t0,Y,l0,Z,rfl,_,an,t1,t2⟩:=((p.2.1 0 od).same (ni Q)).cells;have I:=p.out.2.2 0 od;rw[an]at I;rw[qh0,qc0]at t1 t2;have q0:j<W.heap.size:=kd W _ t1;have aq:Hid (∀f:World,W.grownBy f none->∀H,f.heap.size=H->Calls prog 133 #[.slice D x.args.length E,.slice (some ⟨H,0,none⟩) 1 1] (f.alloc (.cells #[.i t0,.slice Y l0 Z] 54)).drew (gY w f (partsOf T x))):=λf h5 H hH=>by
    subst hH;have hb:(f.alloc (.cells #[.i t0,.slice Y l0 Z] 54)).drew.heap[f.heap.size]?=some (.cells #[.i t0,.slice Y l0 Z] 54):=qT f _;have hg:f.grownBy (f.alloc (.cells #[.i t0,.slice Y l0 Z] 54)).drew none:=fK (aK _);rw[q];refine (kX (ts:=[T.args[0]'od]) (U:=λ_=>bY t0 Y l0 Z) z ⟨OS,λi hi=>?_⟩ (aJ Q (aJ h5 hg)) HZ).mono λe w' h=>h.grown hg;have : i=0:=by simpa using hi
    subst this;exact⟨⟨f.heap.size,0,rfl,trivial,t0,Y,l0,Z,rfl,xq hb,wy hb⟩,I⟩
   generalize partsOf T x=ps at *;clear q hT hV P hz hW it ik iN ia hs ae O ab ad N ah ai z X p Q r HZ an I b8 au ax;rw[C,az,o];clear C h8 h9 A G az aC o;unfold bY bg;go_enter func85,ntmps85;go_wp2_with fail;have K:=CJ W (.cells #[.i 12,.slice (some ⟨j,F,none⟩) 2 c] 54) (.cells #[.i x.k,.i 0,.i x.a,.string x.s,.slice D x.args.length E,.slice ta x.types.length tc,.slice na x.code.length nc] 36);have L:=iR W (.cells #[.i 12,.slice (some ⟨j,F,none⟩) 2 c] 54) (.cells #[.i x.k,.i 0,.i x.a,.string x.s,.slice D x.args.length E,.slice ta x.types.length tc,.slice na x.code.length nc] 36);have B:=jh (aJ (aK (w:=W) (.cells #[.i 12,.slice (some ⟨j,F,none⟩) 2 c] 54)) (aK (.cells #[.i x.k,.i 0,.i x.a,.string x.s,.slice D x.args.length E,.slice ta x.types.length tc,.slice na x.code.length nc] 36)));have aj:=(qn (B.block j q0 ot)).trans t1;have ak:=(qn (B.block j q0 ot)).trans t2;have M:j<((W.alloc (.cells #[.i 12,.slice (some ⟨j,F,none⟩) 2 c] 54)).alloc (.cells #[.i x.k,.i 0,.i x.a,.string x.s,.slice D x.args.length E,.slice ta x.types.length tc,.slice na x.code.length nc] 36)).heap.size:=oB
   generalize (W.alloc (.cells #[.i 12,.slice (some ⟨j,F,none⟩) 2 c] 54)).alloc (.cells #[.i x.k,.i 0,.i x.a,.string x.s,.slice D x.args.length E,.slice ta x.types.length tc,.slice na x.code.length nc] 36)=f at *;have k0:∀d:World,f.grownBy d none->d.heap[W.heap.size]?=_:=λd h=>(h.block _ (qq.1 K).1 ot).trans K;have k1:∀d:World,f.grownBy d none->d.heap[W.heap.size+1]?=_:=λd h=>(h.block _ (qq.1 L).1 ot).trans L;have f1:∀d:World,f.grownBy d none->d.cell? ⟨W.heap.size,1,none⟩=some (.slice (some ⟨j,F,none⟩) 2 c):=λd h=>wy (k0 d h);have f2:∀d:World,f.grownBy d none->d.cell? ⟨W.heap.size+1,4,none⟩=some (.slice D x.args.length E):=λd h=>(cO (k1 d h)).2.2.2.2.1;have f3:∀d:World,f.grownBy d none->d.cell? ⟨W.heap.size+1,1,none⟩=some (.i 0):=λd h=>(cO (k1 d h)).2.1;have f4:∀d:World,f.grownBy d none->d.cell? ⟨j,F,none⟩=some (.i t0):=λd h=>(qn (h.block j M ot)).trans aj;have f5:∀d:World,f.grownBy d none->d.cell? ⟨j,F+1,none⟩=some (.slice Y l0 Z):=λd h=>(qn (h.block j M ot)).trans ak;clear k0 k1 K L aj ak M q0 t1 t2;go_region_held3 (λw'=>f.grownBy w' none) (first|assumption|exact fK (bM _ _)|exact fK (aK _)|exact aJ oS (aK _)) (first
    | (go_at_call 133;refine (aq f B _ rfl).mono ?_;rintro e w2 b;obtain⟨cv,bb,rfl⟩:=b.form;have hS:=aJ (bM f none) b.2;have ar:=jh b;clear b))
   all_goals
    clear hS;go_wp2_with fail;go_ret2;exact ar.grown B
  .have q:partsOf T x=if x.args.length=([T.args[1]'od]:List Ty).length then some (([T.args[1]'od]:List Ty).zip x.args)else none:=by
    simp only[partsOf,bS];rw[if_neg h8,if_neg h9,if_neg A,if_neg G,if_pos C,o];have e1:bB T.args ((1:Int).toNat)=T.args[1]'od:=by show bB T.args 1=_;unfold bB;rw[qt od];rfl
    rw[e1]
    by_cases h0:x.args.length=1
    .rw[if_pos h0,if_pos (by simpa using h0)];rfl
    .rw[if_neg h0,if_neg (by simpa using h0)];rfl
   obtain⟨j,F,t0,Y,l0,Z,rfl,_,an,t1,t2⟩:=((p.2.1 1 od).same (ni Q)).cells;have I:=p.out.2.2 1 od;rw[an]at I;have q0:j<W.heap.size:=kd W _ t1;have aq:Hid (∀f:World,W.grownBy f none->∀H,f.heap.size=H->Calls prog 133 #[.slice D x.args.length E,.slice (some ⟨H,0,none⟩) 1 1] (f.alloc (.cells #[.i t0,.slice Y l0 Z] 54)).drew (gY w f (partsOf T x))):=λf h5 H hH=>by
    subst hH;have hb:(f.alloc (.cells #[.i t0,.slice Y l0 Z] 54)).drew.heap[f.heap.size]?=some (.cells #[.i t0,.slice Y l0 Z] 54):=qT f _;have hg:f.grownBy (f.alloc (.cells #[.i t0,.slice Y l0 Z] 54)).drew none:=fK (aK _);rw[q];refine (kX (ts:=[T.args[1]'od]) (U:=λ_=>bY t0 Y l0 Z) z ⟨OS,λi hi=>?_⟩ (aJ Q (aJ h5 hg)) HZ).mono λe w' h=>h.grown hg;have : i=0:=by simpa using hi
    subst this;exact⟨⟨f.heap.size,0,rfl,trivial,t0,Y,l0,Z,rfl,xq hb,wy hb⟩,I⟩
   generalize partsOf T x=ps at *;clear q hT hV P hz hW it ik iN ia hs ae O ab ad N ah ai z X p Q r HZ an I b8 au ax;rw[C,az,o];clear C h8 h9 A G az aC o;unfold bY bg;go_enter func85,ntmps85;go_wp2_with fail;have K:=CJ W (.cells #[.i 12,.slice (some ⟨j,F,none⟩) 2 c] 54) (.cells #[.i x.k,.i 1,.i x.a,.string x.s,.slice D x.args.length E,.slice ta x.types.length tc,.slice na x.code.length nc] 36);have L:=iR W (.cells #[.i 12,.slice (some ⟨j,F,none⟩) 2 c] 54) (.cells #[.i x.k,.i 1,.i x.a,.string x.s,.slice D x.args.length E,.slice ta x.types.length tc,.slice na x.code.length nc] 36);have B:=jh (aJ (aK (w:=W) (.cells #[.i 12,.slice (some ⟨j,F,none⟩) 2 c] 54)) (aK (.cells #[.i x.k,.i 1,.i x.a,.string x.s,.slice D x.args.length E,.slice ta x.types.length tc,.slice na x.code.length nc] 36)));have aj:=(qn (B.block j q0 ot)).trans t1;have ak:=(qn (B.block j q0 ot)).trans t2;have M:j<((W.alloc (.cells #[.i 12,.slice (some ⟨j,F,none⟩) 2 c] 54)).alloc (.cells #[.i x.k,.i 1,.i x.a,.string x.s,.slice D x.args.length E,.slice ta x.types.length tc,.slice na x.code.length nc] 36)).heap.size:=oB
   generalize (W.alloc (.cells #[.i 12,.slice (some ⟨j,F,none⟩) 2 c] 54)).alloc (.cells #[.i x.k,.i 1,.i x.a,.string x.s,.slice D x.args.length E,.slice ta x.types.length tc,.slice na x.code.length nc] 36)=f at *;have k0:∀d:World,f.grownBy d none->d.heap[W.heap.size]?=_:=λd h=>(h.block _ (qq.1 K).1 ot).trans K;have k1:∀d:World,f.grownBy d none->d.heap[W.heap.size+1]?=_:=λd h=>(h.block _ (qq.1 L).1 ot).trans L;have f1:∀d:World,f.grownBy d none->d.cell? ⟨W.heap.size,1,none⟩=some (.slice (some ⟨j,F,none⟩) 2 c):=λd h=>wy (k0 d h);have f2:∀d:World,f.grownBy d none->d.cell? ⟨W.heap.size+1,4,none⟩=some (.slice D x.args.length E):=λd h=>(cO (k1 d h)).2.2.2.2.1;have f3:∀d:World,f.grownBy d none->d.cell? ⟨W.heap.size+1,1,none⟩=some (.i 1):=λd h=>(cO (k1 d h)).2.1;have f4:∀d:World,f.grownBy d none->d.cell? ⟨j,F+1*2,none⟩=some (.i t0):=λd h=>(qn (h.block j M ot)).trans aj;have f5:∀d:World,f.grownBy d none->d.cell? ⟨j,F+1*2+1,none⟩=some (.slice Y l0 Z):=λd h=>(qn (h.block j M ot)).trans ak;clear k0 k1 K L aj ak M q0 t1 t2;go_region_held3 (λw'=>f.grownBy w' none) (first|assumption|exact fK (bM _ _)|exact fK (aK _)|exact aJ oS (aK _)) (first
    | (go_at_call 133;refine (aq f B _ rfl).mono ?_;rintro e w2 b;obtain⟨cv,bb,rfl⟩:=b.form;have hS:=aJ (bM f none) b.2;have ar:=jh b;clear b))
   all_goals
    clear hS;go_wp2_with fail;go_ret2;exact ar.grown B
 have ba:(T.t==12)=false:=by simpa using C
 by_cases ao:T.t=14
 .have q:partsOf T x=if x.args.length=([]:List Ty).length then some (([]:List Ty).zip x.args)else none:=by
   simp only[partsOf,bS];rw[if_neg h8,if_neg h9,if_neg A,if_neg G,if_neg C,if_pos ao]
   by_cases h0:x.args.length=0
   .rw[if_pos h0,if_pos (by simpa using h0)];rfl
   .rw[if_neg h0,if_neg (by simpa using h0)];rfl
  have HC:Hid (∀W2,W.grownBy W2 none->Calls prog 133 #[.slice D x.args.length E,.n0] W2 (gY w W2 (partsOf T x))):=λW2 hg=>by rw[q];exact kX (ts:=[]) (U:=λ_=>.i 0) z ⟨OS,λi hi=>by simp at hi⟩ (aJ Q hg) HZ
  generalize partsOf T x=ps at *;clear q hT hV P hz hW it ik iN ia hs ae O ab ad N ah ai z X p Q r HZ b8 au ax ba;rw[ao];clear ao h8 h9 A G C;unfold bY bg;go_enter func85,ntmps85;go_wp2_with fail;refine (HC _ (J _ _)).mono ?_;rintro e w2 b;have q:=gY.grown b (J _ _);clear b;rcases q with⟨⟨o,rfl⟩|⟨l,cv,cs,o,rfl,ho,hc⟩,g⟩
  .have S:=jh o;have m:=jh g;clear o g;go_wp2_with fail;go_ret2;exact⟨.inl ⟨S,rfl⟩,m⟩
  .obtain⟨HO,R,S,m⟩:=JT ho hc o g;clear ho hc o g;go_wp2_with fail;go_ret2;exact⟨.inr ⟨l,cv,cs,S,rfl,HO,R⟩,m⟩
 have bd:(T.t==14)=false:=by simpa using ao
 have q:partsOf T x=if x.args.length=T.args.length then some (T.args.zip x.args)else none:=by simp only[partsOf,bS];rw[if_neg h8,if_neg h9,if_neg A,if_neg G,if_neg C,if_neg ao];split<;>rfl
 have HC:Hid (∀W2,W.grownBy W2 none->Calls prog 133 #[.slice D x.args.length E,.slice a T.args.length c] W2 (gY w W2 (partsOf T x))):=λW2 hg=>by rw[q];exact kX z (vT.of p (aJ Q hg)) (aJ Q hg) HZ
 generalize partsOf T x=ps at *;clear q hT hV P hz hW it ik iN ia hs ae O ab ad N ah ai z X p Q r HZ
 by_cases ay:T.t=9
 .have h0:¬x.args.length=0:=λe=>h9 ⟨ay,e⟩;have z1:¬(x.args.length:Int)=0:=by omega
  have z2:((x.args.length:Int)==0)=false:=by rw[ud];exact z1
  clear h9 b8 au ax ba bd h8 A G C ao h0;rw[ay];clear ay;unfold bY bg;go_enter func85,ntmps85;go_wp2_with fail;refine (HC _ (J _ _)).mono ?_;rintro e w2 b;have q:=gY.grown b (J _ _);clear b;rcases q with⟨⟨o,rfl⟩|⟨l,cv,cs,o,rfl,ho,hc⟩,g⟩
  .have S:=jh o;have m:=jh g;clear o g;go_wp2_with fail;go_ret2;exact⟨.inl ⟨S,rfl⟩,m⟩
  .obtain⟨HO,R,S,m⟩:=JT ho hc o g;clear ho hc o g;go_wp2_with fail;go_ret2;exact⟨.inr ⟨l,cv,cs,S,rfl,HO,R⟩,m⟩
 .have b9:(T.t==9)=false:=by simpa using ay
  clear h9;unfold bY bg;go_enter func85,ntmps85;go_wp2_with fail;refine (HC _ (J _ _)).mono ?_;rintro e w2 b;have q:=gY.grown b (J _ _);clear b;rcases q with⟨⟨o,rfl⟩|⟨l,cv,cs,o,rfl,ho,hc⟩,g⟩
  .have S:=jh o;have m:=jh g;clear o g;go_wp2_with fail;go_ret2;exact⟨.inl ⟨S,rfl⟩,m⟩
  .obtain⟨HO,R,S,m⟩:=JT ho hc o g;clear ho hc o g;go_wp2_with fail;go_ret2;exact⟨.inr ⟨l,cv,cs,S,rfl,HO,R⟩,m⟩
def mr:(prog.info? 36).map (λi=>(i.zero,i.size,i.bytes))=some (some (.agg #[.i 0,.i 0,.i 0,.string ⟨#[]⟩,.n0,.n0,.n0]),7,112):=oA
def dF (B:Nat) (w:World) (v:Value) (vs:List Value):Prop:=w.ownsRow B 36 7 v vs.length (flat vs)
def V7{rest:List Oper}{a:Act}(B:Nat)(vs:List Value)(k n p:Int)(st:ByteArray)(sa:Option Addr)(sl sc:Nat)(ta:Option Addr)(tl tc:Nat)(na:Option Addr)(c nc:Nat)(w0:World)(v:Value)(d:o.guard=none)(s x:Operand)
 (ho:o.op =.call { callee:=.builtin .append,args:=#[s,x],argTypes:=#[28,28] }) (hs:a.eval s=v) (hx:a.eval x =.slice (some ⟨H,0,none⟩) 1 1) (hH:w0.heap.size=H)
 (hown:dF B w0 v vs) (hB:B<=w0.heap.size) (hlen:vs.length<=100000000000)
 (h:∀g cap w',dF B w' (.slice (some ⟨g,0,none⟩) (vs.length+1) cap) (vs++[bg k n p st sa sl sc ta tl tc na c nc])->Gr w0 v w' (.slice (some ⟨g,0,none⟩) (vs.length+1) cap)->wpList prog ops Q rest (a.put o.dst (.slice (some ⟨g,0,none⟩) (vs.length+1) cap)) w') :
 wpList prog ops Q (o::rest) a (w0.alloc (.cells #[.i k,.i n,.i p,.string st,.slice sa sl sc,.slice ta tl tc,.slice na c nc] 36)):=by
 obtain⟨t,r,e,f,j⟩:=qg1 mr;subst hH;refine jb2 _ d s x 28 ho B 36 t _ 7 112 underlying28 r e f j rfl ov v vs.length (flat vs) hs (xo hown _) ⟨w0.heap.size,0,none⟩ 1 1 [.i k,.i n,.i p,.string st,.slice sa sl sc,.slice ta tl tc,.slice na c nc] hx rfl ?_ ?_ ov ?_ ?_ ?_ _ rfl ?_
 .exact qg0 (w:=w0.alloc _) (B:=w0.heap.size) (cs:=#[.i k,.i n,.i p,.string st,.slice sa sl sc,.slice ta tl tc,.slice na c nc]) (qT _ _)
 .intro u l;simp at l;rcases l with rfl|rfl|rfl|rfl|rfl|rfl|rfl<;>rfl
 .unfold maxLen;omega
 .omega
 .simp;omega
 .intro g cap w' m q b _;refine h g cap w' ?_ ?_
  .unfold dF;rw[bV,qS];exact m
  .refine Gr.trans (Gr.alloc (Gr.refl w0 v) _) ⟨q,?_⟩;rcases b with b|b
   .exact .inl b.symm
   .exact .inr ⟨g,rfl,od⟩
structure iL (K:Nat->Prop) (H:Nat) (w:World) (v:Value) (ts:List Va) (vs:List Value):Prop where
 own:dF H w v vs
 len:vs.length=ts.length
 lies:∀(i:Nat) (t:Va) (u:Value),ts[i]?=some t->vs[i]?=some u->aA (λb=>(K b\/H<=b)/\some b≠v.ownBlock) w t u
def iL.push{K:Nat->Prop}{v':Value}{ts:List Va}{t:Va}{S:Nat}(h:iL K H w v ts vs)(f:∀b,K b->b<H)(F:H<=S)(n:∀k,v.ownBlock=some k->k<S)(z:aA (λb=>K b\/S<=b) w t u)(q:Gr w v w' v')(C:dF H w' v' (vs++[u])):iL K H w' v' (ts++[t]) (vs++[u]):=by
 have p:∀t u,aA (λb=>(K b\/H<=b)/\some b≠v.ownBlock) w t u->aA (λb=>(K b\/H<=b)/\some b≠v'.ownBlock) w' t u:=by
  intro t u B;have y:=B.ae (ok':=λb=>(K b\/H<=b)/\some b≠v.ownBlock/\some b≠v'.ownBlock) (λb a l=>⟨l.1,l.2,by
   rcases q.2 with e|⟨g,e,A⟩
   .rw[e];exact l.2
   .rw[e];simp;omega⟩)
  refine (y.same (w':=w') ?_).ae (λb _ a=>⟨a.1,a.2.2⟩);intro b o a m;exact qn (q.block m a.2.1)
 refine⟨C,by simp[h.len],λi s x c d=>p s x ?_⟩
 by_cases r:i<ts.length
 .rw[jt r]at c;rw[jt (by rw[h.len];exact r)]at d;exact h.lies i s x c d
 .have j:i=ts.length:=by
   have:=(jj.1 c).1;simp at this;omega
  subst j;rw[js (qv _)]at c;rw[<-h.len,js (qv _)]at d;simp at c d;subst c;subst d;exact z.ae (λb _ a=>⟨a.imp id od,λe=>by have D:=n b e.symm;have E:=(kp h.own b e.symm).1;rcases a with a|a;have:=f b a;all_goals omega⟩)
def flatV_get:∀(vs:List Value),(∀u∈vs,(nodeCells u).length=7)->∀(i j:Nat) (u:Value),vs[i]?=some u->j<7->(flat vs)[i*7+j]?=(nodeCells u)[j]?
 | [],_,i,j,u,h,_=>by simp at h
 | x::vs,a,0,j,u,h,b=>by simp at h;subst h;have:=a x ot;simp only[flat,qd5];rw[jt od];simp
 | x::vs,a,i+1,j,u,h,b=>by have c:=a x ot;have:=flatV_get vs (λu d=>a u (by simp[d])) i j u (by simpa using h) b;simp only[flat,qd5]at this|-;rw[js od,c,show (i+1)*7+j - 7=i*7+j from by omega];exact this
def iL.done{K:Nat->Prop}{ts:List Va}(h:iL K H w v ts vs)(Q:ts.length<=maxLen) :
 ∃(a:Option Addr) (c:Nat) (V:Nat->Value),v =.slice a ts.length c/\ts.length<=c/\aT (λb=>K b\/H<=b) w ts a V:=by
 have P:=h.len;have f:∀i (l:i<ts.length),∃u,vs[i]?=some u/\aA (λb=>K b\/H<=b) w ts[i] u:=by
  intro i l;have D:i<vs.length:=od
  exact⟨vs[i],qt D,(h.lies i ts[i] vs[i] (qt l) (qt D)).ae (λb _ L=>L.1)⟩
 have J:∀u∈vs,(nodeCells u).length=7:=by intro u S;obtain⟨i,l,rfl⟩:=ye S;obtain⟨u,e,m⟩:=f i od;rw[qt l]at e;simp at e;obtain⟨k,n,p,s,B,al,C,ta,tl,tc,E,G,F,q⟩:=m.bg;rw[e,q];rfl
 have z:=h.own;unfold dF at z;rcases z.2 with⟨rfl,U⟩|⟨g,r,I,rfl,y,W,R,M,N,A⟩
 .have t:ts.length=0:=by omega
  exact⟨none,0,λ_=>.i 0,by rw[t],od,od,λi l=>od,λi l=>od⟩
 .refine⟨some ⟨g,0,none⟩,r,λi=>(vs[i]?).getD (.i 0),by rw[P],od,Q,λi l=>?_,λi l=>?_⟩
  .obtain⟨u,e,m⟩:=f i l;obtain⟨k,n,p,s,B,al,C,ta,tl,tc,E,G,F,q⟩:=m.bg;have d:∀j x,j<7->(nodeCells u)[j]?=some x->w.cell? ⟨g,i*7+j,none⟩=some x:=by
    intro j x O T;have:=yy z (g:=g) rfl (i*7+j) x (by rw[flatV_get vs J i j u e O];exact T);have o:(⟨g,0,none⟩:Addr).add (i*7+j)=⟨g,i*7+j,none⟩:=oY
    rwa [o]at this
   rw[q]at d;refine⟨g,0,rfl,.inr y,k,n,p,s,B,al,C,ta,tl,tc,E,G,F,by show (vs[i]?).getD _=_;rw[e];exact q,?_,?_,?_,?_,?_,?_,?_⟩
   .have:=d 0 _ od rfl;simpa using this
   .have:=d 1 _ od rfl;simpa using this
   .have:=d 2 _ od rfl;simpa using this
   .have:=d 3 _ od rfl;simpa using this
   .have:=d 4 _ od rfl;simpa using this
   .have:=d 5 _ od rfl;simpa using this
   .have:=d 6 _ od rfl;simpa using this
  .obtain⟨u,e,m⟩:=f i l;show aA _ _ _ ((vs[i]?).getD _);rw[e];exact m
def jI(n:Int)(w:World):Calls prog 78 #[.i n] w λe w'=>e =.returned (.bool (kE n))/\w'=w:=by
 go_enter func78,ntmps78
 go_wp2
 all_goals
  go_ret;refine Lf.kZ ?_ rfl;rw[qd0];simp[kE]
  try omega
def E5(n:Int)(w:World):Calls prog 179 #[.i n] w λe w'=>e =.returned (.bool (gN n))/\w'=w:=by
 have H:=jh (λw=>jI n w)
 by_cases h:0<=n
 .have a:gN n=kE n:=by
   rw[qd0];simp[gN,kE];omega
  rw[a];generalize kE n=b at *;clear a;go_enter func179,ntmps179;go_wp2_with ((go_at_call 78;refine (H _).mono ?_;rintro e w' ⟨rfl,rfl⟩));go_ret;exact⟨rfl,rfl⟩
 .have a:gN n=false:=by simp[gN];omega
  rw[a];clear a;go_enter func179,ntmps179;go_wp2_with fail;go_ret;exact⟨rfl,rfl⟩
def Br(n:Int)(w:World):Calls prog 131 #[.i n] w λe w'=>e =.returned (.bool (lY n))/\w'=w:=by
 go_enter func131,ntmps131
 go_wp2
 all_goals
  go_ret;refine Lf.kZ ?_ rfl;rw[qd0];simp[lY]
  try omega
def JI(n:Int)(w:World):Calls prog 130 #[.i n] w λe w'=>e =.returned (.bool (decide (n=8\/n=15)))/\w'=w:=by
 go_enter func130,ntmps130
 go_wp2
 all_goals
  go_ret;refine Lf.kZ ?_ rfl;rw[qd0];simp
  try omega
def Nr(t n:Int)(w:World):Calls prog 129 #[.i t,.i n] w λe w'=>e =.returned (.bool (bQ t n))/\w'=w:=by
 obtain⟨b,c,d⟩:=we (λw=>jI n w) (λw=>E5 n w) (λw=>Br n w);have g:Hid (bQ t n=bQ t n):=rfl;generalize a:bQ t n=r;have f:=jh a;clear a g;go_enter func129,ntmps129;go_wp2_with (first
  | (go_at_call 78;refine (b _).mono ?_;rintro e w' ⟨rfl,rfl⟩)
  | (go_at_call 179;refine (c _).mono ?_;rintro e w' ⟨rfl,rfl⟩)
  | (go_at_call 131;refine (d _).mono ?_;rintro e w' ⟨rfl,rfl⟩))
 all_goals
  go_ret;refine Lf.kZ ?_ rfl;have a:=f.out;clear f b c d;subst a;rw[qd0];simp_all [bQ]
def dw.up(h:dw (λ_=>True) w ts a V)(d:w.grownBy W none):dw (· < W.heap.size) W ts a V :=
 (h.same (ni d)).ae (λb c _=>c)
def aH.up(h:aH (λ_=>True) w T v)(c:w.grownBy W none):aH (· < W.heap.size) W T v :=
 (h.same (ni c)).ae (λb a _=>a)
def FC(h:i<l.length):l[i].size<=tysizes l:=jS (zj h)
def ent_ksame:∀args w,(callFunc 39 args).run prog w =.ok (.enter 39 args) w:=λargs w=>OK
def nS (x y:List Ty) (i:Nat):Bool:=match x[i]?,y[i]? with
 | some p,some q=>sameT p q
 | _,_=>true
def Ko{x:List Ty}(a:i<x.length)(b:i<y.length):nS x y i=sameT x[i] y[i]:=by simp[nS,qt a,qt b]
def sameTs_all:∀(x y:List Ty),x.length=y.length->((∀i,i<x.length->nS x y i=true)->sameTs x y=true)/\((∃i,i<x.length/\nS x y i=false)->sameTs x y=false)
 | [],[],_=>⟨λ_=>rfl,λ⟨i,h,_⟩=>by simp at h⟩
 | _::_,[],h=>by simp at h
 | [],_::_,h=>by simp at h
 | p::x,q::y,h=>by
  obtain⟨f,g⟩:=sameTs_all x y (by simpa using h);refine⟨λb=>?_,λ⟨i,a,c⟩=>?_⟩
  .have d:=b 0 ot;have e:=f (λi a=>by have:=b (i+1) (by simpa using a);simpa[nS]using this);simp[sameTs,e];simpa[nS]using d
  .cases i with
   | zero =>
    have j:sameT p q=false:=by simpa[nS]using c
    simp[sameTs,j]
   | succ i =>
    have:=g ⟨i,by simpa using a,by simpa[nS]using c⟩;simp[sameTs,this]
def tY{x:List Ty}{b:Option Addr}{ca cb:Nat}{q:Nat->Value}(l:dw (λ_=>True) w x a V)(p:dw (λ_=>True) w y b q)(hz:tysizes x<=50000000)(W:World)(k:w.grownBy W none) :
 Calls prog 38 #[.slice a x.length ca,.slice b y.length cb,.func (.func 39) #[] #[]] W λe w'=>e =.returned (.bool (sameTs x y))/\W.grownBy w' none:=by
 by_cases g:x.length=y.length
 .have h:=Dq 39 #[] x.length a b ca cb V q (nS x y) (λ_ f=>W.grownBy f none) (λf=>W.grownBy f none) l.1 ent_ksame
   (λi f d c=>((l.2.1 i d).same (ni (aJ k c)))) (λi f d c=>((p.2.1 i od).same (ni (aJ k c)))) (λi f o c=>aJ c (aK _))
   (λi f d c=>by have r:=aH.up (l.2.2 i d) (aJ k c);have s:=aH.up (p.2.2 i od) (aJ k c);have t:=Ik r s (kh (FC d) hz);rw[Ko d od];exact t.mono λe w' h=>⟨h.1,λ_=>aJ c h.2,λ_=>aJ c h.2⟩) W (bM _ _)
  rw[g]at h|-;obtain⟨z,A⟩:=sameTs_all x y g;refine h.mono λe w' h=>?_;rcases h with⟨rfl,m,j⟩|⟨i,d,u,rfl,m⟩
  .rw[z (by rw[g];exact j)];exact⟨rfl,m⟩
  .rw[A ⟨i,by rw[g];exact d,u⟩];exact⟨rfl,m⟩
 .have h:=Dr (.func (.func 39) #[] #[]) x.length y.length a b ca cb g l.1 p.1 W;have n:sameTs x y=false:=by
   cases v:sameTs x y with
   | false=>rfl
   | true=>exact absurd (sameTs_len v) g
  rw[n];exact h.mono λe w' h=>⟨h.1,by rw[h.2];exact bM _ _⟩
def Ns{types:List Ty}{VT:Nat->Value}(p:aH (λ_=>True) w T u)(m:dw (λ_=>True) w types ta VT)(v:tysizes types<=50000000)(W:World)(q:w.grownBy W none) :
 Calls prog 132 #[u,.slice ta types.length tc] W λe w'=>e =.returned (.bool (eZ T types))/\W.grownBy w' none:=by
 obtain⟨a,c,V,rfl,z,g⟩:=p.inv;have G:=m.1;unfold maxLen at G;obtain⟨k,d,l,n⟩:=JT m g q v
 by_cases h:T.t=8
 .have hF:eZ T types=oneGood types:=by unfold eZ;rw[if_pos h]
  rw[hF]
  by_cases y:types.length=1
  .obtain⟨x,rfl⟩:=jc5.1 y;obtain⟨K,U,O,J,N,L,rfl,_,H,D,M⟩:=((k.2.1 0 ot).same (ni l)).cells;have F:∀W2,W.grownBy W2 none->Calls prog 45 #[bY O J N L] W2 λe w'=>e =.returned (.bool (zt x))/\W2.grownBy w' none:=λW2 A=>by
    have E:=k.out.2.2 0 ot;rw[H]at E;exact nT (aH.up E (aJ l A))
   have C:=jh F;rw[qh0,qc0]at D M;have X:K<W.heap.size:=kd W _ D;rw[show oneGood [x]=zt x from rfl];generalize zt x=r at *;clear F p m g q v z hF y H k d n;have b:=jh (aK (w:=W) (.cells #[.i T.t,.slice a T.args.length c] 54));rw[h]at b|-;clear h;unfold bY at C|-;simp only[yW]at G|-;go_enter func132,ntmps132;go_wp2_with fail;refine (C _ b).mono ?_;rintro e P ⟨rfl,s⟩;have j:=jh (aJ b s);clear s;go_wp2_with fail;go_ret;exact⟨rfl,j⟩
  .have o:=J3 y;rw[o];have Q:¬(types.length:Int)=1:=by omega
   have Y:((types.length:Int)==1)=false:=by rw[ud];exact Q
   clear p m g q v z hF o y k d n l;rw[h];clear h;unfold bY;go_enter func132,ntmps132;go_wp2_with fail;go_ret;exact⟨rfl,aK _⟩
 .by_cases f:T.t=14
  .have hF:eZ T types=sameTs types T.args:=by unfold eZ;rw[if_neg h,if_pos f]
   rw[hF];have I:=jh (λW2 (A:W.grownBy W2 none)=>tY (ca:=tc) (cb:=c) k d n W2 (aJ l A));generalize sameTs types T.args=r at *;have B:=d.out.1;unfold maxLen at B;clear p m g q v z hF h k d n l;have b:=jh (aK (w:=W) (.cells #[.i T.t,.slice a T.args.length c] 54));rw[f]at b|-;clear f;unfold bY;go_enter func132,ntmps132;go_wp2_with fail;refine (I _ b).mono ?_;rintro e P ⟨rfl,s⟩;have j:=jh (aJ b s);clear s;go_wp2_with fail;go_ret;exact⟨rfl,j⟩
  .have hF:eZ T types=decide (types.length=0):=by unfold eZ;rw[if_neg h,if_neg f]
   rw[hF];have R:(T.t==8)=false:=by simpa using h
   have S:(T.t==14)=false:=by simpa using f
   clear p m g q v z hF k d n l;unfold bY;go_enter func132,ntmps132;go_wp2_with fail;go_ret;refine Lf.kZ ?_ (aK _);rw[qd0];simp
open Pe
def Y0(n:Int):Hd ⟨131,[iA n],aQ (lY n)⟩:=jM (bK func131) λd w vs h=>by
 match vs,h with
 | [v],⟨c,_⟩=>rw[bW c];exact (Br n w).mono λe w' ⟨a,b⟩=>⟨a,b ▸ bM _ _⟩
def WG(n:Int):Hd ⟨130,[iA n],aQ (decide (n=8\/n=15))⟩:=jM (bK func130) λd w vs h=>by
 match vs,h with
 | [v],⟨c,_⟩=>rw[bW c];exact (JI n w).mono λe w' ⟨a,b⟩=>⟨a,b ▸ bM _ _⟩
def SL(t n:Int):Hd ⟨129,[iA t,iA n],aQ (bQ t n)⟩:=jM (bK func129) λc w vs h=>by
 match vs,h with
 | [u,v],⟨a,b,_⟩=>rw[bW a,bW b];exact (Nr t n w).mono λe w' ⟨a,b⟩=>⟨a,b ▸ bM _ _⟩
def SQ(e:okT T)(g:okTs l)(i:tysizes l<=50000000):Hd ⟨132,[tyA T,dZ l],aQ (eZ T l)⟩:=jM (bK func132) λj w vs h=>by
 match vs,h with
 | [u,v],⟨b,d,_⟩ =>
  obtain⟨a,c,V,rfl,_,f⟩:=jR g (.inl rfl) d;exact Ns ((jC e b).ae λ_ _ _=>trivial) (f.ae λ_ _ _=>trivial) i w (bM _ _)
def Tn(D:okT T)(G:okV x)(H:x.size<=20000000):Hd ⟨84,[tyA T,pF x],aQ (eX T x)⟩:=by
 obtain⟨t,ta⟩:=T;obtain⟨k,n,a,s,I,q,m⟩:=x;have J:=SL t n;have K:=WG t;have L:=Y0 a;have M:=SQ (T:=.nd t ta) (l:=q) D G.2.2.1 (by simp only[Va.size]at H;omega);have hF:eX (.nd t ta) (.mk k n a s I q m)=(decide (k=t)&&bQ t n&&(decide (a=0)||decide (t=8\/t=15)&&lY a)&&(decide (s.size=0)||decide (t=6)&&decide (s.size<=200))&&eZ (.nd t ta) q&&(decide (m.length=0)||decide (t=14))):=rfl;have v:decide (s.size=0)=(s.toList==([]:List UInt8)):=by rw[qd0,ki,beq_iff_eq];exact (Lf.Au s).symm
 have o:decide (m.length=0)=decide (((ndsD m).length:Int)=0):=by rw[ndsD_map,qg7,qd0,ki,ki];omega
 have w:decide (s.size<=200)=decide ((s.size:Int)<=200):=by rw[qd0,ki,ki];omega
 rw[hF,v,w,o];clear hF v w o D G H;generalize y:decide (k=t)=b;generalize bQ t n=d at *;generalize z:decide (a=0)=c;generalize decide (t=8\/t=15)=e at *;generalize lY a=g at *;generalize A:(s.toList==([]:List UInt8))=f;generalize B:decide (t=6)=i;generalize C:decide ((s.size:Int)<=200)=j;generalize eZ (.nd t ta) q=r at *;generalize E:decide (((ndsD m).length:Int)=0)=p;generalize F:decide (t=14)=u;refine runT func84 [(9,bA b),(20,bA c),(35,bA f),(39,bA i),(44,bA j),(58,bA p),(62,bA u)]
  (Xk [(b,⟨_,J⟩),(b&&d && !c,⟨_,K⟩),(b&&d && !c&&e,⟨_,L⟩),(b&&d&&(c||e&&g)&&(f||i&&j),⟨_,M⟩)])
  (ob:=Xk [(true,jJ (decide (k=t)) b),(b&&d,jJ (decide (a=0)) c),(b&&d&&(c||e&&g),jJ (s.toList==([]:List UInt8)) f),(b&&d&&(c||e&&g) && !f,jJ (decide (t=6)) i),(b&&d&&(c||e&&g) && !f&&i,jJ (decide ((s.size:Int)<=200)) j),(b&&d&&(c||e&&g)&&(f||i&&j)&&r,jJ (decide (((ndsD m).length:Int)=0)) p),(b&&d&&(c||e&&g)&&(f||i&&j)&&r && !p,jJ (decide (t=14)) u)]) (h:=?_)
  (IM (eT y) (IM (eT z) (IM (eT A) (IM (eT B) (IM (eT C) (IM (eT E) (IM (eT F) al0)))))))
 clear y z A B C E F;cases b
 .kernel_rfl
 cases d
 .kernel_rfl
 cases c
 case' false =>
  cases e
  .kernel_rfl
  cases g
  .kernel_rfl
 all_goals
  cases f
  case' false =>
   cases i
   .kernel_rfl
   cases j
   .kernel_rfl
  all_goals
   cases r
   .kernel_rfl
   cases p
   case' false=>cases u
   all_goals kernel_rfl
def Qo(a:aH (λ_=>True) w T u)(b:aA (λ_=>True) w x v)(g:x.size<=20000000)(W:World)(c:w.grownBy W none) :
 Calls prog 84 #[u,v] W λe w'=>e =.returned (.bool (eX T x))/\W.grownBy w' none:=by
 have a:=a.same (ni c);have b:=b.same (ni c);refine ((Tn (qI a).1 (BC b) g).runN rfl (λ_=>True) W [u,v] ⟨Mh a,FJ b,trivial⟩).mono ?_;rintro e w' ⟨d,v,rfl,f⟩;exact⟨by rw[bW f],d⟩
def QN(a:Int)(w:World):Calls prog 91 #[.i a] w λe w'=>e =.returned (.bool false)/\w'=w:=by
 go_enter func91,ntmps91
 go_wp2
 all_goals
  go_ret
  first|exact⟨rfl,rfl⟩|exact Lf.kZ ot rfl
def QO(a:ByteArray)(w:World):Calls prog 209 #[.string a] w λe w'=>e =.returned (.bool false)/\w'=w:=by
 go_enter func209,ntmps209
 go_wp2
 all_goals
  go_ret
  first|exact⟨rfl,rfl⟩|exact Lf.kZ ot rfl
def tT(a b:Int)(w:World):Calls prog 58 #[.i a,.i b] w λe w'=>e =.returned (.i (gP a b))/\w'=w:=by
 have H:=jh QN
 by_cases d:a<b
 .have c:gP a b = -1:=by rw[gP,if_pos d]
  rw[c];clear c;go_enter func58,ntmps58;go_wp2_with ((go_at_call 91;refine (H _ _).mono ?_;rintro e w' ⟨rfl,rfl⟩));go_ret;exact⟨rfl,rfl⟩
 .by_cases f:b<a
  .have c:gP a b=1:=by rw[gP,if_neg d,if_pos f]
   rw[c];clear c;go_enter func58,ntmps58;go_wp2_with ((go_at_call 91;refine (H _ _).mono ?_;rintro e w' ⟨rfl,rfl⟩));go_ret;exact⟨rfl,rfl⟩
  .have c:gP a b=0:=by rw[gP,if_neg d,if_neg f]
   rw[c];clear c;go_enter func58,ntmps58;go_wp2_with ((go_at_call 91;refine (H _ _).mono ?_;rintro e w' ⟨rfl,rfl⟩));go_ret;exact⟨rfl,rfl⟩
def Qa(a b:ByteArray)(w:World):Calls prog 184 #[.string a,.string b] w λe w'=>e =.returned (.i (Jn a b))/\w'=w:=by
 have H:=jh QO;have h:∀w,(binOp BinOp.gtr 9 (.string a) (.string b)).run prog w =.ok (.bool (!(Op.bytesLess a.toList b.toList||a.toList==b.toList))) w:=λw=>by simp[binOp,Op.stringOp]
 have j:Jn a b=if Op.bytesLess a.toList b.toList=true then -1 else if a.toList=b.toList then 0 else 1:=rfl
 rw[j]
 cases f:Op.bytesLess a.toList b.toList with
 | true =>
  rw[if_pos rfl];go_enter func184,ntmps184;go_wp2_with ((go_at_call 209;refine (H _ _).mono ?_;rintro e w' ⟨rfl,rfl⟩));go_ret;exact⟨rfl,rfl⟩
 | false =>
  rw[if_neg ov]
  by_cases c:a.toList=b.toList
  .rw[if_pos c];have d:(a.toList==b.toList)=true:=by simpa using c
   have k:a=b:=by
    have g:a.data=b.data:=by apply Array.ext';rw[ja7,ja7]at c;exact c
    cases a;cases b;simp_all
   subst k;clear c d;go_enter func184,ntmps184;go_wp2_with ((go_at_call 209;refine (H _ _).mono ?_;rintro e w' ⟨rfl,rfl⟩));go_ret;exact⟨rfl,rfl⟩
  .rw[if_neg c];have d:(a.toList==b.toList)=false:=by simpa using c
   have g:(Op.bytesLess a.toList b.toList||a.toList==b.toList)=false:=by rw[f,d];rfl
   go_enter func184,ntmps184;go_wp2_with ((go_at_call 209;refine (H _ _).mono ?_;rintro e w' ⟨rfl,rfl⟩));go_ret;exact⟨rfl,rfl⟩
def OM(k n a:Int)(s:ByteArray)(b:Option Addr)(al ac:Nat)(ta:Option Addr)(tl tc:Nat)(na:Option Addr)(c nc:Nat)(w:World) :
 Calls prog 36 #[bg k n a s b al ac ta tl tc na c nc] w λe w'=>e =.returned (.slice b al ac)/\w.grownBy w' none:=by
 unfold bg;go_enter func36,ntmps36;go_wp2_with fail;go_ret;exact⟨rfl,aK _⟩
def LQ(b:Nat)(x y:Int)(w:World)(q:w.cell? ⟨b,0,none⟩=some (.i x))(s:w.cell? ⟨b,1,none⟩=some (.i y)) :
 Calls prog 183 #[.slice (some ⟨b,0,none⟩) 2 2] w λe w'=>e =.returned (.i (if x≠0 then x else y))/\w.grownBy w' none:=by
 generalize t:(if x≠0 then x else y)=r;have n:=jh t;clear t;obtain⟨c,l,m⟩:=we (bM w none) q s;clear q s;go_enter func183,ntmps183;go_wp2_with fail;go_loopw [8] (λi wr=>∃j:Nat,j<=2/\i =.i j/\wr=w/\(0<j->x=0)/\(1<j->y=0)) (λi _=>2 - (intOf i).toNat)
 case atStart=>exact⟨0,od,rfl,rfl,λh=>od,λh=>od⟩
 case round =>
  obtain⟨j,A,rfl,rfl,o,p⟩:=hrel;have k:=jh o;have u:=jh p;have v:=l.out;have z:=m.out;clear o p;rcases (show j=0\/j=1\/j=2 from by omega)with rfl|rfl|rfl
  .by_cases a:x=0
   .have g:=jh a;have d:(x==0)=true:=by simpa using a
    have f:(x != 0)=false:=by simpa using a
    clear a;go_wp2_with fail;go_roundw
    case rel=>exact⟨1,od,OF,trivial,λ_=>g,λh=>od⟩
    case measure=>simp[intOf]
   .have g:=jh a;have d:(x==0)=false:=by simpa using a
    have f:(x != 0)=true:=by simpa using a
    go_wp2_with fail;go_ret;exact Lf.lX (by rw[<-n.out,if_pos g.out]) c
  .by_cases a:y=0
   .have g:=jh a;have d:(y==0)=true:=by simpa using a
    have f:(y != 0)=false:=by simpa using a
    clear a;go_wp2_with fail;go_roundw
    case rel=>exact⟨2,od,OF,trivial,λ_=>k od,λ_=>g⟩
    case measure=>simp[intOf]
   .have g:=jh a;have d:(y==0)=false:=by simpa using a
    have f:(y != 0)=true:=by simpa using a
    go_wp2_with fail;go_ret;exact Lf.lX (by rw[<-n.out,if_neg (by simpa using k.out od)]) c
  .clear v z;go_wp2_with fail;go_ret;exact Lf.lX (by rw[<-n.out,if_neg (by simpa using k.out od),u.out od]) c
def UB(w0:World)(T:TypeId)(x y:Int)(H:Nat)(b:w0.heap.size=H) :
 Calls prog 183 #[.slice (some ⟨H,0,none⟩) 2 2] (w0.alloc (.cells #[.i x,.i y] T)).drew λe w'=>e =.returned (.i (if x≠0 then x else y))/\w0.grownBy w' none:=by
 subst b;have a:(w0.alloc (.cells #[.i x,.i y] T)).drew.heap[w0.heap.size]?=some (.cells #[.i x,.i y] T):=qT w0 (.cells #[.i x,.i y] T);exact (LQ w0.heap.size x y _ (xq a) (wy a)).mono λe w' h=>⟨h.1,aJ (fK (aK _)) h.2⟩
def Q5{y:Va}(K:aA (λ_=>True) w x u)(L:aA (λ_=>True) w y v)(W:World) :
 Calls prog 182 #[u,v] W λe w'=>e =.returned (.i (nQ x y))/\W.grownBy w' none:=by
 obtain⟨p,q,ta,tc,A,B,_,_,_,rfl,_,_,_,_⟩:=K.inv;obtain⟨f,g,m,o,j,l,_,_,_,rfl,_,_,_,_⟩:=L.inv;clear K L;have HO:=jh LQ;have D:nQ x y=if gP x.n y.n≠0 then gP x.n y.n else Jn x.s y.s:=rfl
 rw[D];have M:=jh (λw=>tT x.n y.n w);have N:=jh (λw=>Qa x.s y.s w);clear D;generalize gP x.n y.n=F at *;generalize Jn x.s y.s=I at *;unfold bg;generalize D:(if F≠0 then F else I)=r;have J:=jh D;clear D HO;have HO:Hid (∀(E:World) (T:TypeId) (H:Nat),E.heap.size=H->Calls prog 183 #[.slice (some ⟨H,0,none⟩) 2 2] (E.alloc (.cells #[.i F,.i I] T)).drew λe w'=>e =.returned (.i r)/\E.grownBy w' none):=λE T H S=>by rw[<-J.out];exact UB E T F I H S
 clear J;go_enter func182,ntmps182;go_wp2_with fail;have t:((W.alloc (.cells #[.i x.k,.i x.n,.i x.a,.string x.s,.slice p x.args.length q,.slice ta x.types.length tc,.slice A x.code.length B] 36)).alloc (.cells #[.i y.k,.i y.n,.i y.a,.string y.s,.slice f y.args.length g,.slice m y.types.length o,.slice j y.code.length l] 36)).heap[W.heap.size]?=some (.cells #[.i x.k,.i x.n,.i x.a,.string x.s,.slice p x.args.length q,.slice ta x.types.length tc,.slice A x.code.length B] 36 (0,0)):=CJ _ _ _;have z:((W.alloc (.cells #[.i x.k,.i x.n,.i x.a,.string x.s,.slice p x.args.length q,.slice ta x.types.length tc,.slice A x.code.length B] 36)).alloc (.cells #[.i y.k,.i y.n,.i y.a,.string y.s,.slice f y.args.length g,.slice m y.types.length o,.slice j y.code.length l] 36)).heap[W.heap.size+1]?=some (.cells #[.i y.k,.i y.n,.i y.a,.string y.s,.slice f y.args.length g,.slice m y.types.length o,.slice j y.code.length l] 36 (0,0)):=by have:=qT (W.alloc (.cells #[.i x.k,.i x.n,.i x.a,.string x.s,.slice p x.args.length q,.slice ta x.types.length tc,.slice A x.code.length B] 36)) (.cells #[.i y.k,.i y.n,.i y.a,.string y.s,.slice f y.args.length g,.slice m y.types.length o,.slice j y.code.length l] 36);rwa [show (W.alloc (.cells #[.i x.k,.i x.n,.i x.a,.string x.s,.slice p x.args.length q,.slice ta x.types.length tc,.slice A x.code.length B] 36)).heap.size=W.heap.size+1 from by simp]at this
 have C:W.grownBy ((W.alloc (.cells #[.i x.k,.i x.n,.i x.a,.string x.s,.slice p x.args.length q,.slice ta x.types.length tc,.slice A x.code.length B] 36)).alloc (.cells #[.i y.k,.i y.n,.i y.a,.string y.s,.slice f y.args.length g,.slice m y.types.length o,.slice j y.code.length l] 36)) none:=aJ (aK _) (aK _);generalize (W.alloc (.cells #[.i x.k,.i x.n,.i x.a,.string x.s,.slice p x.args.length q,.slice ta x.types.length tc,.slice A x.code.length B] 36)).alloc (.cells #[.i y.k,.i y.n,.i y.a,.string y.s,.slice f y.args.length g,.slice m y.types.length o,.slice j y.code.length l] 36)=W2 at *;have c:∀b:World,W2.grownBy b none->b.heap[W.heap.size]?=_:=λb h=>(h.block _ (qq.1 t).1 ot).trans t;have d:∀b:World,W2.grownBy b none->b.heap[W.heap.size+1]?=_:=λb h=>(h.block _ (qq.1 z).1 ot).trans z;have O:∀b:World,W2.grownBy b none->b.cell? ⟨W.heap.size,1,none⟩=some (.i x.n):=λb h=>(cO (c b h)).2.1;have Q:∀b:World,W2.grownBy b none->b.cell? ⟨W.heap.size,3,none⟩=some (.string x.s):=λb h=>(cO (c b h)).2.2.2.1;have P:∀b:World,W2.grownBy b none->b.cell? ⟨W.heap.size+1,1,none⟩=some (.i y.n):=λb h=>(cO (d b h)).2.1;have R:∀b:World,W2.grownBy b none->b.cell? ⟨W.heap.size+1,3,none⟩=some (.string y.s):=λb h=>(cO (d b h)).2.2.2.1;have G:=jh C;clear c d t z C;go_region_held3 (λw'=>W2.grownBy w' none) (first|assumption|exact fK (bM _ _)|exact aJ oS (aK _)) (first
  | (go_at_call 58;refine (M _).mono ?_;rintro e w' ⟨rfl,rfl⟩)
  | (go_at_call 184;refine (N _).mono ?_;rintro e w' ⟨rfl,rfl⟩)
  | (go_at_call 183;refine (HO _ _ _ ot).mono ?_;rintro e w' ⟨rfl,U⟩))
 all_goals
  go_wp2_with fail;go_ret;exact⟨rfl,aJ G oS⟩
