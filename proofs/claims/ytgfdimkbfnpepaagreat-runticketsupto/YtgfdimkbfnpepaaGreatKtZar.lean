import Derived.Test.YtgfdimkbfnpepaaGreatKtZap
import Derived.Lib.SliceRun
import Derived.Lib.Overlaps
import Derived.Laws.Externs
import Derived.Laws.IdiomCopy
namespace Go.Proofs.YtgfdimkbfnpepaaGreat
set_option linter.all false
open Go.Proofs.Tryz
open Go.ChangeShapes Go.WideShapes Go.ChangeAt Go.RowKit
set_option maxRecDepth 100000
set_option maxHeartbeats 4000000
section
variable {B:Nat}{w:bx}
def lQ{e:TypeId}{a n g cap:Nat} : ∀(vs:bk) (o:Nat) {w:bx}{xs:bk},w.ownsRow B e a (.o g n cap) n xs->o+vs.length<=xs.length ->
 (w.setCells g o vs).ownsRow B e a (.o g n cap) n (xs.take o++vs++xs.drop (o+vs.length))/\cm w (w.setCells g o vs) (some g)
 | [],o,w,xs,h,_=>by simp only[World.setCells,qd1,xT,qd3,qc4];exact⟨h,bM _ _⟩
 | v::r,o,w,xs,h,d=>by
  simp only[jt]at d;have b:=h.stored o v;have c:=lQ r (o+1) b.1 oB;refine⟨?_,fF b.2 c.2⟩;have e:(xs.set o v).take (o+1)++r++(xs.set o v).drop (o+1+r.length)=xs.take o++(v::r)++xs.drop (o+(v::r).length):=by rw[List.drop_set_of_lt od,List.take_set,List.set_eq_take_append_cons_drop,if_pos oB];simp[jg7,qd6,Nat.add_comm,qf1];omega
  rw[<-e];exact c.1
def zero7l:bk:=[.i 0,.i 0,.i 0,.string ⟨#[]⟩,.n0,.n0,.n0]
def Km(w:bx)(ty:TypeId)(b o c:Nat)(hc:∀j,j<7->(w.cell? ⟨b,o+j,none⟩).isSome)(f:∀j,j<7->w.frozen? ⟨b,o+j,none⟩=false) :
 (Builtin.clear_ #[28] ty #[.slice (some ⟨b,o,none⟩) 1 c]).run prog w =.ok (.tuple #[]) (w.setCells b o zero7l):=by
 have g:∀w,(zeroValue 36).run prog w =.ok (.agg #[.i 0,.i 0,.i 0,.string ⟨#[]⟩,.n0,.n0,.n0]) w:=λw=>oA
 have e:(Builtin.zeroCells (Value.cells (.agg #[.i 0,.i 0,.i 0,.string ⟨#[]⟩,.n0,.n0,.n0])) 1).toList=zero7l:=oA
 have a:=run_storeCells_cells (P:=prog) b o zero7l 0 w (by simpa[zero7l]using hc) (by simpa[zero7l]using f) (by intro v d;simp[zero7l]at d;rcases d with rfl|rfl|rfl|rfl<;>rfl);simp only[qd3]at a;simp[Builtin.clear_,qc2 underlying28,g,e,a]
def mh{e:TypeId}{size n g cap:Nat}{xs:bk}(h:w.ownsRow B e size (.o g n cap) n xs)(j:Nat)(c:j<xs.length):∃x,xs[j]?=some x/\w.cell? ⟨g,j,none⟩=some x:=by
 refine⟨xs[j],qn c,?_⟩;rcases h.2 with⟨b,_⟩|⟨p,f,d,b,q,m,o,k,l,a⟩
 .simp at b
 .simp only[kl,qk,qc7,and_true,true_and]at b;obtain⟨rfl,rfl⟩:=b;have i:xs[j]?=d.toList[j]?:=by rw[<-a,qb4];rw[if_pos];rw[<-a]at c;simp at c;omega
  rw[qn c]at i;simp[World.cell?,m,<-qg6,<-i]
def Sy (B:Nat) (w:bx) (g L cap:Nat) (us:bk) (e:Ending) (w':bx):Prop:=e =.returned (.o g L cap)/\w'.ownsRow B 36 7 (.o g L cap) L us/\cm w w' (some g)
def Js{g L cap i J:Nat}(C:J=i+1){xs ys zs:bk}(h:w.ownsRow B 36 7 (.o g (L+1) cap) (L+1) (xs++ys++zs))(R:xs.length=i*7)(S:ys.length=7)(F:zs.length=(L - i)*7)(hi:i<=L)(y:∀u∈zs,u.oneCell')(hc:L+1<=cap/\cap<=maxLen) :
 Calls prog 155 #[.o g (L+1) cap,.i (i:Int),.i (J:Int)] w (Sy B w g L cap (xs++zs)):=by
 have⟨T,m,_,q,_⟩:=ja0 mr;have r:=jh m;have s:=jh q;clear m q;have n:(xs++ys++zs).length=(L+1)*7:=oB
 have⟨A,hA,o⟩:∃A:Addr,(if cap=J then some (⟨g,0,none⟩:Addr)else some ⟨g,J*7,none⟩)=some A/\Hid (∀t u,zs[t]?=some u->w.drew.cell? (A.add t)=some u):=by
  by_cases E:cap=J
  .refine⟨⟨g,0,none⟩,by simp[E],λt u p=>?_⟩;have I:zs.length=0:=by omega
   rw[jb7.1 I]at p;simp at p
  .refine⟨⟨g,J*7,none⟩,by simp[E],λt u p=>?_⟩;have Q:=(qv.1 p).1;have⟨x,k,c⟩:=mh h (J*7+t) od;rw[ju oB]at k;have H:J*7+t - (xs++ys).length=t:=by simp;omega
   rw[H,p]at k;cases k;rw[Addr.add_lit];exact c
 have X:Hid (zs.length=(L - i)*7):=F;have Y:=jh y;have Z:Hid (∀t,t<zs.length->(w.drew.cell? ⟨g,0+i*7+t,none⟩).isSome/\w.drew.frozen? ⟨g,0+i*7+t,none⟩=false):=by intro t Q;have⟨x,k,c⟩:=mh h (0+i*7+t) od;exact⟨by show (w.cell? _).isSome;rw[c];rfl,h.frozenAt _⟩
 have D:w.drew.ownsRow B 36 7 (.o g (L+1) cap) (L+1) (xs++ys++zs):=h;have a:=lQ zs (0+i*7) D oB;have⟨b,d⟩:∃b,b=w.drew.setCells g (0+i*7) zs:=⟨_,rfl⟩;rw[<-d]at a;have O:∀v,(Builtin.clear_ #[28] v #[.slice (some ⟨g,L*7,none⟩) 1 (cap - L)]).run prog b =.ok (.tuple #[]) (b.setCells g (L*7) zero7l):=λv=>Km b v g (L*7) _ (λj P=>by have⟨x,k,c⟩:=mh a.1 (L*7+j) oB;rw[c];rfl) (λj P=>a.1.frozenAt _)
 have f:=lQ zero7l (L*7) a.1 (by simp[zero7l];omega);have l:cm w (b.setCells g (L*7) zero7l) (some g):=fF (fF (fK (bM w _)) a.2) f.2;have hcut:(b.setCells g (L*7) zero7l).ownsRow B 36 7 (.o g L cap) L (xs++zs):=by
  have z:=f.1;have e:(xs++ys++zs).take (0+i*7)=xs:=by rw[ur];exact List.take_left' od
  have c:((xs++zs++(xs++ys++zs).drop (0+i*7+zs.length))).take (L*7)=xs++zs:=List.take_left' oB;rw[e,c,ur]at z;exact uF z oB
 have G:Hid (Sy B w g L cap (xs++zs) (.returned (.o g L cap)) (b.setCells g (L*7) zero7l)):=⟨rfl,hcut,l⟩;have K:Hid (b=w.drew.setCells g (0+i*7) zs):=d;clear hcut a f D l h d;have q1:(i:Int)<=(J:Int):=od
 have q2:(J:Int)<=(L:Int)+1:=od
 have q3:((i:Int)==(J:Int))=false:=vy
 have q4:(i:Int)<=cap:=od
 have q5:(L:Int)+1<=cap:=od
 have q6:(J:Int)<=cap:=od
 have q7:L+1 - J=L - i:=od
 have q8:i+(L - i)=L:=od
 have q9:¬cap=L:=od
 have U:L+1 - L=1:=od
 have V:(L:Int)<=(L:Int)+1:=od
 have W:(L:Int)<=cap:=od
 have HJ:=jh C;have HI:=jh hi;have⟨M,N⟩:=hc;clear C hi F R S y n;go_enter func155,ntmps155;go_wp2_with fail;go_region_law (refine step_append_room rfl (.tmp 22) (.tmp 25) 28 rfl 36 T 7 underlying28 r s g 0 i cap vh A (L - i) (cap - J) zs vh X o Y (by have:=HI.out;omega) Z ?_;rw[<-K.out])
 go_wp2
 go_ret;exact G
def Rb{e:TypeId}{size L g cap:Nat}{xs:bk}(h:w.ownsRow B e size (.o g L cap) L xs)(hc:L+1<=cap):∃ys,ys.length=size/\w.ownsRow B e size (.o g (L+1) cap) (L+1) (xs++ys):=by
 have n:=h.1;rcases h.2 with⟨c,_⟩|⟨o,i,b,c,k,l,m,d,f,a⟩
 .simp at c
 .simp only[kl,qk,qc7,and_true,true_and]at c;obtain⟨rfl,rfl⟩:=c;have p:(L+1)*size<=cap*size:=qh1 _ hc;have j:(L+1)*size=L*size+size:=by rw[ja1,Nat.one_mul]
  refine⟨(b.toList.drop (L*size)).take size,oB,by simp[n];omega,.inr ⟨g,cap,b,rfl,k,l,hc,d,f,?_⟩⟩;rw[<-a,j,List.take_add]
def Kv{b:Array Oper}{o:Oper}{a:Act}{w:bx}{K:Act->bx->Prop}{Q:Exit->Act->bx->Prop}{E:Prop}
 (hg:o.guard=none) (d x:Operand) (dT sT:TypeId) (hop:o.op=Op.call { callee:=Callee.builtin Builtin.copy,args:=#[d,x],argTypes:=#[dT,sT] })
 (v u:cg) (hd:a.eval d=v) (hx:a.eval x=u) {v':cg} {w':bx} (hr:(Builtin.copy_ #[dT,sT] o.type #[v,u]).run prog w =.ok v' w') (hK:K (a.put o.dst v') w') :
 if Region.wanted o (yielded b a.tmps)then Oper.wp prog o a w K Q else E:=by
 have c:Region.wanted o (yielded b a.tmps):=by simp[Region.wanted,hg]
 rw[if_pos c];unfold Oper.wp;simp[execOp,hop,resolve,invoke,builtin,hd,hx,hr,Result.andThen];exact hK
def JO{c:Array Oper}{b:List Oper}{o:Oper}{a:Act}{w:bx}{Q:Exit->Act->bx->Prop}(e:o.guard=none)(d s:Operand)(t f:TypeId)
 (ho:o.op =.call { callee:=.builtin .copy,args:=#[d,s],argTypes:=#[t,f] }) (v u:cg) (hd:a.eval d=v) (hs:a.eval s=u) {v':cg} {w':bx}
 (hr:(Builtin.copy_ #[t,f] o.type #[v,u]).run prog w =.ok v' w') (h:wpList prog c Q b (a.put o.dst v') w'):wpList prog c Q (o::b) a w :=
 wpList_plain e λ_ g=>by unfold Oper.wp execOp;simp only[ho,resolve,invoke,builtin,qa7,jd6,Result.andThen_ok,List.map_toArray,qc3,jb3,hd,hs,hr];exact g _ _ h
def Ee(w:bx)(ty:TypeId)(b o c e:Nat)(a:Addr)(d g:Nat)(cs:bk)(hn:cs.length=Nat.min d c*7)
 (hsrc:∀j v,cs[j]?=some v->w.cell? (a.add j)=some v) (hc:∀j,j<cs.length->(w.cell? ⟨b,o+j,none⟩).isSome) (hf:∀j,j<cs.length->w.frozen? ⟨b,o+j,none⟩=false) (h1:∀v∈cs,v.oneCell') :
 (Builtin.copy_ #[28,28] ty #[.slice (some ⟨b,o,none⟩) c e,.slice (some a) d g]).run prog w =.ok (goInt (Nat.min d c)) (w.setCells b o cs):=by
 have⟨l,h,_,i,_⟩:=ja0 mr;have k:=run_loadCells_list (P:=prog) w a cs hsrc;have f:=run_storeCells_cells (P:=prog) b o cs 0 w (by simpa using hc) (by simpa using hf) h1;simp only[qd3]at f;simp[Builtin.copy_,qc2 underlying28,Builtin.lenOf,Builtin.firstCells,sizeOf,typeInfo,h,i,<-hn,k,f]
def vL{a b:Nat}(h:b=a+1)(hb:b<=maxLen):wrap64 ((a:Int)+1)=(b:Int)/\IntKind.i64.wrap ((a:Int)+1)=(b:Int):=by unfold maxLen at hb;rw[qb1];unfold wrap64;omega
def JG{g L cap i J N v:Nat}{xs zs vs:bk}(K:J=i+1)(hN:N=L+1)(h:w.ownsRow B 36 7 (.o g L cap) L (xs++zs))(W:xs.length=i*7)(hz:zs.length=(L - i)*7)(hi:i<L)(U:∀u∈zs,u.oneCell')(hc:L+1<=cap/\cap<=maxLen)
 (hv:w.heap[v]?=some (.cells vs.toArray 36)) (hvs:vs.length=7) (t:∀u∈vs,u.oneCell') (hne:v≠g) :
 Calls prog 156 #[.o g L cap,.i (i:Int),.o v 1 1] w (Sy B w g (L+1) cap (xs++vs++zs)):=by
 have⟨i0,C,_,E,_⟩:=ja0 mr;have⟨r,P,H⟩:=Rb h hc.1;have⟨b,A,o⟩:∃b:Array cg,w.heap[g]?=some (.cells b 36)/\b.size≠0:=by
  rcases h.2 with⟨G,_⟩|⟨g',S,b,G,hb,hg,ae,ad,o,O⟩
  .simp at G
  .simp only[kl,qk,qc7,and_true,true_and]at G;obtain⟨rfl,rfl⟩:=G;exact⟨b,hg,od⟩
 have M:∀Q I,(callFunc 193 #[.o v 1 1,.slice (some ⟨g,J*7,none⟩) Q I]).run prog w =.ok (.value (.bool false)) w:=λQ I=>by
  rw[run_callFunc_extern func193 oA oA oA (e:=Extern.SlicesOverlaps.overlaps #[28,28] #[4]) oA,
   Lib.run_overlaps_apart w 28 4 36 underlying28 7 (λw=>by simp[sizeOf,typeInfo,C,E]) ⟨v,0,none⟩ ⟨g,J*7,none⟩ 1 1 Q I hne 36 36 vs.length b.size (by simp[World.shape?,hv]) (by simp[World.shape?,A]) o (by simp[World.frozen?,hv]) (by simp[World.frozen?,hv])]
  rfl
 have V:w.drew.ownsRow B 36 7 (.o g (L+1) cap) (L+1) (xs++zs++r):=H;have f:∀q l R,(Builtin.copy_ #[28,28] q #[.slice (some ⟨g,J*7,none⟩) (N - J) l,.slice (some ⟨g,i*7,none⟩) (N - i) R]).run prog w.drew =.ok (goInt (Nat.min (N - i) (N - J))) (w.drew.setCells g (J*7) zs):=λq l R =>
  Ee w.drew q g (J*7) (N - J) l ⟨g,i*7,none⟩ (N - i) R zs (by rw[hz];simp only[Nat.min_def];split<;>omega) (λj u k=>by
   have ht:=(qv.1 k).1;have⟨x,s,m⟩:=mh h (i*7+j) oB;rw[ju od,show i*7+j - xs.length=j by omega,k]at s;cases s;rw[Addr.add_lit];exact m) (λj k=>by
   have⟨x,s,m⟩:=mh H (J*7+j) oB;show (w.cell? _).isSome;rw[m];rfl) (λj k=>H.frozenAt _) U
 have a:=lQ zs (J*7) V oB;have⟨d,n⟩:∃d,d=w.drew.setCells g (J*7) zs:=⟨_,rfl⟩;rw[<-n]at a f;have D:d.heap[v]?=some (.cells vs.toArray 36):=(a.2.block v (qq.1 hv).1 (by simpa using hne)).trans hv;have y:∀q l,(Builtin.copy_ #[28,28] q #[.slice (some ⟨g,i*7,none⟩) (N - i) l,.o v 1 1]).run prog d =.ok (goInt (Nat.min 1 (N - i))) (d.setCells g (i*7) vs):=λq l =>
  Ee d q g (i*7) (N - i) l ⟨v,0,none⟩ 1 1 vs (by rw[hvs];simp only[Nat.min_def];split<;>omega) (λj u k=>by
   rw[Addr.add_lit];simp[World.cell?,D,k]) (λj k=>by
   have⟨x,s,m⟩:=mh a.1 (i*7+j) oB;rw[m];rfl) (λj k=>a.1.frozenAt _) t
 have p:=lQ vs (i*7) a.1 oB;have z:cm w (d.setCells g (i*7) vs) (some g):=fF (fF (fK (bM w _)) a.2) p.2;have hcut:(d.setCells g (i*7) vs).ownsRow B 36 7 (.o g (L+1) cap) (L+1) (xs++vs++zs):=by
  have t:=p.1;have T:(xs++zs++r).drop (J*7+zs.length)=[]:=qf1 oB;have s:((xs++zs++r).take (J*7)).length=J*7:=oB
  have m:((xs++zs++r).take (J*7)++zs++(xs++zs++r).drop (J*7+zs.length)).take (i*7)=xs:=by rw[T,qd1,jc6 od,jg7,jd1 od,ur];exact List.take_left' W
  have Z:((xs++zs++r).take (J*7)++zs++(xs++zs++r).drop (J*7+zs.length)).drop (i*7+vs.length)=zs:=by rw[T,qd1];exact List.drop_left' od
  rw[m,Z]at t;exact t
 have X:Hid (Sy B w g (L+1) cap (xs++vs++zs) (.returned (.o g N cap)) (d.setCells g (i*7) vs)):=⟨by rw[hN],hcut,z⟩;have q1:(J:Int)<=(N:Int):=od
 have q2:¬((i:Int)=(L:Int)):=od
 have q3:((i:Int)==(L:Int))=false:=by rw[qa5];exact q2
 have q4:(i:Int)<=cap:=od
 have F:N<=cap:=od
 have c:J<=cap:=od
 have q8:(N:Int)<=cap:=od
 have q9:¬cap=J:=od
 have ah:¬cap=i:=od
 have ai:(i:Int)<=(N:Int):=od
 have aj:(i:Int)<=(L:Int):=od
 have aq:(L:Int)<=cap:=od
 have ar:¬(cap:Int)<(N:Int):=od
 have au:(J:Int)<=cap:=od
 have q5:=(vL hN (km F hc.2)).1;have q6:=(vL K (km c hc.2)).1;have q7:=(vL K (km c hc.2)).2;clear F c;have Y:=jh n;have⟨aa,ab⟩:=hc;clear K hN hcut a p V z h n D hv A o H hi C E W hz hvs P U t;go_enter func156,ntmps156;go_wp2_with (simp only[M]);go_region_law (refine Kv rfl _ _ 28 28 rfl _ _ vh vh (f _ _ _) ?_);go_wp2_with (at_builtin;refine JO rfl _ _ 28 28 rfl _ _ rfl rfl (y _ _) ?_);go_ret;exact X
end
set_option maxHeartbeats 400000
def VP (w:bx) (k n a:Int) (s:bo) (aa:bj) (al ac:Nat) (e:Ending) (w':bx):Prop:=e =.returned (bg k n a s aa al ac none 0 0 none 0 0)/\cm w w' none
def B7 (w':bx) (R:Nat) (k n a:Int) (s:bo) (aa:bj) (al ac:Nat) (ta:bj) (tl tc:Nat) (na:bj) (nl nc:Nat):Prop :=
 w'.cell? ⟨R,0,none⟩=some (.i k)/\w'.cell? ⟨R,1,none⟩=some (.i n)/\w'.cell? ⟨R,2,none⟩=some (.i a)/\w'.cell? ⟨R,3,none⟩=some (.string s)/\w'.cell? ⟨R,4,none⟩=some (.slice aa al ac)/\w'.cell? ⟨R,5,none⟩=some (.slice ta tl tc)/\w'.cell? ⟨R,6,none⟩=some (.slice na nl nc)
def Yt{P:Program}{d:Func}{A:Act}{w W:bx}{R:Nat}{T:TypeId}{k n a:Int}{s:bo}{c:bj}{al ac:Nat}(b:∀w',B7 w' R k n a s c al ac none 0 0 none 0 0->(results d A.tmps).run P w' =.ok (bg k n a s c al ac none 0 0 none 0 0) w')
 (hd:A.defers=[]) (hR:W.heap.size=R) (hg:cm w W none):bodyPost P d (VP w k n a s c al ac) .ret A (W.alloc (.cells #[.i k,.i n,.i a,.string s,.slice c al ac,.n0,.n0] T)) :=
 yb (b _ (cO (by rw[<-hR];exact jj W _))) hd ⟨rfl,aJ hg (aK _)⟩
def G6(k:Int)(a:bj)(l c:Nat)(w:bx):Calls prog 160 #[.i k,.slice a l c] w (VP w k 0 0 ⟨#[]⟩ a l c):=by go_enter func160,ntmps160;go_wp2_with fail;exact Yt (λw' h=>by simp only[B7]at h;simp[results,results160,go_sem,h,bg]) rfl rfl (bM _ _)
def r9(k n:Int)(w:bx):Calls prog 161 #[.i k,.i n] w (VP w k n 0 ⟨#[]⟩ none 0 0):=by go_enter func161,ntmps161;go_wp2_with fail;exact Yt (λw' h=>by simp only[B7]at h;simp[results,results161,go_sem,h,bg]) rfl rfl (bM _ _)
def JW{k n a:Int}{s:bo}{b:bj}{al ac:Nat}{ta:bj}{tl tc:Nat}{na:bj}{c nc:Nat}(w:bx):Calls prog 117 #[.agg #[.i k,.i n,.i a,.string s,.slice b al ac,.slice ta tl tc,.slice na c nc]] w λe w'=>e =.returned (.bool (decide (n=1)))/\cm w w' none:=by
 by_cases h:n=1
 .subst h;go_enter func117,ntmps117;go_wp2;go_ret;exact⟨rfl,aK _⟩
 .have d:(n==1)=false:=by simpa using h
  go_enter func117,ntmps117;go_wp2;go_ret;exact Lf.kZ (by simp[h]) (aK _)
def VQ (w:bx) (k n a:Int) (cs:Array cg) (l:Nat) (e:Ending) (w':bx):Prop:=∃g,w.heap.size<=g/\e =.returned (bg k n a ⟨#[]⟩ (some ⟨g,0,none⟩) l l none 0 0 none 0 0)/\cm w w' none/\w'.heap[g]?=some (.cells cs 36)
def QV(w:bx):Calls prog 157 #[] w (VP w 9 0 0 ⟨#[]⟩ none 0 0):=by have HM:=jh (λw'=>G6 9 none 0 0 w');have d:=jh (jj w (.cells #[.i 0,.i 0,.i 0,.string ⟨#[]⟩,.n0,.n0,.n0] 36));go_enter func157,ntmps157;go_wp2_with (go_at_call 160;(with_reducible refine (HM.out _).mono ?_);rintro e w1 ⟨rfl,a⟩;have b:=jh (l5 d.out a);have c:=jh (aJ (aK _) a);have z:=cO b.out;have f:=qD b.out;clear a;unfold bg);go_wp2_with fail;refine Xe (λw' h=>by simp[results,results157,go_sem,h,bg]) rfl b.out λw' a=>⟨rfl,aG c.out a (qS _)⟩
def RN{k n a:Int}{s:bo}{d:bj}{al ac:Nat}{ta:bj}{tl tc:Nat}{na:bj}{f nc:Nat}(w:bx):Calls prog 159 #[.agg #[.i k,.i n,.i a,.string s,.slice d al ac,.slice ta tl tc,.slice na f nc]] w (VQ w 9 0 0 #[.i k,.i n,.i a,.string s,.slice d al ac,.slice ta tl tc,.slice na f nc] 1):=by have HM:=jh (λa l c w'=>G6 9 a l c w');have j:=jj (w.alloc (.cells #[.i k,.i n,.i a,.string s,.slice d al ac,.slice ta tl tc,.slice na f nc] 36)) (.cells #[.i 0,.i 0,.i 0,.string ⟨#[]⟩,.n0,.n0,.n0] 36);have g:=jj ((w.alloc (.cells #[.i k,.i n,.i a,.string s,.slice d al ac,.slice ta tl tc,.slice na f nc] 36)).alloc (.cells #[.i 0,.i 0,.i 0,.string ⟨#[]⟩,.n0,.n0,.n0] 36)) (.cells #[.i k,.i n,.i a,.string s,.slice d al ac,.slice ta tl tc,.slice na f nc] 36);simp only[yv]at j g;replace j:=jh (aB (o:=.cells #[.i k,.i n,.i a,.string s,.slice d al ac,.slice ta tl tc,.slice na f nc] 36) j);replace g:=jh g;go_enter func159,ntmps159;go_wp2_with (go_at_call 160;(with_reducible refine (HM.out _ _ _ _).mono ?_);rintro e w1 ⟨rfl,b⟩;have m:=jh (l5 j.out b);have p:=jh (l5 g.out b);have q:=jh (aJ (aJ (aJ (aK _) (aK _)) (aK _)) b);have z:=cO m.out;have r:=qD m.out;clear b;unfold bg);go_wp2_with fail;refine Xe (λw' h=>by simp[results,results159,go_sem,h,bg]) rfl m.out λw' b=>⟨_,od,rfl,aG q.out b od,kb p.out b ot⟩
def KG{k n a:Int}{s:bo}{b:bj}{al ac:Nat}{ta:bj}{tl tc:Nat}{na:bj}{c nc:Nat}(q t:Int)(w:bx):Calls prog 207 #[.i q,.i t,.agg #[.i k,.i n,.i a,.string s,.slice b al ac,.slice ta tl tc,.slice na c nc]] w (VQ w 15 t q #[.i k,.i n,.i a,.string s,.slice b al ac,.slice ta tl tc,.slice na c nc] 1):=by have e:=jj (w.alloc (.cells #[.i k,.i n,.i a,.string s,.slice b al ac,.slice ta tl tc,.slice na c nc] 36)) (.cells #[.i 15,.i t,.i q,.string ⟨#[]⟩,.o (w.heap.size+1+1) 1 1,.n0,.n0] 36);have d:=jj ((w.alloc (.cells #[.i k,.i n,.i a,.string s,.slice b al ac,.slice ta tl tc,.slice na c nc] 36)).alloc (.cells #[.i 15,.i t,.i q,.string ⟨#[]⟩,.o (w.heap.size+1+1) 1 1,.n0,.n0] 36)) (.cells #[.i k,.i n,.i a,.string s,.slice b al ac,.slice ta tl tc,.slice na c nc] 36);simp only[yv]at e d;replace e:=jh (cO (aB (o:=.cells #[.i k,.i n,.i a,.string s,.slice b al ac,.slice ta tl tc,.slice na c nc] 36) e));replace d:=jh d;go_enter func207,ntmps207;go_wp2_with fail;have h:=e.out;exact yb (v:=bg 15 t q ⟨#[]⟩ (some ⟨w.heap.size+1+1,0,none⟩) 1 1 none 0 0 none 0 0) (by simp[results,results207,go_sem,h,bg]) rfl ⟨_,od,rfl,aJ (aJ (aK _) (aK _)) (aK _),d⟩
def GY{ok:br}{w:bx}{x:Va}{g:Nat}{K N A:Int}{k n a:Int}{s:bo}{b:bj}{al ac:Nat}{ta:bj}{tl tc:Nat}{na:bj}{d nc:Nat}(hb:w.heap[g]?=some (.cells #[.i k,.i n,.i a,.string s,.slice b al ac,.slice ta tl tc,.slice na d nc] 36))(e:ok g)(h:aA ok w x (bg k n a s b al ac ta tl tc na d nc))(f:bD K)(j:bD N)(iA:bD A) :
 aA ok w (.mk K N A ⟨#[]⟩ [x] [] []) (bg K N A ⟨#[]⟩ (some ⟨g,0,none⟩) 1 1 none 0 0 none 0 0):=by
 have⟨l,m,o,p,q,r,t⟩:=cO hb;refine aA.of (args:=[x]) (types:=[]) (code:=[]) (V:=λ_=>bg k n a s b al ac ta tl tc na d nc) (VT:=λ_=>.i 0) (VN:=λ_=>.i 0) ot (zE _) f j iA ⟨ZS,λi c=>?_,λi c=>?_⟩ (dw.nil _ _ _ _) (cK.nil _ _ _ _)
 .obtain rfl:i=0:=by simpa using c
  exact⟨g,0,rfl,e,_,_,_,_,_,_,_,_,_,_,_,_,_,rfl,l,m,o,p,q,r,t⟩
 .obtain rfl:i=0:=by simpa using c
  exact h
def qK{ok:br}{w:bx}{x:Va}{k n a:Int}{s:bo}{b:bj}{al ac:Nat}{ta:bj}{tl tc:Nat}{na:bj}{i nc:Nat}(h:aA ok w x (bg k n a s b al ac ta tl tc na i nc)):k=x.k/\n=x.n/\a=x.a/\s=x.s:=by have⟨c,d,j,l,f,g,V,o,m,e,_,p,_⟩:=h.inv;unfold bg at e;simp only[qd7,qf0,xo,Value.string.injEq,jd0,true_and,and_true]at e;exact⟨e.1,e.2.1,e.2.2.1,e.2.2.2.1⟩
def QF{ok:br}{w:bx}{x:Va}{v:cg}(h:aA ok w x v):bD x.n:=by have⟨a,b,g,i,d,f,V,k,j,e,c,l,_⟩:=h.inv;exact c.2.1
set_option maxHeartbeats 8000000
section
variable {B:Nat}{O O':br}{w w':bx}{mb:Nat}{en:En}{aC:Int}{m:Ma}{k n a:Int}{s:bo}{aa:bj}{al ac:Nat}{ta:bj}{tl tc:Nat}{na:bj}{nl nc:Nat}{sv fv:cg}{us fs:bk}
def C4 (w:bx) (g o:Nat) (x0 x1 x2 x3:cg):Prop:=w.cell? ⟨g,o,none⟩=some x0/\w.cell? ⟨g,o+1,none⟩=some x1/\w.cell? ⟨g,o+2,none⟩=some x2/\w.cell? ⟨g,o+3,none⟩=some x3
def C4.keep{w w':bx}{r:Option Nat}{g o:Nat}{x0 c d e:cg}(h:C4 w g o x0 c d e)(a:cm w w' r)(b:some g≠r):C4 w' g o x0 c d e:=⟨kc h.1 a b,kc h.2.1 a b,kc h.2.2.1 a b,kc h.2.2.2 a b⟩
def bU.Sb{f:Fr}{r:List Fr}(h:bU B O w mb en aC m k n a s aa al ac ta tl tc na nl nc sv fv us fs)(x:m.fr=f::r):∃g cap b ra rc wa wc ba bc,fv =.o g (r.length+1) cap/\(r.length+1<=cap/\cap<=maxLen)/\fs=b++[yF ra f.rest.length rc f.op wa f.row.length wc ba f.aside.length bc]/\b.length=r.length/\(flat b).length=r.length*4 /\
 C4 w g (r.length*4) (.slice ra f.rest.length rc) (.i f.op) (.slice wa f.row.length wc) (.slice ba f.aside.length bc)/\(∀o,w.frozen? ⟨g,o,none⟩=false)/\wU B O w f (yF ra f.rest.length rc f.op wa f.row.length wc ba f.aside.length bc)/\jc B O w r.reverse b:=by
 have q:=h.sZ;rw[x,qb6]at q;have t:=q.form.2;simp only[qT,qa0,qa1]at t;obtain⟨b,u,rfl,c⟩:=DT t;have l:=q.split;have z:=l.2;obtain⟨ra,rc,wa,wc,ba,bc,C,D,rfl,_⟩:=l.2;have e:=(wE l.1.form.1).1;have d:=h.own;unfold kU at d;rw[bV,qT,qa1,c]at d;obtain⟨g,cap,rfl,_⟩:=BO d (by rintro rfl;have:=d.2;simp at this);have v:=QX d;have p:∀j y,(nodeCells (yF ra f.rest.length rc f.op wa f.row.length wc ba f.aside.length bc))[j]?=some y->w.cell? ⟨g,r.length*4+j,none⟩=some y:=λj y A=>iJ d (by rw[e,c]) j y (by simpa[flat]using A);exact⟨g,cap,b,ra,rc,wa,wc,ba,bc,rfl,v,rfl,c,by rw[e,c],⟨p 0 _ rfl,p 1 _ rfl,p 2 _ rfl,p 3 _ rfl⟩,λo=>jd4 d o,z,l.1⟩
def bU.Wn{f f':Fr}{r:List Fr}{u z:cg}{g c cap:Nat}(h:bU B O w mb en aC m k n a s aa al ac ta tl tc na nl nc sv (.o g c cap) us (fs++[u]))(o:m.fr=f::r)(H:cm w w' (some g))(i:kU B w' (.o g c cap) (fs++[z]))(K:wU B O w f' z)(hk:lM f' z=lM f u) :
 bU B O w' mb en aC { m with fr:=f'::r } k n a s aa al ac ta tl tc na nl nc sv (.o g c cap) us (fs++[z]):=by
 have y:dB O w O w':=dB.ofRow H (λq e=>h.mine.2 q e);have A:=h.apart;have l:∀q,O q->(Value.o g c cap).ownBlock≠some q->w'.heap[q]?=w.heap[q]?:=λq x E=>H.block q (h.high q x) (λe=>E e.symm);have F:=h.sZ;rw[o,qb6]at F;have J:=F.form.2;simp only[qT,qa0,qa1]at J;have p:fs.length=r.reverse.length:=oB
 have D:keptBs m.fr.reverse (fs++[u])=keptBs r.reverse fs++lM f u:=by rw[o,qb6,kV p]
 have C:=A.2.1;have j:=h.sZ.mine;have t:=h.nodup;rw[D]at C j t;refine⟨(l mb h.mine.1 A.2.2).trans h.blk,y.lies h.said,h.jL.kept y λq e=>⟨h.jL.mine q e,l q (h.jL.mine q e) (A.1 q e).2⟩,i,?_,?_,h.mine,h.low,λb x=>?_,h.num⟩
 .simp only[qb6];refine jc.snoc (K.kept y λq d=>?_) (F.split.1.kept y λq d=>?_)
  .rw[hk]at d;have d:=jh6 (keptBs r.reverse fs) d;exact⟨(j q d).1,l q (j q d).1 (C q d).2.1⟩
  .have d:=jb6 (lM f u) d;exact⟨(j q d).1,l q (j q d).1 (C q d).2.1⟩
 .simp only[qb6];rw[kV p,hk];exact t
 .by_cases e:(Value.o g c cap).ownBlock=some b
  .cases e;rcases i.2 with⟨v,_⟩|⟨L,G,I,v,_,d,_⟩
   .simp at v
   .simp only[kl,qk,qc7,and_true,true_and]at v;obtain⟨rfl,_⟩:=v;exact⟨_,_,d⟩
  .rw[l b x e];exact h.cells b x
def bU.YF{f:Fr}{r:List Fr}{u:cg}{st:an}{sv' c:cg}{us':bk}(h:bU B O w mb en aC m k n a s aa al ac ta tl tc na nl nc sv fv us (fs++[u]))(j:m.fr=f::r)(i:dB O w O' w')(d:w'.heap[mb]?=some (.cells (yG en aC m.paid m.aO k n a s aa al ac ta tl tc na nl nc sv' c) 65))
 (hstk:sU B O' w' st.reverse sv' us') (hown:kU B w' c fs) (hnd:(sv'.ownBlock.toList++keptBs r.reverse fs).Nodup) (hO:O' mb/\∀g,c.ownBlock=some g->O' g) (hk:∀g∈keptBs r.reverse fs,O' g/\w'.heap[g]?=w.heap[g]?) (hcells:∀b,O' b->∃cs e,w'.heap[b]?=some (.cells cs e)) :
 bU B O' w' mb en aC { m with st:=st,fr:=r } k n a s aa al ac ta tl tc na nl nc sv' c us' fs:=by
 have o:=h.sZ;rw[j,qb6]at o;refine⟨d,i.lies h.said,hstk,hown,o.split.1.kept i hk,hnd,hO,λb p=>?_,hcells,h.num⟩;rcases i.new b p with l|l
 .exact h.low b l
 .have:=h.low _ h.mine.1;have:=h.high _ h.mine.1;omega
def Yd (w:bx) (g L:Nat) (e:Ending) (w':bx):Prop:=e =.returned (.pointer (some ⟨g,L*4,none⟩))/\cm w w' none
def uw{g L cap:Nat}(h:bU B O w mb en aC m k n a s aa al ac ta tl tc na nl nc sv (.o g (L+1) cap) us fs)(hc:L+1<=cap/\cap<=maxLen):Calls prog 79 #[.po mb] w (Yd w g L):=by
 have HM:=jh h;have K:=λ(w':bx) (h:cm w w' none)=>iM (l5 HM.blk h);have b:cm w w none:=bM _ _;have c:=jh (fK b);have i:IntKind.i64.wrap (L:Int)=L:=by unfold maxLen at hc;rw[qb1];omega
 have d:(0:Int)<=(L:Int):=od
 have e:(L:Int)<(L:Int)+1:=od
 have f:L<L+1:=od
 clear h hc;go_enter func79,ntmps79;go_wp2_with fail;go_region_held3 (λw'=>cm w w' none) (first|with_reducible assumption|with_reducible exact fK oS) (fail);go_wp2;go_ret;exact⟨rfl,c.out⟩
def bU.Jj{g L cap:Nat}{ra:bj}{rl rc:Nat}{op:Int}{wa:bj}{wl wc:Nat}{ba:bj}{bl bc:Nat}(h:bU B O w mb en aC m k n a s aa al ac ta tl tc na nl nc sv (.o g (L+1) cap) us (fs++[yF ra rl rc op wa wl wc ba bl bc]))(e:fs.length=L)(d:(flat fs).length=L*4) :
 C4 w g (L*4) (.slice ra rl rc) (.i op) (.slice wa wl wc) (.slice ba bl bc)/\∀o,w.frozen? ⟨g,o,none⟩=false:=by
 have c:=h.own;unfold kU at c;rw[bV,qT,qa1,e]at c;have b:∀j y,(nodeCells (yF ra rl rc op wa wl wc ba bl bc))[j]?=some y->w.cell? ⟨g,L*4+j,none⟩=some y:=λj y f=>iJ c d j y (by simpa[flat]using f);exact⟨⟨b 0 _ rfl,b 1 _ rfl,b 2 _ rfl,b 3 _ rfl⟩,λo=>jd4 c o⟩
def JV{α:Type}{a b c:List α}(h:(a++(b++c)).Nodup):(a++b).Nodup:=by rw[<-ur]at h;exact (qc6.1 h).1
def bU.YE{f:Fr}{r:List Fr}{u:cg}{g cap:Nat}(h:bU B O w mb en aC m k n a s aa al ac ta tl tc na nl nc sv (.o g (r.length+1) cap) us (fs++[u]))(j:m.fr=f::r) :
 ∀w',w'=w.drew.setCell ⟨mb,15,none⟩ (.o g r.length cap)->dB O w O w'/\dm B O w' mb en aC { m with fr:=r }:=by
 rintro w' rfl;have D:=h.sZ;rw[j,qb6]at D;have H:=D.form.2;simp only[qT,qa0,qa1]at H;have c:fs.length=r.length:=od
 have G:=h.grow (fK (bM w none));have i:w.drew.grownBy (w.drew.setCell ⟨mb,15,none⟩ (.o g r.length cap)) (some mb):=dY (bM _ _) _ _ _;have y:dB O w O (w.drew.setCell ⟨mb,15,none⟩ (.o g r.length cap)):=(dB.grow (fK (bM w none))).trans (dB.ofRow i (λq e=>by cases e;exact h.mine.1));have v:=h.apart;have t:∀q,O q->q≠mb->(w.drew.setCell ⟨mb,15,none⟩ (.o g r.length cap)).heap[q]?=w.heap[q]?:=λq p A=>i.block q (h.high q p) (by simpa using A);have z:keptBs m.fr.reverse (fs++[u])=keptBs r.reverse fs++lM f u:=by rw[j,qb6,kV (by simpa using c)]
 have E:=v.2.1;have x:=h.sZ.mine;have l:=h.nodup;rw[z]at E x l;have d:=(nG G.blk (.o g r.length cap)).2.1;have C:=h.own;unfold kU at C;rw[bV,qT,qa1,c]at C;refine⟨y,_,_,_,_,_,_,_,_,_,_,_,_,_,_,_,_,_,h.YF j y d (h.jL.kept y λq e=>⟨h.jL.mine q e,t q (h.jL.mine q e) (v.1 q e).1⟩) ?_ (JV l) ⟨h.mine.1,λq e=>h.mine.2 q e⟩ (λq o=>?_) (λb p=>?_)⟩
 .unfold kU;rw[c];exact iT (uF C (by rw[(wE D.split.1.form.1).1,c])) λq e=>t q (h.mine.2 q e) (λF=>v.2.2 (by rw[<-F];exact e))
 .have o:=jb6 (lM f u) o;exact⟨(x q o).1,t q (x q o).1 (E q o).1⟩
 .by_cases e:b=mb
  .subst e;exact⟨_,_,d⟩
  .rw[t b p e];exact h.cells b p
def Aw{c:br}{w0:bx}{f:Fr}{r:List Fr}{u:cg}{g cap:Nat}(hF:dB c w0 O w)(h:bU B O w mb en aC m k n a s aa al ac ta tl tc na nl nc sv (.o g (r.length+1) cap) us (fs++[u]))(b:m.fr=f::r) :
 ∀w',w'=w.drew.setCell ⟨mb,15,none⟩ (.o g r.length cap)->jK B c w0 mb en aC (.go { m with fr:=r }) (.returned (.i 0)) w':=λw' e=>⟨_,hF.trans (h.YE b w' e).1,rfl,(h.YE b w' e).2⟩
def wU.open{f:Fr}{ra:bj}{rl rc:Nat}{op:Int}{wa:bj}{wl wc:Nat}{ba:bj}{bl bc:Nat}(h:wU B O w f (yF ra rl rc op wa wl wc ba bl bc)):bD f.op/\(f.rest.length<=rc/\f.row.length<=wc/\f.aside.length<=bc)/\(∃a,cK (λb=>¬O b) w f.rest ra a)/\(∃VW,cK (λb=>¬O b) w f.row wa VW) /\
 (f.op=67->∃us,sU B O w f.aside (.slice ba f.aside.length bc) us)/\(f.op≠67->∃VA,aT (λb=>¬O b) w f.aside ba VA):=by
 have⟨n,o,p,q,c,d,a,VW,e,g,i,j,k,l,m⟩:=h;unfold yF at e;simp only[qd7,qf0,xo,kl,jd0,true_and,and_true]at e;obtain⟨⟨rfl,rfl,rfl⟩,rfl,⟨rfl,rfl,rfl⟩,rfl,rfl,rfl⟩:=e;exact⟨g,i,⟨a,j⟩,⟨VW,k⟩,l,m⟩
def sU.src{l:an}{v:cg}(h:sU B O w l v us):Src O w l v:=⟨us,Fe h.own,h.len,h.lies⟩
def Ql{f:Fr}{r:List Fr}{ra:bj}{rl rc:Nat}{wa:bj}{wl wc:Nat}{ba:bj}{bc g cap:Nat}{N o:bx}{v':cg}{us':bk}
 (h:bU B O w mb en aC m k n a s aa al ac ta tl tc na nl nc sv (.o g (r.length+1) cap) us (fs++[yF ra rl rc 67 wa wl wc ba f.aside.length bc])) (hfr:m.fr=f::r) (hop:f.op=67) (hg1:cm w N none)
 (hS:sU B (qx O (.slice ba f.aside.length bc) v') o (f.aside++m.st.reverse) v' us') (hG:Gr (N.setCell ⟨mb,14,none⟩ (.slice ba f.aside.length bc)) (.slice ba f.aside.length bc) o v') (hF:dB O (N.setCell ⟨mb,14,none⟩ (.slice ba f.aside.length bc)) (qx O (.slice ba f.aside.length bc) v') o) :
 (∀w',w'=(o.setCell ⟨mb,14,none⟩ v').drew.setCell ⟨mb,15,none⟩ (.o g r.length cap)->jK B O w mb en aC (.go { m with st:=m.st++f.aside.reverse,fr:=r }) (.returned (.i 0)) w')/\(o.setCell ⟨mb,14,none⟩ v').drew.heap[mb]?=some (.cells (yG en aC m.paid m.aO k n a s aa al ac ta tl tc na nl nc v' (.o g (r.length+1) cap)) 65):=by
 have V:=h.sZ;rw[hfr,qb6]at V;have hl:=V.form.2;simp only[qT,qa0,qa1]at hl;have t:fs.length=r.length:=od
 have hA:=h.apart;have T:keptBs m.fr.reverse (fs++[yF ra rl rc 67 wa wl wc ba f.aside.length bc])=keptBs r.reverse fs++(Value.slice ba f.aside.length bc).ownBlock.toList:=by rw[hfr,qb6,kV (by simpa using t)];unfold lM;rw[if_pos hop];rfl
 have P:=hA.2.1;have Q:=h.sZ.mine;have E:=h.nodup;rw[T]at P Q E;have I:∀q,(Value.slice ba f.aside.length bc).ownBlock=some q->q∈keptBs r.reverse fs++(Value.slice ba f.aside.length bc).ownBlock.toList:=λq e=>jh6 _ (by simp[e]);have D:(Value.slice ba f.aside.length bc).ownBlock≠some mb:=λe=>(P mb (I mb e)).1 rfl;have H:=h.grow hg1;have c:cm N (N.setCell ⟨mb,14,none⟩ (.slice ba f.aside.length bc)) (some mb):=dY (bM _ _) _ _ _;have F:cm o (o.setCell ⟨mb,14,none⟩ v') (some mb):=dY (bM _ _) _ _ _;have G:(o.setCell ⟨mb,14,none⟩ v').drew.grownBy ((o.setCell ⟨mb,14,none⟩ v').drew.setCell ⟨mb,15,none⟩ (.o g r.length cap)) (some mb):=dY (bM _ _) _ _ _;have d:=fF F (fF (fK (bM _ _)) G);have C:qx O (.slice ba f.aside.length bc) v' mb:=.inl ⟨h.mine.1,D⟩;have hf:=((dB.grow hg1).trans (dB.ofRow c (λq e=>by cases e;exact h.mine.1))).trans (hF.trans (dB.ofRow d (λq e=>by cases e;exact C)));have R:∀q,O q->q≠mb->(Value.slice ba f.aside.length bc).ownBlock≠some q->((o.setCell ⟨mb,14,none⟩ v').drew.setCell ⟨mb,15,none⟩ (.o g r.length cap)).heap[q]?=w.heap[q]?:=λq l H h2=>by have z:=h.high q l;have j:=ki z hg1.size;have M:=ki j c.size;exact (d.block q (ki M hG.1.size) (by simpa using H)).trans ((hG.1.block q M (λe=>h2 e.symm)).trans ((c.block q j (by simpa using H)).trans (hg1.block q z ot)))
 have S:o.heap[mb]?=some (.cells (yG en aC m.paid m.aO k n a s aa al ac ta tl tc na nl nc (.slice ba f.aside.length bc) (.o g (r.length+1) cap)) 65):=(hG.1.block mb (ki (H.high _ h.mine.1) c.size) (λe=>D e.symm)).trans (nG H.blk _).1;have J:(o.setCell ⟨mb,14,none⟩ v').drew.heap[mb]?=some (.cells (yG en aC m.paid m.aO k n a s aa al ac ta tl tc na nl nc v' (.o g (r.length+1) cap)) 65):=(nG S v').1;have v:=(nG J (.o g r.length cap)).2.1;have W:∀q,v'.ownBlock=some q->q≠mb:=λq e A=>by
  subst A;rcases hG.2 with u|⟨g',u,hg⟩
  .exact D (by rw[<-u,e])
  .rw[e]at u;cases u;have:=H.high _ h.mine.1;have:=c.size;omega
 have U:=h.own;unfold kU at U;rw[bV,qT,qa1,t]at U;have K:(Value.slice ba f.aside.length bc).ownBlock≠some g:=λe=>(P g (I g e)).2.1 rfl;refine⟨λw' ew=>ew ▸ ?_,J⟩;refine⟨_,hf,rfl,_,_,_,_,_,_,_,_,_,_,_,_,_,_,_,_,_,h.YF hfr hf v (us':=us') ?_ ?_ ?_ ⟨C,λq e=>.inl ⟨h.mine.2 q e,by cases e;exact K⟩⟩ (λq z=>?_) (λb l=>?_)⟩
 .rw[qg7,jf7];exact hS.kept (dB.ofRow d (λq e=>by cases e;exact C)) λq e=>⟨.inr e,d.block q (zp hS.own q e).2 (by simpa using W q e)⟩
 .unfold kU;rw[t];exact iT (uF U (by rw[(wE V.split.1.form.1).1,t])) λq e=>R q (h.mine.2 q e) (λA=>hA.2.2 (by rw[<-A];exact e)) (by cases e;exact K)
 .have p:=qc6.1 (qc6.1 E).2.1;rcases hG.2 with u|⟨g',u,hg⟩
  .rw[u];refine qc6.2 ⟨by cases (Value.slice ba f.aside.length bc).ownBlock<;>simp,p.1,λx X y Y e=>p.2.2 y Y x X e.symm⟩
  .rw[u];refine qc6.2 ⟨ot,p.1,λx X y Y e=>?_⟩;simp at X;have:=h.high y (Q y (jb6 _ Y)).1;have:=hg1.size;have:=c.size;omega
 .have j:=jb6 (Value.slice ba f.aside.length bc).ownBlock.toList z;have p:=qc6.1 (qc6.1 E).2.1;have L:(Value.slice ba f.aside.length bc).ownBlock≠some q:=λe=>p.2.2 q z q (by simp[e]) rfl;exact⟨.inl ⟨(Q q j).1,L⟩,R q (Q q j).1 (P q j).1 L⟩
 .by_cases e:b=mb
  .subst e;exact⟨_,_,v⟩
  .rcases l with l|l
   .rw[R b l.1 e l.2];exact h.cells b l.1
   .rcases hS.own.2 with⟨A,_⟩|⟨g',Z,ab,A,_,z,_⟩
    .rw[A]at l;cases l
    .rw[A]at l;cases l;rw[d.block _ (qq.1 z).1 (by simpa using e)];exact⟨_,_,z⟩
def Qm{f:Fr}{ra:bj}{rl rc:Nat}{wa:bj}{wl wc:Nat}{ba:bj}{bc:Nat}{d:bx}{g:bk}(h:bU B O w mb en aC m k n a s aa al ac ta tl tc na nl nc sv fv us (fs++[yF ra rl rc 67 wa wl wc ba f.aside.length bc])){r:List Fr}(x:m.fr=f::r)(y:f.op=67)(c:cm w d none)(i:sU B O w f.aside (.slice ba f.aside.length bc) g) :
 (d.setCell ⟨mb,14,none⟩ (.slice ba f.aside.length bc)).heap[mb]?=some (.cells (yG en aC m.paid m.aO k n a s aa al ac ta tl tc na nl nc (.slice ba f.aside.length bc) fv) 65)/\sU B O (d.setCell ⟨mb,14,none⟩ (.slice ba f.aside.length bc)) f.aside (.slice ba f.aside.length bc) g/\Src O (d.setCell ⟨mb,14,none⟩ (.slice ba f.aside.length bc)) m.st.reverse sv/\B<=(d.setCell ⟨mb,14,none⟩ (.slice ba f.aside.length bc)).heap.size:=by
 have j:=h.grow c;have b:cm d (d.setCell ⟨mb,14,none⟩ (.slice ba f.aside.length bc)) (some mb):=dY (bM _ _) _ _ _;have t:dB O w O (d.setCell ⟨mb,14,none⟩ (.slice ba f.aside.length bc)):=(dB.grow c).trans (dB.ofRow b (λq e=>by cases e;exact h.mine.1));have v:=j.apart;have l:(Value.slice ba f.aside.length bc).ownBlock≠some mb:=aD i.own h.blk ov ∘ Eq.symm;have p:∀q,O q->q≠mb->(d.setCell ⟨mb,14,none⟩ (.slice ba f.aside.length bc)).heap[q]?=w.heap[q]?:=λq o z=>(b.block q (j.high q o) (by simpa using z)).trans (c.block q (h.high q o) ot);refine⟨(nG j.blk _).1,i.kept t λq e=>⟨i.mine q e,p q (i.mine q e) (λu=>l (by rw[<-u];exact e))⟩,sU.src (h.jL.kept t λq e=>⟨h.jL.mine q e,p q (h.jL.mine q e) (v.1 q e).1⟩),?_⟩;have:=h.low _ h.mine.1;have:=h.high _ h.mine.1;have:=c.size;have:=b.size;omega
def qG{f:Fr}{r:List Fr}{st:an}(h:dm B O w mb en aC m)(V:m.fr=f::r)(x:m.st.length+f.aside.length<=100000000)(W:f.op=0/\st=m.st\/f.op=60/\f.aside=[]/\st=m.st\/(∃v,f.op=65/\m.st=v::st/\kJ v=false)\/f.op=68/\st=f.aside.reverse++m.st\/f.op=67/\st=m.st++f.aside.reverse):Calls prog 80 #[.po mb] w (jK B O w mb en aC (.go { m with st:=st,fr:=r })):=by
 have⟨k,n,a,s,aa,al,ac,ta,tl,tc,na,nl,nc,sv,fv,us,fs,h⟩:=h;obtain⟨g,R,ah,ra,rc,wa,wc,ba,bc,rfl,U,rfl,hl,ar,hC,hZ,hU,hF⟩:=h.Sb V;have⟨HM,q,HC,o,HU,A⟩:=wk h (λw' (hg:cm w w' none)=>uw (h.grow hg) U) hC V hU x;have K:=λ(w':bx) (h:cm w w' none)=>And.intro (iM (l5 HM.blk h)) (HC.keep h ot);unfold C4 at K;have au:IntKind.i64.wrap (r.length:Int)=r.length:=by unfold maxLen at U;rw[qb1];omega
 have ai:cm w w none:=bM _ _;have aj:(0:Int)<=(r.length:Int):=od
 have aq:(r.length:Int)<=(R:Int):=od
 clear h hC hZ hU hF U V x;rcases W with⟨e,rfl⟩|⟨e,J,rfl⟩|⟨v,e,J,e3⟩|⟨e,rfl⟩|⟨e,rfl⟩
 all_goals rw[e]at K
 focus
  go_enter func80,ntmps80;go_wp2_with (go_at_call 79;(with_reducible refine (q.out _ oS).mono ?_);rintro e I ⟨rfl,b⟩);have c:=jh (HM.out.grow b);have i:=jh (dB.grow (O:=O) b);have d:=jh (Aw i.out c.out o.out);have p:=jh (c.out.grow (fK (bM _ _))).blk
 rotate_left
 focus
  rw[J]at K;simp only[xT]at K;go_enter func80,ntmps80;go_wp2_with (go_at_call 79;(with_reducible refine (q.out _ oS).mono ?_);rintro e I ⟨rfl,b⟩);have c:=jh (HM.out.grow b);have i:=jh (dB.grow (O:=O) b);have d:=jh (Aw i.out c.out o.out);have p:=jh (c.out.grow (fK (bM _ _))).blk
 rotate_left
 focus
  have L:=jh J;have hv:decide (v.n=1)=false:=by simpa[kJ]using e3
  clear J;go_enter func80,ntmps80;go_wp2_with (first
   | (go_at_call 79;(with_reducible refine (q.out _ oS).mono ?_);rintro e w1 ⟨rfl,b⟩)
   | (go_at_call 118;(with_reducible refine (yA (HM.out.grow b) L.out).mono ?_);rintro e w2 ⟨v2,rfl,y,t,X,Y,u⟩;obtain⟨k1,n1,a1,s1,ab,ae,ad,aO,fE,bb,ax,az,ay,rfl⟩:=y.bg;obtain rfl:=(qK y).2.1;have M:=jh t;have N:=jh u;clear y t u;unfold bg)
   | (go_at_call 117;(with_reducible refine (JW _).mono ?_);rintro e I ⟨rfl,E⟩;rw[hv]))
  have c:=jh (N.grow E);have i:=jh ((dB.grow (O:=O) b).trans (M.trans (dB.grow E)));have d:=jh (Aw i c o);have p:=jh (c.grow (fK (bM _ _))).blk
 rotate_left
 focus
  have⟨VA,F⟩:=HU.out.open.2.2.2.2.2 od;have Q:=jh F;clear F;go_enter func80,ntmps80;go_wp2_with (first
   | (go_at_call 79;(with_reducible refine (q.out _ oS).mono ?_);rintro e w1 ⟨rfl,b⟩)
   | (go_at_call 115;(with_reducible refine (BG (HM.out.grow b) (Src.grow (Src.row Q.out) b) A.out).mono ?_);rintro e I ⟨rfl,O9,t,X,Y,u⟩;have i:=jh ((dB.grow (O:=O) b).trans t);have c:=jh u;clear t u))
  have d:=jh (Aw i c o);have p:=jh (c.grow (fK (bM _ _))).blk
 rotate_left
 focus
  have⟨bh,G⟩:=HU.out.open.2.2.2.2.1 e;have P:=jh G;have Z:=jh e;rw[e]at HM;clear G;go_enter func80,ntmps80;go_wp2_with (first
   | (go_at_call 79;(with_reducible refine (q.out _ oS).mono ?_);rintro e w1 ⟨rfl,b⟩;have zz:=(iM (nG (HM.out.grow b).blk (.slice ba f.aside.length bc)).1).2.2.2.2.2.2.2)
   | (go_at_call 115;have⟨p1,p2,p3,p4⟩:=Qm HM o Z b P;refine (G9 p1 p2 p3 p4 (by have:=A.out;rw[qa0];omega)).mono ?_;clear p1 p2 p3 p4;rintro e I ⟨rfl,v',bf,w4,z,D,C,H⟩;obtain⟨a',c',rfl⟩:=nX z.own;have l:=Ql HM o Z b z D C;rw[<-H]at l;have d:=jh l.1;have p:=jh l.2;clear l z D C H))
 rotate_left
 all_goals
  refine ja7 (S:=λ_=>True) oA trivial (λT=>?_);have KX:=iM p;generalize I.drew=WX at KX d|-;refine fG 0 83 ?_;refine fG 1 84 ?_;refine fG 2 85 ?_;refine fG 3 86 ?_;refine fG 5 88 ?_;refine fG 6 89 ?_;refine fG 7 90 ?_;refine kO (rs:=[4,8]) oA ot ?_;refine ke rfl (λK j=>?_) (ke rfl (λK j=>?_) kp)
  focus
   go_simp;refine j _ _ trivial (λ_=>?_);clear j K;refine kO (rs:=[8]) oA ot ?_;refine ke rfl (λK j=>?_) kp;go_simp;refine j _ _ trivial (λ_=>?_);clear j K
  rotate_left
  focus
   go_simp;refine j _ _ trivial (λ_=>?_);clear j K;refine fG 9 92 ?_;refine fG 10 93 ?_;refine kO (rs:=[4]) oA ot ?_;refine ke rfl (λK j=>?_) kp;go_simp;refine j _ _ trivial (λ_=>?_);clear j K
  rotate_left
  focus
   refine fG 9 92 ?_;refine fG 10 93 ?_
  all_goals
   refine fG 11 94 ?_;refine fG 12 95 ?_;refine fG 13 96 ?_;refine kO (rs:=[14]) oA ot ?_;refine ke rfl (λK j=>?_) kp;go_simp;refine j _ _ trivial (λ_=>?_);clear j K;refine qf4 oA ?_ _;go_wp2;go_ret;exact d _ rfl
end
section
variable {B:Nat}{O O1:br}{w w1:bx}{mb:Nat}{en:En}{aC:Int}{m m1:Ma}
def dm.qb{b:Nat}(h:dm B O w mb en aC m)(hb:w.heap.size<=b):¬O b:=λa=>by have:=h.high b a;omega
def jK.ret{o:Out}{e:Ending}{w':bx}(h:jK B O w mb en aC o e w'):∃b,e =.returned (.i b)/\jK B O w mb en aC o (.returned (.i b)) w':=by
 have c:=h;have⟨O',_,h⟩:=h
 cases o with
 | stuck=>exact h.elim
 | no b m=>have⟨_,a,_⟩:=h;subst a;exact⟨_,rfl,c⟩
 | go m=>have⟨a,_⟩:=h;subst a;exact⟨_,rfl,c⟩
def jK.trans{o:Out}{e:Ending}{w':bx}(h:jK B O1 w1 mb en aC o e w')(c:dB O w O1 w1):jK B O w mb en aC o e w':=by have⟨O',a,b⟩:=h;exact⟨O',c.trans a,b⟩
def sG{x:Va}{k n a:Int}{s:bo}{d:bj}{al ac:Nat}{ta:bj}{tl tc:Nat}{na:bj}{f nc:Nat}(h:dm B O w mb en aC m)(r:aA (λb=>¬O b) w x (bg k n a s d al ac ta tl tc na f nc))(c:bz m [x] ≠ .stuck)(o:m.st.length<=50000000) :
 Calls prog 154 #[.po mb,.o (w.heap.size) 1 1] (w.alloc (.cells #[.i k,.i n,.i a,.string s,.slice d al ac,.slice ta tl tc,.slice na f nc] 36)) (jK B O w mb en aC (bz m [x])):=by
 have g:=aK (w:=w) (.cells #[.i k,.i n,.i a,.string s,.slice d al ac,.slice ta tl tc,.slice na f nc] 36);have t:vsizes [x]<=20000000:=by
  unfold bz at c;split at c
  .exact absurd rfl c
  .omega
 have⟨u,v,y,z,A,C,D⟩:=cO (jj w (.cells #[.i k,.i n,.i a,.string s,.slice d al ac,.slice ta tl tc,.slice na f nc] 36));refine (Fh (l:=[x]) (V:=λ_=>bg k n a s d al ac ta tl tc na f nc) (h.grow g) ⟨ZS,λi j=>?_,λi j=>?_⟩ t oB).mono λe w' q=>q.trans (dB.grow g)
 .obtain rfl:i=0:=by simpa using j
  exact⟨w.heap.size,0,rfl,λp=>by have:=h.high _ p;omega,_,_,_,_,_,_,_,_,_,_,_,_,_,rfl,u,v,y,z,A,C,D⟩
 .obtain rfl:i=0:=by simpa using j
  exact (dB.grow (O:=O) g).lies r
end
section
variable {B:Nat}{O O':br}{w w':bx}{mb:Nat}{en:En}{aC:Int}{m:Ma}{k n a:Int}{s:bo}{aa:bj}{al ac:Nat}{ta:bj}{tl tc:Nat}{na:bj}{nl nc:Nat}{sv fv:cg}{us fs:bk}
def aT.tail{ok:br}{x:Va}{xs:an}{b o:Nat}{V:bt}(h:aT ok w (x::xs) (some ⟨b,o,none⟩) V):aT ok w xs (some ⟨b,o+7,none⟩) (λi=>V (i+1)):=by
 refine⟨by have:=h.1;simp only[jt]at this;omega,λi q=>?_,λi q=>h.2.2 (i+1) oB⟩;have⟨t,u,e,p,k,n,a,s,aa,al,ac,ta,tl,tc,na,nl,nc,r,c,d,f,g,j,l,m⟩:=h.2.1 (i+1) oB;cases e;have e:o+7+i*7=o+(i+1)*7:=od
 exact⟨b,o+7,rfl,p,k,n,a,s,aa,al,ac,ta,tl,tc,na,nl,nc,r,by rw[e];exact c,by rw[e];exact d,by rw[e];exact f,by rw[e];exact g,by rw[e];exact j,by rw[e];exact l,by rw[e];exact m⟩
def cK.tail{ok:br}{x:Tr}{xs:aE}{b o:Nat}{V:bt}(h:cK ok w (x::xs) (some ⟨b,o,none⟩) V):cK ok w xs (some ⟨b,o+5,none⟩) (λi=>V (i+1)):=by
 refine⟨by have:=h.1;simp only[jt]at this;omega,λi r=>?_,λi r=>h.2.2 (i+1) oB⟩;have⟨u,v,e,q,k,n,p,s,a,l,c,t,d,f,g,j,m⟩:=h.2.1 (i+1) oB;cases e;have e:o+5+i*5=o+(i+1)*5:=od
 exact⟨b,o+5,rfl,q,k,n,p,s,a,l,c,t,by rw[e];exact d,by rw[e];exact f,by rw[e];exact g,by rw[e];exact j,by rw[e];exact m⟩
def kU.set{g L cap:Nat}{ra:bj}{rl rc:Nat}{op:Int}{wa:bj}{wl wc:Nat}{ba:bj}{bl bc:Nat}(h:kU B w (.o g (L+1) cap) (fs++[yF ra rl rc op wa wl wc ba bl bc]))(i:fs.length=L)(f:(flat fs).length=L*4)(a:bj)(c b:Nat) :
 (kU B (w.setCell ⟨g,L*4,none⟩ (.slice a c b)) (.o g (L+1) cap) (fs++[yF a c b op wa wl wc ba bl bc]))/\(kU B (w.setCell ⟨g,L*4+3,none⟩ (.slice a c b)) (.o g (L+1) cap) (fs++[yF ra rl rc op wa wl wc a c b])):=by
 unfold kU at h|-;simp only[bV,qT,qa1,i]at h|-;have d:=(h.stored (L*4) (.slice a c b)).1;have e:=(h.stored (L*4+3) (.slice a c b)).1;rw[jf0 _ _ od]at d e;rw[f]at d e;simp only[flat,qd4,List.flatMap_nil,qd1,nodeCells,yF,Nat.sub_self,Nat.add_sub_cancel_left,xF,xj]at d e|-;exact⟨d,e⟩
def bU.G5(h:bU B O w mb en aC m k n a s aa al ac ta tl tc na nl nc sv fv us fs):dm B O w mb en aC m:=⟨_,_,_,_,_,_,_,_,_,_,_,_,_,_,_,_,_,h⟩
def bU.DJ{f:Fr}{r:List Fr}{u:cg}(h:bU B O w mb en aC m k n a s aa al ac ta tl tc na nl nc sv fv us (fs++[u]))(b:m.fr=f::r):wU B O w f u:=by have c:=h.sZ;rw[b,qb6]at c;exact c.split.2
def bU.reset{f:Fr}{r:List Fr}{g cap:Nat}{ra:bj}{rc:Nat}{wa:bj}{wc:Nat}{ba:bj}{bc:Nat}{c:bj}{d:Nat}{rest:aE}{V:bt}(h:bU B O w mb en aC m k n a s aa al ac ta tl tc na nl nc sv (.o g (r.length+1) cap) us (fs++[yF ra f.rest.length rc f.op wa f.row.length wc ba f.aside.length bc]))(e:m.fr=f::r)(v:fs.length=r.length)(j:(flat fs).length=r.length*4)
 (hR:cK (λb=>¬O b) w rest c V) (hc:rest.length<=d) :
 bU B O (w.setCell ⟨g,r.length*4,none⟩ (.slice c rest.length d)) mb en aC { m with fr:=⟨rest,f.op,f.row,f.aside⟩::r } k n a s aa al ac ta tl tc na nl nc sv (.o g (r.length+1) cap) us (fs++[yF c rest.length d f.op wa f.row.length wc ba f.aside.length bc]):=by
 have⟨o,p,x,q,t,u⟩:=(h.DJ e).open;have⟨l,i⟩:=q;refine h.Wn (f':=⟨rest,f.op,f.row,f.aside⟩) e (dY (bM _ _) _ _ _) (kU.set h.own v j _ _ _).1 ?_ rfl;exact⟨c,d,wa,wc,ba,bc,V,l,rfl,o,⟨hc,p.2⟩,hR,i,t,u⟩
def bU.XB{f:Fr}{r:List Fr}{g cap:Nat}{ra:bj}{rc:Nat}{wa:bj}{wc:Nat}{ba:bj}{bc:Nat}{ba':bj}{bc':Nat}{aside:an}{V:bt}(h:bU B O w mb en aC m k n a s aa al ac ta tl tc na nl nc sv (.o g (r.length+1) cap) us (fs++[yF ra f.rest.length rc f.op wa f.row.length wc ba f.aside.length bc]))(c:m.fr=f::r)(v:fs.length=r.length)(j:(flat fs).length=r.length*4)
 (hop:f.op≠67) (hA:aT (λb=>¬O b) w aside ba' V) (hc:aside.length<=bc') :
 bU B O (w.setCell ⟨g,r.length*4+3,none⟩ (.slice ba' aside.length bc')) mb en aC { m with fr:=⟨f.rest,f.op,f.row,aside⟩::r } k n a s aa al ac ta tl tc na nl nc sv (.o g (r.length+1) cap) us (fs++[yF ra f.rest.length rc f.op wa f.row.length wc ba' aside.length bc']):=by
 have⟨q,l,t,u,x,y⟩:=(h.DJ c).open;have⟨o,d⟩:=t;have⟨p,i⟩:=u;refine h.Wn (f':=⟨f.rest,f.op,f.row,aside⟩) c (dY (bM _ _) _ _ _) (kU.set h.own v j _ _ _).2 ?_ (by unfold lM;rw[if_neg hop,if_neg hop]);exact⟨ra,rc,wa,wc,ba',bc',o,p,rfl,q,⟨l.1,l.2.1,hc⟩,d,i,λe=>absurd e hop,λ_=>⟨V,hA⟩⟩
def JL{f:Fr}{r:List Fr}{st:an}{v:Va}(h:dm B O w mb en aC m)(F:m.fr=f::r)(e:f.op=65)(G:m.st=v::st)(X:kJ v):Calls prog 80 #[.po mb] w (jK B O w mb en aC (uH aC { m with st:=st,fr:=⟨f.row,f.op,f.row,f.aside⟩::r } .go)):=by
 have⟨k,n,a,s,aa,al,ac,ta,tl,tc,na,nl,nc,sv,fv,us,fs,h⟩:=h;obtain⟨g,W,Y,ra,rc,wa,wc,ba,bc,rfl,J,rfl,L,x,H,hZ,hU,hF⟩:=h.Sb F;have⟨HM,E,N,d,HL,j⟩:=wk h (λw' (hg:cm w w' none)=>uw (h.grow hg) J) H F L x;have K:=λ(w':bx) (h:cm w w' none)=>And.intro (iM (l5 HM.blk h)) (N.keep h ot);unfold C4 at K;rw[e]at K;have Z:cm w w none:=bM _ _;have A:=jh G;have hv:decide (v.n=1):=by simpa[kJ]using X
 clear h H hZ hU hF J F G L x;generalize I:jK B O w mb en aC (uH aC { m with st:=st,fr:=⟨f.row,f.op,f.row,f.aside⟩::r } .go)=Q;have S:=jh I;clear I;go_enter func80,ntmps80;go_wp2_with (first
  | (go_at_call 79;(with_reducible refine (E.out _ oS).mono ?_);rintro e w1 ⟨rfl,t⟩)
  | (go_at_call 118;(with_reducible refine (yA (HM.out.grow t) A.out).mono ?_);rintro e w2 ⟨v2,rfl,i,o,ah,aq,p⟩;obtain⟨k1,n1,a1,s1,T,V,U,ai,fE,aj,ab,ae,ad,rfl⟩:=i.bg;obtain rfl:=(qK i).2.1;have C:=jh ((dB.grow (O:=O) t).trans o);have l:=jh p;clear i o p;unfold bg)
  | (go_at_call 117;(with_reducible refine (JW _).mono ?_);rintro e w3 ⟨rfl,c⟩;rw[hv];have z:=(l.out.grow c).Jj HL.out j.out;unfold C4 at z;have b:=jh (l.out.grow c);have D:=jh ((C.out.trans (dB.grow c)).trans (dB.ofRow (r:=some g) (dY (bM _ _) (r.length*4) none (.slice wa f.row.length wc)) (λq e=>by cases e;exact b.out.mine.2 _ rfl)));have⟨VW,u⟩:=(b.out.DJ d.out).open.2.2.2.1;have R:=jh (Ff ((b.out.reset d.out HL.out j.out u (b.out.DJ d.out).open.2.1.2.1).G5));clear c u)
  | (go_at_call 116;(with_reducible refine R.out.mono ?_);rintro e w9 M;obtain⟨er,rfl,y⟩:=(M.trans D.out).ret;have P:=jh y;clear M y))
 rw[<-S.out];exact P
def JK{f:Fr}{r:List Fr}{x:Va}{l:an}(h:dm B O w mb en aC m)(hf:m.fr=f::r)(e:f.op=60)(e2:f.aside=x::l)(j:m.st.length<=50000000):Calls prog 80 #[.po mb] w (jK B O w mb en aC (uH aC { m with st:=x::m.st,fr:=⟨f.row,f.op,f.row,l⟩::r } .go)):=by
 have⟨k,n,a,s,aa,al,ac,ta,tl,tc,na,nl,nc,sv,fv,us,fs,h⟩:=h;obtain⟨g,ad,ae,ra,rc,wa,wc,ba,v,rfl,hc,rfl,hl,I,hC,hZ,hU,hF⟩:=h.Sb hf;have⟨HM,T,HC,S,HL,p⟩:=wk h (λw' (hg:cm w w' none)=>uw (h.grow hg) hc) hC hf hl I;have⟨VA,d⟩:=hU.open.2.2.2.2.2 od;have H:=hU.open.2.1.2.2;rw[e2]at d H;have⟨b,o,eb,hb,kk,nn,aq,ss,ab,bl,bq,tb,ul,uc,nb,ml,mc,ev,Y,Z,c2,c3,c4,c5,c6⟩:=d.2.1 0 ot;have L:=d.2.2 0 ot;rw[ev]at L;subst eb;simp only[jc0,qd3,jc2]at Y Z c2 c3 c4 c5 c6 L;have HX:=jh L;have X:=jh d;have M:Hid (C7 w b o kk nn aq ss ab bl bq tb ul uc nb ml mc):=⟨Y,Z,c2,c3,c4,c5,c6⟩;have K:=λ(w':bx) (h:cm w w' none)=>And.intro (iM (l5 HM.blk h)) (And.intro (HC.keep h ot) (M.keep h ot));unfold C4 C7 at K;rw[e,e2]at K;have ah:cm w w none:=bM _ _;have⟨U,HE,N⟩:=we j e e2;simp only[jt]at K H;have d1:(0:Int)<(l.length:Int)+1:=od
 have d2:(1:Int)<=(l.length:Int)+1:=od
 have d3:(l.length:Int)+1<=(v:Int):=od
 clear h hC hZ hU hF hc hf hl I j d L Y Z c2 c3 c4 c5 c6 ev;generalize hQ:jK B O w mb en aC (uH aC { m with st:=x::m.st,fr:=⟨f.row,f.op,f.row,l⟩::r } .go)=Q;have HQ:=jh hQ;clear hQ;go_enter func80,ntmps80;go_wp2_with (first
  | (go_at_call 79;(with_reducible refine (T.out _ oS).mono ?_);rintro e w1 ⟨rfl,u⟩)
  | (go_at_call 115;(with_reducible refine (BG (HM.out.grow (aJ u (aK _))) (Src.one ((dB.grow u).lies HX.out)) (by have:=U.out;simp only[jt,xT];omega)).mono ?_);rintro e w2 ⟨rfl,O2,D,ai,aj,t⟩;have z:=t.Jj HL.out p.out;unfold C4 at z;have C:=jh t;have y:=jh ((dB.grow (O:=O) (aJ u (aK _))).trans D);clear D t))
 rw[HE.out,N.out]at z;simp only[jt]at z;have⟨A,hA,c⟩:∃A:Addr,(if v=1 then some (⟨b,o,none⟩:Addr)else some ⟨b,o+7,none⟩)=some A/\∃V,aT (λb=>¬O2 b) w2 l (some A) V:=by
  have h2:=y.out.U5 X
  by_cases hh:v=1
  .exact⟨_,if_pos hh,VA,by rw[jx (by omega:l.length=0)];exact aT.nil _ _ _ _⟩
  .exact⟨_,if_neg hh,_,h2.tail⟩
 have W:=jh c;clear c
 go_big_region
 have⟨V,c⟩:=W.out;have i:=C.out.XB (ba':=some A) (bc':=v - 1) (aside:=l) S.out HL.out p.out (by rw[HE.out];decide) c od;have⟨VW,G⟩:=(i.DJ (f:=⟨f.rest,f.op,f.row,l⟩) rfl).open.2.2.2.1;have E:=i.reset (f:=⟨f.rest,f.op,f.row,l⟩) rfl HL.out p.out G (i.DJ (f:=⟨f.rest,f.op,f.row,l⟩) rfl).open.2.1.2.1;have F:=E.grow (fK (bM _ _));have R:=jh (y.out.trans (dB.ofRow (r:=some g) (fK (dY (dY (bM _ _) (r.length*4+3) none (.slice (some A) l.length (v - 1))) (r.length*4) none (.slice wa f.row.length wc))) (λq e=>by cases e;exact C.out.mine.2 _ rfl)));have HP:Hid (Calls prog 116 #[.po mb] ((w2.setCell ⟨g,r.length*4+3,none⟩ (.slice (some A) l.length (v - 1))).setCell ⟨g,r.length*4,none⟩ (.slice wa f.row.length wc)).drew _):=Ff (m:={ m with st:=x::m.st,fr:=⟨f.row,f.op,f.row,l⟩::r }) F.G5;clear c i G E F;go_wp2_with ((go_at_call 116;(with_reducible refine HP.out.mono ?_);rintro e w9 hq;obtain⟨er,rfl,J⟩:=(hq.trans R.out).ret;have P:=jh J;clear hq J));rw[<-HQ.out];exact P.out
end
def qJ{ok:br}{w:bx}{k n a:Int}{s:bo}(e:bD k)(c:bD n)(d:bD a)(b:s.size<=maxLen):aA ok w (.mk k n a s [] [] []) (bg k n a s none 0 0 none 0 0 none 0 0) :=
 aA.of (args:=[]) (types:=[]) (code:=[]) (V:=λ_=>.i 0) (VT:=λ_=>.i 0) (VN:=λ_=>.i 0) ot b e c d (aT.nil _ _ _ _) (dw.nil _ _ _ _) (cK.nil _ _ _ _)
def jK.kept{B:Nat}{O:br}{w w':bx}{f:Nat}{en:En}{aC:Int}{o:Out}{e:Ending}{b:Nat}{ob:Option Obj}(h:jK B O w f en aC o e w')(hb:b<w.heap.size)(a:¬O b)(d:w.heap[b]?=ob):w'.heap[b]?=ob:=by have⟨O',c,_⟩:=h;exact (c.block b hb a).trans d
section
variable {B:Nat}{O:br}{w:bx}{mb:Nat}{en:En}{aC:Int}{m:Ma}
def dm.env(h:dm B O w mb en aC m):w.cell? ⟨mb,0,none⟩=some (.i en.self)/\w.cell? ⟨mb,1,none⟩=some (.i en.sender)/\w.cell? ⟨mb,2,none⟩=some (.i en.amount)/\w.cell? ⟨mb,3,none⟩=some (.i en.balance):=by have⟨k,n,a,s,aa,al,ac,ta,tl,tc,na,nl,nc,sv,fv,us,fs,h⟩:=h;have⟨b,c,d,e,_⟩:=iM h.blk;exact⟨b,c,d,e⟩
def RD{st:an}{t:Tr}{nk A:Int}{ns:bo}{na:bj}{z nc:Nat}(q:t.p0=89)(l:bD en.self)(h:dm B O w mb en aC m)(a:m.st=st)(c:iw en t m ≠ .stuck)(b:m.st.length<=50000000):Calls prog 128 #[.po mb,.agg #[.i nk,.i A,.i 89,.string ns,.slice na z nc]] w (jK B O w mb en aC (iw en t m)):=by
 have hR:iw en t m=bz { m with st:=st } [aW 7 en.self]:=by subst a;simp only[iw,q,Int.reduceEq,↓reduceIte]
 rw[hR]at c|-;have HM:=jh (show dm B O w mb en aC { m with st:=st } by rw[<-a];exact h);have s:=jh (dB.refl O w);have g:Hid (st.length<=50000000):=by rw[a]at b;exact (by omega:st.length<=50000000)
 have j:=jh c;have HI:=jh l;clear q l hR h a c b;generalize n:jK B O w mb en aC (bz { m with st:=st } [aW 7 en.self])=Q;have v:=jh n;clear n;have K:=λ(w':bx) (h:cm w w' none)=>(HM.grow h).env;have y:cm w w none:=bM _ _;have D:=λ(w':bx) (o:Obj) (h:cm w w' none)=>aJ h (aK o);go_enter func128,ntmps128;go_wp2_with (first
  | (go_at_call 161;(with_reducible refine (r9 _ _ _).mono ?_);rintro e E ⟨rfl,d⟩;have d:=aJ (aK _) d;have u:=jh d;have k:=jh (sG (x:=aW 7 en.self) (HM.out.grow d) (qJ Ok HI.out Ok (zE _)) j.out g.out);unfold bg at k;clear d;unfold bg)
  | (go_at_call 154;(with_reducible refine k.out.mono ?_);rintro e F p;obtain⟨C,rfl,f⟩:=(p.trans (s.out.trans (dB.grow u.out))).ret;have r:=jh f;clear p f))
 rw[<-v.out];exact r
def RF{st:an}{t:Tr}{nk A:Int}{ns:bo}{na:bj}{z nc:Nat}(q:t.p0=90)(l:bD en.sender)(h:dm B O w mb en aC m)(a:m.st=st)(c:iw en t m ≠ .stuck)(b:m.st.length<=50000000):Calls prog 128 #[.po mb,.agg #[.i nk,.i A,.i 90,.string ns,.slice na z nc]] w (jK B O w mb en aC (iw en t m)):=by
 have hR:iw en t m=bz { m with st:=st } [aW 7 en.sender]:=by subst a;simp only[iw,q,Int.reduceEq,↓reduceIte]
 rw[hR]at c|-;have HM:=jh (show dm B O w mb en aC { m with st:=st } by rw[<-a];exact h);have s:=jh (dB.refl O w);have g:Hid (st.length<=50000000):=by rw[a]at b;exact (by omega:st.length<=50000000)
 have j:=jh c;have HI:=jh l;clear q l hR h a c b;generalize n:jK B O w mb en aC (bz { m with st:=st } [aW 7 en.sender])=Q;have v:=jh n;clear n;have K:=λ(w':bx) (h:cm w w' none)=>(HM.grow h).env;have y:cm w w none:=bM _ _;have D:=λ(w':bx) (o:Obj) (h:cm w w' none)=>aJ h (aK o);go_enter func128,ntmps128;go_wp2_with (first
  | (go_at_call 161;(with_reducible refine (r9 _ _ _).mono ?_);rintro e E ⟨rfl,d⟩;have d:=aJ (aK _) d;have u:=jh d;have k:=jh (sG (x:=aW 7 en.sender) (HM.out.grow d) (qJ Ok HI.out Ok (zE _)) j.out g.out);unfold bg at k;clear d;unfold bg)
  | (go_at_call 154;(with_reducible refine k.out.mono ?_);rintro e F p;obtain⟨C,rfl,f⟩:=(p.trans (s.out.trans (dB.grow u.out))).ret;have r:=jh f;clear p f))
 rw[<-v.out];exact r
def RG{st:an}{t:Tr}{nk A:Int}{ns:bo}{na:bj}{z nc:Nat}(q:t.p0=91)(l:bD en.amount)(h:dm B O w mb en aC m)(a:m.st=st)(c:iw en t m ≠ .stuck)(b:m.st.length<=50000000):Calls prog 128 #[.po mb,.agg #[.i nk,.i A,.i 91,.string ns,.slice na z nc]] w (jK B O w mb en aC (iw en t m)):=by
 have hR:iw en t m=bz { m with st:=st } [aW 5 en.amount]:=by subst a;simp only[iw,q,Int.reduceEq,↓reduceIte]
 rw[hR]at c|-;have HM:=jh (show dm B O w mb en aC { m with st:=st } by rw[<-a];exact h);have s:=jh (dB.refl O w);have g:Hid (st.length<=50000000):=by rw[a]at b;exact (by omega:st.length<=50000000)
 have j:=jh c;have HI:=jh l;clear q l hR h a c b;generalize n:jK B O w mb en aC (bz { m with st:=st } [aW 5 en.amount])=Q;have v:=jh n;clear n;have K:=λ(w':bx) (h:cm w w' none)=>(HM.grow h).env;have y:cm w w none:=bM _ _;have D:=λ(w':bx) (o:Obj) (h:cm w w' none)=>aJ h (aK o);go_enter func128,ntmps128;go_wp2_with (first
  | (go_at_call 161;(with_reducible refine (r9 _ _ _).mono ?_);rintro e E ⟨rfl,d⟩;have d:=aJ (aK _) d;have u:=jh d;have k:=jh (sG (x:=aW 5 en.amount) (HM.out.grow d) (qJ Ok HI.out Ok (zE _)) j.out g.out);unfold bg at k;clear d;unfold bg)
  | (go_at_call 154;(with_reducible refine k.out.mono ?_);rintro e F p;obtain⟨C,rfl,f⟩:=(p.trans (s.out.trans (dB.grow u.out))).ret;have r:=jh f;clear p f))
 rw[<-v.out];exact r
def RH{st:an}{t:Tr}{nk A:Int}{ns:bo}{na:bj}{z nc:Nat}(q:t.p0=92)(l:bD en.balance)(h:dm B O w mb en aC m)(a:m.st=st)(c:iw en t m ≠ .stuck)(b:m.st.length<=50000000):Calls prog 128 #[.po mb,.agg #[.i nk,.i A,.i 92,.string ns,.slice na z nc]] w (jK B O w mb en aC (iw en t m)):=by
 have hR:iw en t m=bz { m with st:=st } [aW 5 en.balance]:=by subst a;simp only[iw,q,Int.reduceEq,↓reduceIte]
 rw[hR]at c|-;have HM:=jh (show dm B O w mb en aC { m with st:=st } by rw[<-a];exact h);have s:=jh (dB.refl O w);have g:Hid (st.length<=50000000):=by rw[a]at b;exact (by omega:st.length<=50000000)
 have j:=jh c;have HI:=jh l;clear q l hR h a c b;generalize n:jK B O w mb en aC (bz { m with st:=st } [aW 5 en.balance])=Q;have v:=jh n;clear n;have K:=λ(w':bx) (h:cm w w' none)=>(HM.grow h).env;have y:cm w w none:=bM _ _;have D:=λ(w':bx) (o:Obj) (h:cm w w' none)=>aJ h (aK o);go_enter func128,ntmps128;go_wp2_with (first
  | (go_at_call 161;(with_reducible refine (r9 _ _ _).mono ?_);rintro e E ⟨rfl,d⟩;have d:=aJ (aK _) d;have u:=jh d;have k:=jh (sG (x:=aW 5 en.balance) (HM.out.grow d) (qJ Ok HI.out Ok (zE _)) j.out g.out);unfold bg at k;clear d;unfold bg)
  | (go_at_call 154;(with_reducible refine k.out.mono ?_);rintro e F p;obtain⟨C,rfl,f⟩:=(p.trans (s.out.trans (dB.grow u.out))).ret;have r:=jh f;clear p f))
 rw[<-v.out];exact r
end
section
variable {B:Nat}{O O':br}{w w':bx}{mb:Nat}{en:En}{aC:Int}{m:Ma}{k n a:Int}{s:bo}{aa:bj}{al ac:Nat}{ta:bj}{tl tc:Nat}{na:bj}{nl nc:Nat}{sv fv:cg}{us fs:bk}
def C5 (w:bx) (b o:Nat) (k n p:Int) (s:bo) (a:bj) (l c:Nat):Prop:=w.cell? ⟨b,o,none⟩=some (.i k)/\w.cell? ⟨b,o+1,none⟩=some (.i n)/\w.cell? ⟨b,o+2,none⟩=some (.i p)/\w.cell? ⟨b,o+3,none⟩=some (.string s)/\w.cell? ⟨b,o+4,none⟩=some (.slice a l c)
def C5.keep{w w':bx}{r:Option Nat}{g o:Nat}{k n p:Int}{s:bo}{a:bj}{l c:Nat}(h:C5 w g o k n p s a l c)(b:cm w w' r)(d:some g≠r):C5 w' g o k n p s a l c:=⟨kc h.1 b d,kc h.2.1 b d,kc h.2.2.1 b d,kc h.2.2.2.1 b d,kc h.2.2.2.2 b d⟩
def C5.YS{w w':bx}{g o:Nat}{k n p:Int}{s:bo}{a:bj}{l c:Nat}(h:C5 w g o k n p s a l c)(d:dB O w O' w')(b:¬O g):C5 w' g o k n p s a l c:=by have : ∀{o v},w.cell? ⟨g,o,none⟩=some v->w'.cell? ⟨g,o,none⟩=some v:=λ{o v} h=>(qt (d.block g (zv w _ h) b)).trans h;exact⟨this h.1,this h.2.1,this h.2.2.1,this h.2.2.2.1,this h.2.2.2.2⟩
def BI{ok:br}{t:Tr}{k n p:Int}{s:bo}{a:bj}{l c:Nat}(h:bI ok w t (af k n p s a l c))(i:Nat)(hi:i<t.args0.length) :
 ∃b o g m p' q d j f,a=some ⟨b,o,none⟩/\l=t.args0.length/\ok b/\C5 w b (o+i*5) g m p' q d j f/\bI ok w (dK t i) (af g m p' q d j f):=by
 have⟨D,E,V,e,_,r⟩:=h.yX;unfold af at e;simp only[qd7,qf0,xo,kl,and_true]at e;obtain⟨_,_,_,_,rfl,rfl,rfl⟩:=e;have⟨b,o,e,B,g,m,p',q,d,j,f,C,v,x,y,z,A⟩:=r.2.1 i hi;have u:=r.2.2 i hi;rw[C]at u;refine⟨b,o,g,m,p',q,d,j,f,e,rfl,B,⟨v,x,y,z,A⟩,?_⟩;unfold dK;rw[qn hi];exact u
def vo{ok:br}{t:Tr}{k n p:Int}{s:bo}{a:bj}{l c:Nat}(h:bI ok w t (af k n p s a l c)):k=t.k0/\n=t.n0/\p=t.p0/\l=t.args0.length/\bD n:=by have⟨d,f,V,e,b,g⟩:=h.yX;unfold af at e;simp only[qd7,qf0,xo,kl,jd0,true_and,and_true]at e;obtain⟨rfl,rfl,rfl,_,rfl,rfl,rfl⟩:=e;exact⟨rfl,rfl,rfl,rfl,b.2.1⟩
def jK.cell{o:Out}{e:Ending}{b q:Nat}{v:cg}(h:jK B O w mb en aC o e w')(c:¬O b)(a:w.cell? ⟨b,q,none⟩=some v):w'.cell? ⟨b,q,none⟩=some v:=by have⟨O',d,_⟩:=h;exact (qt (d.block b (zv w _ a) c)).trans a
def kI (k n p:Int) (s:bo) (a:bj) (l c:Nat):Obj:=.cells #[.i k,.i n,.i p,.string s,.slice a l c] 26
def SN (p q:Nat) (x y:Obj) (w:bx):Prop:=w.heap[p]?=some x/\w.heap[q]?=some y
def SN.grow{p q:Nat}{x y:Obj}(h:SN p q x y w)(a:cm w w' none):SN p q x y w':=⟨l5 h.1 a,l5 h.2 a⟩
def SN.alloc{p q:Nat}{x y o:Obj}(h:SN p q x y w):SN p q x y (w.alloc o):=h.grow (aK _)
def SN.YS{p q:Nat}{x y:Obj}(h:SN p q x y w)(a:dB O w O' w')(b:¬O p)(c:¬O q):SN p q x y w':=⟨(a.block p (qq.1 h.1).1 b).trans h.1,(a.block q (qq.1 h.2).1 c).trans h.2⟩
def SN.ZG{p q:Nat}{x y:Obj}{o:Out}{e:Ending}(h:SN p q x y w)(a:jK B O w mb en aC o e w')(b:¬O p)(c:¬O q):SN p q x y w':=by have⟨O',a,_⟩:=a;exact h.YS a b c
def SN.cell{p q:Nat}{x y:Obj}{i:Nat}{v:cg}(h:SN p q x y w)(a:SN p q x y w')(hc:w.cell? ⟨q,i,none⟩=some v):w'.cell? ⟨q,i,none⟩=some v:=(qt (a.2.trans h.2.symm)).trans hc
def SN.of{p q i:Nat}{x:Obj}{v:cg}(h:w.heap[p]?=some x)(hc:w.cell? ⟨q,i,none⟩=some v):∃y,SN p q x y w:=⟨_,h,qb3 (zv w _ hc)⟩
def sU.mid{c l2:an}{x:Va}{v:cg}(h:sU B O w (c++x::l2) v us):∃g cap u1 u2 k n a s aa al ac ta tl tc na nl nc,v =.o g (c.length+1+l2.length) cap/\(c.length+1+l2.length<=cap/\cap<=maxLen)/\us=u1++bg k n a s aa al ac ta tl tc na nl nc::u2/\u1.length=c.length/\u2.length=l2.length /\
 aA (λb=>¬O b) w x (bg k n a s aa al ac ta tl tc na nl nc)/\C7 w g (c.length*7) k n a s aa al ac ta tl tc na nl nc/\(flat u1).length=c.length*7/\(flat u2).length=l2.length*7/\(∀y∈flat u2,y.oneCell'):=by
 have F:=h.len;simp only[qT,jt]at F;obtain⟨u1,u,u2,rfl,f,l⟩:∃u1 u u2,us=u1++u::u2/\u1.length=c.length/\u2.length=l2.length:=by refine⟨us.take c.length,us[c.length]'od,us.drop (c.length+1),?_,oB,oB⟩;rw[<-yW od,qc4]
 have t:=h.lies c.length x u ot (by rw[<-f];simp);obtain⟨k,n,a,s,aa,al,ac,ta,tl,tc,na,nl,nc,rfl⟩:=t.bg;have r:=mO h.len h.lies;have C:=lL (λu o=>r u (jb6 _ o));have q:=lL (λu o=>r u (jh6 _ (jg0 _ o)));have i:=h.own;unfold dF at i;have m:(u1++bg k n a s aa al ac ta tl tc na nl nc::u2).length=c.length+1+l2.length:=oB
 rw[m]at i;obtain⟨g,cap,rfl,_⟩:=BO i (by rintro rfl;have:=i.2;simp at this);have D:=QX i;refine⟨g,cap,u1,u2,k,n,a,s,aa,al,ac,ta,tl,tc,na,nl,nc,rfl,D,rfl,f,l,t,?_,by rw[C.1,f],by rw[q.1,l],q.2⟩;have e:flat (u1++bg k n a s aa al ac ta tl tc na nl nc::u2)=flat u1++(nodeCells (bg k n a s aa al ac ta tl tc na nl nc)++flat u2):=by rw[bV];rfl
 rw[e]at i;have d:∀j y,(nodeCells (bg k n a s aa al ac ta tl tc na nl nc))[j]?=some y->w.cell? ⟨g,c.length*7+j,none⟩=some y:=λj y z=>by have E:=(qv.1 z).1;have G:(nodeCells (bg k n a s aa al ac ta tl tc na nl nc)).length=7:=rfl;have⟨x,p,A⟩:=mh i (c.length*7+j) (by rw[qT,qT];omega);rw[ju od,jz od,show c.length*7+j - (flat u1).length=j by omega,z]at p;cases p;exact A
 exact⟨d 0 _ rfl,d 1 _ rfl,d 2 _ rfl,d 3 _ rfl,d 4 _ rfl,d 5 _ rfl,d 6 _ rfl⟩
def QJ{t:Tr}{nk D:Int}{ns:bo}{I:bj}{J f:Nat}{v:Va}{p q:an}(hT:bI (λb=>¬O b) w t (af nk D 41 ns I J f))(ha:0<t.args0.length)(hN:(dK t 0).n0=(p.length:Int)+1)(h:dm B O w mb en aC m)(C:m.st=p++v::q)(G:bz m [v] ≠ .stuck)(j:m.st.length<=50000000) :
 Calls prog 119 #[.po mb,af nk D 41 ns I J f] w (jK B O w mb en aC (bz m [v])):=by
 have U:=h;have⟨k,n,a,s,aa,al,ac,ta,tl,tc,na,nl,nc,sv,fv,us,fs,h⟩:=h;have W:=h.jL;rw[C,qg7,qb6,ur,jb2]at W;obtain⟨g,ai,u1,u2,k1,n1,a1,s1,ad,ah,ae,au,fE,ax,aj,ar,aq,rfl,Y,rfl,Z,ab,hx,V,_,_,_⟩:=W.mid;obtain⟨b,o,k2,n2,p2,s2,a2,l2,c2,rfl,rfl,hb,r,hA⟩:=BI hT 0 ha;have⟨_,F,_⟩:=vo hA;rw[hN]at F;subst F;simp only[qa0,jc0,qd3]at Y V r h;have⟨L,hL⟩:∃L,q.length+1+p.length=L:=⟨_,rfl⟩;rw[hL]at h Y;have hw:IntKind.i64.wrap ((L:Int) - ((p.length:Int)+1))=(q.length:Int):=by
  have : L<=100000000:=by rw[C]at j;simp only[qT,jt]at j;omega
  rw[qb1];omega
 have q1:(q.length:Int)<(L:Int):=od
 have q2:(0:Int)<=(q.length:Int):=od
 have q3:(0:Int)<(t.args0.length:Int):=od
 generalize q.length=Q at *;have A:=aK (w:=w) (.cells #[.i nk,.i D,.i 41,.string ns,.slice (some ⟨b,o,none⟩) t.args0.length f] 26);have⟨E,HM,HC,M,HP,l,N,R⟩:=wj (jj w (.cells #[.i nk,.i D,.i 41,.string ns,.slice (some ⟨b,o,none⟩) t.args0.length f] 26)) h V r (sG (U.grow (fK A)) ((dB.grow (fK A)).lies hx) G j) A U hb;clear U h W hx V r hb hA G j C hN hL hT Z ab Y;unfold af;generalize hQ:jK B O w mb en aC (bz m [v])=Q0;have HQ:=jh hQ;clear hQ;go_enter func119,ntmps119;go_wp2_with fail;generalize w.alloc _=W1 at *;have⟨y0,y1,y2,y3,y4⟩:=bE E;have z:=iM (l5 HM.blk l);have z7:=HC.out.keep l ot;have z5:=M.out.keep l ot;unfold C7 at z7;unfold C5 at z5;have P:=jh (N.qb (qS _));have⟨y,u⟩:=SN.of (x:=kI nk D 41 ns (some ⟨b,o,none⟩) t.args0.length f) E z5.2.1;have T:=jh u;have K:=λ(w':bx) (h:SN w.heap.size b (kI nk D 41 ns (some ⟨b,o,none⟩) t.args0.length f) y w')=>And.intro (bE h.1) (T.cell h z5.2.1);refine ja7 (S:=SN w.heap.size b (kI nk D 41 ns (some ⟨b,o,none⟩) t.args0.length f) y) oA (u.grow (fK (bM _ _))) (λc=>?_);clear u;refine fG 0 18 ?_;refine fG 1 19 ?_;refine fG 2 20 ?_;refine fG 3 21 ?_;refine fG 5 23 ?_;refine fG 6 24 ?_;refine fG 7 25 ?_;refine fG 10 28 ?_;refine fG 11 29 ?_;refine fG 12 30 ?_;refine fG 13 31 ?_;refine fG 14 32 ?_;refine kO (rs:=[4,8]) oA ot ?_;refine ke rfl (λK d=>?_) (ke rfl (λK d=>?_) kp)
 focus
  go_simp;refine d _ _ c (λ_=>?_);clear d K;refine kO (rs:=[8]) oA ot ?_;refine ke rfl (λK d=>?_) kp;go_simp;refine d _ _ c (λ_=>?_);clear d K;refine fG 9 27 ?_;refine fG 15 33 ?_;refine fG 16 34 ?_
 rotate_left
 focus
  go_simp;refine d _ _ c (λ_=>?_);clear d K;refine fG 9 27 ?_;refine fG 15 33 ?_;refine kO (rs:=[4]) oA ot ?_;refine ke rfl (λK d=>?_) kp;go_simp;refine d _ _ c (λ_=>?_);clear d K;refine fG 16 34 ?_
 all_goals
  refine kO (rs:=[17]) oA ot ?_;refine ke rfl (λK d=>?_) kp;go_simp;refine d _ _ c (λ_=>?_);clear d K;refine kO (rs:=[18]) oA ot ?_;refine ke rfl (λK d=>?_) kp;go_simp;refine d _ _ c.alloc (λ_=>?_);clear d K;refine kO (rs:=[19]) oA ot ?_;refine ke rfl (λK d=>?_) kp;go_simp;refine HP.mono ?_;rintro e w9 hq;have X:=SN.ZG c hq P R;obtain⟨er,rfl,H⟩:=(hq.trans (dB.grow (fK l))).ret;have HE:=jh H;clear hq H;refine d _ _ X (λ_=>?_);clear d K;refine fG 20 4 ?_;refine qf4 oA ?_ _;go_wp2_with fail;rw[<-HQ.out];exact HE
def sU.cut{a l2:an}{x:Va}{v v' u:cg}{u1 u2:bk}(h:sU B O w (a++x::l2) v (u1++u::u2))(l:u1.length=a.length)(e:dB O w O' w')(k:dF B w' v' (u1++u2))(j:∀g,v'.ownBlock=some g->O' g):sU B O' w' (a++l2) v' (u1++u2):=by
 have d:=h.len;simp only[qT,jt]at d;refine⟨k,by simp only[qT];omega,λi y z b c=>e.lies ?_,j⟩
 by_cases f:i<a.length
 .exact h.lies i y z (by rw[jz f]at b|-;exact b) (by rw[jz od]at c|-;exact c)
 .rw[ju od]at b c;refine h.lies (i+1) y z ?_ ?_
  .rw[ju od,show i+1 - a.length=(i - a.length)+1 by omega,yy];exact b
  .rw[ju od,show i+1 - u1.length=(i - u1.length)+1 by omega,yy];exact c
def sU.ins{d l2:an}{x:Va}{v v' u:cg}{u1 u2:bk}(h:sU B O w (d++l2) v (u1++u2))(l:u1.length=d.length)(o:aA (λb=>¬O b) w x u)(j:dB O w O' w')(n:dF B w' v' (u1++u::u2))(m:∀g,v'.ownBlock=some g->O' g):sU B O' w' (d++x::l2) v' (u1++u::u2):=by
 have e:=h.len;simp only[qT]at e;refine⟨n,by simp only[qT,jt];omega,λi y z a c=>j.lies ?_,m⟩
 by_cases k:i<d.length
 .exact h.lies i y z (by rw[jz k]at a|-;exact a) (by rw[jz od]at c|-;exact c)
 .rw[ju od]at a c
  by_cases f:i=d.length
  .rw[f,Nat.sub_self]at a;rw[f,l,Nat.sub_self]at c;simp only[kA,qk]at a c;rw[<-a,<-c];exact o
  .rw[show i - d.length=(i - 1 - d.length)+1 by omega,yy]at a;rw[show i - u1.length=(i - 1 - u1.length)+1 by omega,yy]at c;exact h.lies (i - 1) y z (by rw[ju od];exact a) (by rw[ju od];exact c)
def bU.ZE{v:Va}{p q:an}{g L cap:Nat}{u:cg}{u1 u2:bk}(h:bU B O w mb en aC m k n a s aa al ac ta tl tc na nl nc (.o g (L+1) cap) fv (u1++u::u2) fs)(d:m.st=p++v::q)(c:u1.length=q.length)(o:L=p.length+q.length)(l:w'.ownsRow B 36 7 (.o g L cap) L (flat u1++flat u2))(i:cm w w' (some g)) :
 ∃O',dB O w O' (w'.setCell ⟨mb,14,none⟩ (.o g L cap))/\bU B O' (w'.setCell ⟨mb,14,none⟩ (.o g L cap)) mb en aC { m with st:=p++q } k n a s aa al ac ta tl tc na nl nc (.o g L cap) fv (u1++u2) fs:=by
 have b:=h.jL;rw[d,qg7,qb6,ur,jb2]at b;have j:=b.len;simp only[qT,jt,qa0]at j;have f:Gr w (.o g (L+1) cap) w' (.o g L cap):=⟨i,.inl rfl⟩;have hF:=dB.gr f h.jL.mine;refine⟨_,h.Fv (st:=p++q) (us':=u1++u2) ?_ f hF⟩;rw[qg7];refine b.cut (by simpa using c) hF ?_ (λq e=>.inr e);unfold dF;rw[bV,show (u1++u2).length=L by simp only[qT];omega];exact l
end
