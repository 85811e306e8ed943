import Derived.Test.YtnamdihclpbdfaaGreatKuZao
import Derived.Lib.SliceRun
import Derived.Lib.Overlaps
import Derived.Laws.Externs
import Derived.Laws.IdiomCopy
namespace Go.Proofs.YtnamdihclpbdfaaGreat
set_option linter.all false
open Go.Proofs.Tryz
open Go.ChangeShapes Go.WideShapes Go.ChangeAt Go.RowKit
set_option maxRecDepth 100000
set_option maxHeartbeats 4000000
section
variable {B:Nat}{w:cg}
def lQ{e:TypeId}{a n g cap:Nat} : ∀(vs:bo) (o:Nat) {w:cg}{xs:bo},w.ownsRow B e a (.o g n cap) n xs->o+vs.length<=xs.length ->
 (w.setCells g o vs).ownsRow B e a (.o g n cap) n (xs.take o++vs++xs.drop (o+vs.length))/\cq w (w.setCells g o vs) (some g)
 | [],o,w,xs,h,_=>by simp only[World.setCells,qc4,qa1,qf3,qc6];exact⟨h,au _ _⟩
 | v::r,o,w,xs,h,d=>by
  simp only[js]at d;have b:=h.stored o v;have c:=lQ r (o+1) b.1 ov;refine⟨?_,bZ b.2 c.2⟩;have e:(xs.set o v).take (o+1)++r++(xs.set o v).drop (o+1+r.length)=xs.take o++(v::r)++xs.drop (o+(v::r).length):=by rw[List.drop_set_of_lt od,List.take_set,List.set_eq_take_append_cons_drop,if_pos ov];simp[jh0,qg2,Nat.add_comm,qb6];omega
  rw[<-e];exact c.1
def zero7l:bo:=[.i 0,.i 0,.i 0,.string ⟨#[]⟩,.n0,.n0,.n0]
def Km(w:cg)(ty:TypeId)(b o c:Nat)(hc:∀j,j<7->(w.cell? ⟨b,o+j,none⟩).isSome)(f:∀j,j<7->w.frozen? ⟨b,o+j,none⟩=false) :
 (Builtin.clear_ #[27] ty #[.slice (some ⟨b,o,none⟩) 1 c]).run prog w =.ok (.tuple #[]) (w.setCells b o zero7l):=by
 have g:∀w,(zeroValue 29).run prog w =.ok (.agg #[.i 0,.i 0,.i 0,.string ⟨#[]⟩,.n0,.n0,.n0]) w:=λw=>oA
 have e:(Builtin.zeroCells (Value.cells (.agg #[.i 0,.i 0,.i 0,.string ⟨#[]⟩,.n0,.n0,.n0])) 1).toList=zero7l:=oA
 have a:=run_storeCells_cells (P:=prog) b o zero7l 0 w (by simpa[zero7l]using hc) (by simpa[zero7l]using f) (by intro v d;simp[zero7l]at d;rcases d with rfl|rfl|rfl|rfl<;>rfl);simp only[qf3]at a;simp[Builtin.clear_,qa2 underlying27,g,e,a]
def mh{e:TypeId}{size n g cap:Nat}{xs:bo}(h:w.ownsRow B e size (.o g n cap) n xs)(j:Nat)(c:j<xs.length):∃x,xs[j]?=some x/\w.cell? ⟨g,j,none⟩=some x:=by
 refine⟨xs[j],qu c,?_⟩;rcases h.2 with⟨b,_⟩|⟨p,f,d,b,q,m,o,k,l,a⟩
 .simp at b
 .simp only[ye,qq,jb2,and_true,true_and]at b;obtain⟨rfl,rfl⟩:=b;have i:xs[j]?=d.toList[j]?:=by rw[<-a,qe4];rw[if_pos];rw[<-a]at c;simp at c;omega
  rw[qu c]at i;simp[World.cell?,m,<-ja1,<-i]
def Sy (B:Nat) (w:cg) (g L cap:Nat) (us:bo) (e:Ending) (w':cg):Prop:=e =.returned (.o g L cap)/\w'.ownsRow B 29 7 (.o g L cap) L us/\cq w w' (some g)
def Js{g L cap i J:Nat}(C:J=i+1){xs ys zs:bo}(h:w.ownsRow B 29 7 (.o g (L+1) cap) (L+1) (xs++ys++zs))(Q:xs.length=i*7)(R:ys.length=7)(F:zs.length=(L - i)*7)(hi:i<=L)(y:∀u∈zs,u.oneCell')(hc:L+1<=cap/\cap<=maxLen) :
 Calls prog 208 #[.o g (L+1) cap,.i (i:Int),.i (J:Int)] w (Sy B w g L cap (xs++zs)):=by
 have⟨S,m,_,q,_⟩:=jg2 mr;have r:=jh m;have s:=jh q;clear m q;have n:(xs++ys++zs).length=(L+1)*7:=ov
 have⟨A,hA,o⟩:∃A:Addr,(if cap=J then some (⟨g,0,none⟩:Addr)else some ⟨g,J*7,none⟩)=some A/\Hid (∀t u,zs[t]?=some u->w.drew.cell? (A.add t)=some u):=by
  by_cases E:cap=J
  .refine⟨⟨g,0,none⟩,by simp[E],λt u p=>?_⟩;have I:zs.length=0:=by omega
   rw[List.length_eq_zero_iff.1 I]at p;simp at p
  .refine⟨⟨g,J*7,none⟩,by simp[E],λt u p=>?_⟩;have P:=(qT.1 p).1;have⟨x,k,c⟩:=mh h (J*7+t) od;rw[xf ov]at k;have H:J*7+t - (xs++ys).length=t:=by simp;omega
   rw[H,p]at k;cases k;rw[Addr.add_lit];exact c
 have W:Hid (zs.length=(L - i)*7):=F;have X:=jh y;have Y:Hid (∀t,t<zs.length->(w.drew.cell? ⟨g,0+i*7+t,none⟩).isSome/\w.drew.frozen? ⟨g,0+i*7+t,none⟩=false):=by intro t P;have⟨x,k,c⟩:=mh h (0+i*7+t) od;exact⟨by show (w.cell? _).isSome;rw[c];rfl,h.frozenAt _⟩
 have D:w.drew.ownsRow B 29 7 (.o g (L+1) cap) (L+1) (xs++ys++zs):=h;have a:=lQ zs (0+i*7) D ov;have⟨b,d⟩:∃b,b=w.drew.setCells g (0+i*7) zs:=⟨_,rfl⟩;rw[<-d]at a;have N:∀v,(Builtin.clear_ #[27] v #[.slice (some ⟨g,L*7,none⟩) 1 (cap - L)]).run prog b =.ok (.tuple #[]) (b.setCells g (L*7) zero7l):=λv=>Km b v g (L*7) _ (λj O=>by have⟨x,k,c⟩:=mh a.1 (L*7+j) ov;rw[c];rfl) (λj O=>a.1.frozenAt _)
 have f:=lQ zero7l (L*7) a.1 (by simp[zero7l];omega);have l:cq w (b.setCells g (L*7) zero7l) (some g):=bZ (bZ (aK (au w _)) a.2) f.2;have hcut:(b.setCells g (L*7) zero7l).ownsRow B 29 7 (.o g L cap) L (xs++zs):=by
  have z:=f.1;have e:(xs++ys++zs).take (0+i*7)=xs:=by rw[qa3];exact je1 od
  have c:((xs++zs++(xs++ys++zs).drop (0+i*7+zs.length))).take (L*7)=xs++zs:=je1 ov;rw[e,c,qa3]at z;exact uF z ov
 have G:Hid (Sy B w g L cap (xs++zs) (.returned (.o g L cap)) (b.setCells g (L*7) zero7l)):=⟨rfl,hcut,l⟩;have hW:Hid (b=w.drew.setCells g (0+i*7) zs):=d;clear hcut a f D l h d;have q1:(i:Int)<=(J:Int):=od
 have q2:(J:Int)<=(L:Int)+1:=od
 have q3:((i:Int)==(J:Int))=false:=by rw[qh7];omega
 have q4:(i:Int)<=cap:=od
 have q5:(L:Int)+1<=cap:=od
 have q6:(J:Int)<=cap:=od
 have q7:L+1 - J=L - i:=od
 have q8:i+(L - i)=L:=od
 have q9:¬cap=L:=od
 have T:L+1 - L=1:=od
 have U:(L:Int)<=(L:Int)+1:=od
 have V:(L:Int)<=cap:=od
 have Z:=jh C;have HI:=jh hi;have⟨K,M⟩:=hc;clear C hi F Q R y n;go_enter func208,ntmps208;go_wp2_with fail;go_region_law (refine step_append_room rfl (.tmp 22) (.tmp 25) 27 rfl 29 S 7 underlying27 r s g 0 i cap vh A (L - i) (cap - J) zs vh W o X (by have:=HI.out;omega) Y ?_;rw[<-hW.out])
 go_wp2
 go_ret;exact G
def Rb{e:TypeId}{size L g cap:Nat}{xs:bo}(h:w.ownsRow B e size (.o g L cap) L xs)(hc:L+1<=cap):∃ys,ys.length=size/\w.ownsRow B e size (.o g (L+1) cap) (L+1) (xs++ys):=by
 have n:=h.1;rcases h.2 with⟨c,_⟩|⟨o,i,b,c,k,l,m,d,f,a⟩
 .simp at c
 .simp only[ye,qq,jb2,and_true,true_and]at c;obtain⟨rfl,rfl⟩:=c;have p:(L+1)*size<=cap*size:=ja3 _ hc;have j:(L+1)*size=L*size+size:=by rw[qg3,Nat.one_mul]
  refine⟨(b.toList.drop (L*size)).take size,ov,by simp[n];omega,.inr ⟨g,cap,b,rfl,k,l,hc,d,f,?_⟩⟩;rw[<-a,j,List.take_add]
def Kv{b:Array Oper}{o:Oper}{a:Act}{w:cg}{K:Act->cg->Prop}{Q:Exit->Act->cg->Prop}{E:Prop}
 (hg:o.guard=none) (d x:Operand) (dT sT:TypeId) (hop:o.op=Op.call { callee:=Callee.builtin Builtin.copy,args:=#[d,x],argTypes:=#[dT,sT] })
 (v u:cm) (hd:a.eval d=v) (hx:a.eval x=u) {v':cm} {w':cg} (hr:(Builtin.copy_ #[dT,sT] o.type #[v,u]).run prog w =.ok v' w') (hK:K (a.put o.dst v') w') :
 if Region.wanted o (yielded b a.tmps)then Oper.wp prog o a w K Q else E:=by
 have c:Region.wanted o (yielded b a.tmps):=by simp[Region.wanted,hg]
 rw[if_pos c];unfold Oper.wp;simp[execOp,hop,resolve,invoke,builtin,hd,hx,hr,Result.andThen];exact hK
def JO{c:Array Oper}{b:List Oper}{o:Oper}{a:Act}{w:cg}{Q:Exit->Act->cg->Prop}(e:o.guard=none)(d s:Operand)(t f:TypeId)
 (ho:o.op =.call { callee:=.builtin .copy,args:=#[d,s],argTypes:=#[t,f] }) (v u:cm) (hd:a.eval d=v) (hs:a.eval s=u) {v':cm} {w':cg}
 (hr:(Builtin.copy_ #[t,f] o.type #[v,u]).run prog w =.ok v' w') (h:wpList prog c Q b (a.put o.dst v') w'):wpList prog c Q (o::b) a w :=
 wpList_plain e λ_ hK=>by unfold Oper.wp execOp;simp only[ho,resolve,invoke,builtin,qc2,je3,Result.andThen_ok,List.map_toArray,qc0,qh5,hd,hs,hr];exact hK _ _ h
def Ee(w:cg)(ty:TypeId)(b o c e:Nat)(a:Addr)(d g:Nat)(cs:bo)(hn:cs.length=Nat.min d c*7)
 (hsrc:∀j v,cs[j]?=some v->w.cell? (a.add j)=some v) (hc:∀j,j<cs.length->(w.cell? ⟨b,o+j,none⟩).isSome) (hf:∀j,j<cs.length->w.frozen? ⟨b,o+j,none⟩=false) (h1:∀v∈cs,v.oneCell') :
 (Builtin.copy_ #[27,27] ty #[.slice (some ⟨b,o,none⟩) c e,.slice (some a) d g]).run prog w =.ok (goInt (Nat.min d c)) (w.setCells b o cs):=by
 have⟨l,h,_,i,_⟩:=jg2 mr;have k:=run_loadCells_list (P:=prog) w a cs hsrc;have f:=run_storeCells_cells (P:=prog) b o cs 0 w (by simpa using hc) (by simpa using hf) h1;simp only[qf3]at f;simp[Builtin.copy_,qa2 underlying27,Builtin.lenOf,Builtin.firstCells,sizeOf,typeInfo,h,i,<-hn,k,f]
def vL{a b:Nat}(h:b=a+1)(hb:b<=maxLen):wrap64 ((a:Int)+1)=(b:Int)/\IntKind.i64.wrap ((a:Int)+1)=(b:Int):=by unfold maxLen at hb;rw[yb];unfold wrap64;omega
def JG{g L cap i J N v:Nat}{xs zs vs:bo}(I:J=i+1)(K:N=L+1)(h:w.ownsRow B 29 7 (.o g L cap) L (xs++zs))(W:xs.length=i*7)(X:zs.length=(L - i)*7)(hi:i<L)(U:∀u∈zs,u.oneCell')(hc:L+1<=cap/\cap<=maxLen)
 (hv:w.heap[v]?=some (.cells vs.toArray 29)) (hvs:vs.length=7) (s:∀u∈vs,u.oneCell') (hne:v≠g) :
 Calls prog 209 #[.o g L cap,.i (i:Int),.o v 1 1] w (Sy B w g (L+1) cap (xs++vs++zs)):=by
 have⟨i0,A,_,D,_⟩:=jg2 mr;have⟨q,P,G⟩:=Rb h hc.1;have⟨b,z,o⟩:∃b:Array cm,w.heap[g]?=some (.cells b 29)/\b.size≠0:=by
  rcases h.2 with⟨F,_⟩|⟨g',S,b,F,hb,hg,ae,ad,o,O⟩
  .simp at F
  .simp only[ye,qq,jb2,and_true,true_and]at F;obtain⟨rfl,rfl⟩:=F;exact⟨b,hg,od⟩
 have M:∀Q H,(callFunc 233 #[.o v 1 1,.slice (some ⟨g,J*7,none⟩) Q H]).run prog w =.ok (.value (.bool false)) w:=λQ H=>by
  rw[run_callFunc_extern func233 oA oA oA (e:=Extern.SlicesOverlaps.overlaps #[27,27] #[4]) oA,
   Lib.run_overlaps_apart w 27 4 29 underlying27 7 (λw=>by simp[sizeOf,typeInfo,A,D]) ⟨v,0,none⟩ ⟨g,J*7,none⟩ 1 1 Q H hne 29 29 vs.length b.size (by simp[World.shape?,hv]) (by simp[World.shape?,z]) o (by simp[World.frozen?,hv]) (by simp[World.frozen?,hv])]
  rfl
 have V:w.drew.ownsRow B 29 7 (.o g (L+1) cap) (L+1) (xs++zs++q):=G;have f:∀ty l R,(Builtin.copy_ #[27,27] ty #[.slice (some ⟨g,J*7,none⟩) (N - J) l,.slice (some ⟨g,i*7,none⟩) (N - i) R]).run prog w.drew =.ok (goInt (Nat.min (N - i) (N - J))) (w.drew.setCells g (J*7) zs):=λty l R =>
  Ee w.drew ty g (J*7) (N - J) l ⟨g,i*7,none⟩ (N - i) R zs (by rw[X];simp only[Nat.min_def];split<;>omega) (λj u k=>by
   have ht:=(qT.1 k).1;have⟨x,r,m⟩:=mh h (i*7+j) ov;rw[xf od,show i*7+j - xs.length=j by omega,k]at r;cases r;rw[Addr.add_lit];exact m) (λj k=>by
   have⟨x,r,m⟩:=mh G (J*7+j) ov;show (w.cell? _).isSome;rw[m];rfl) (λj k=>G.frozenAt _) U
 have a:=lQ zs (J*7) V ov;have⟨d,n⟩:∃d,d=w.drew.setCells g (J*7) zs:=⟨_,rfl⟩;rw[<-n]at a f;have C:d.heap[v]?=some (.cells vs.toArray 29):=(a.2.block v (kj.1 hv).1 (by simpa using hne)).trans hv;have t:∀ty l,(Builtin.copy_ #[27,27] ty #[.slice (some ⟨g,i*7,none⟩) (N - i) l,.o v 1 1]).run prog d =.ok (goInt (Nat.min 1 (N - i))) (d.setCells g (i*7) vs):=λty l =>
  Ee d ty g (i*7) (N - i) l ⟨v,0,none⟩ 1 1 vs (by rw[hvs];simp only[Nat.min_def];split<;>omega) (λj u k=>by
   rw[Addr.add_lit];simp[World.cell?,C,k]) (λj k=>by
   have⟨x,r,m⟩:=mh a.1 (i*7+j) ov;rw[m];rfl) (λj k=>a.1.frozenAt _) s
 have p:=lQ vs (i*7) a.1 ov;have y:cq w (d.setCells g (i*7) vs) (some g):=bZ (bZ (aK (au w _)) a.2) p.2;have hcut:(d.setCells g (i*7) vs).ownsRow B 29 7 (.o g (L+1) cap) (L+1) (xs++vs++zs):=by
  have s:=p.1;have T:(xs++zs++q).drop (J*7+zs.length)=[]:=qb6 ov;have r:((xs++zs++q).take (J*7)).length=J*7:=ov
  have m:((xs++zs++q).take (J*7)++zs++(xs++zs++q).drop (J*7+zs.length)).take (i*7)=xs:=by rw[T,qc4,jh2 od,jh0,jc6 od,qa3];exact je1 W
  have e3:((xs++zs++q).take (J*7)++zs++(xs++zs++q).drop (J*7+zs.length)).drop (i*7+vs.length)=zs:=by rw[T,qc4];exact List.drop_left' od
  rw[m,e3]at s;exact s
 have Y:Hid (Sy B w g (L+1) cap (xs++vs++zs) (.returned (.o g N cap)) (d.setCells g (i*7) vs)):=⟨by rw[K],hcut,y⟩;have q1:(J:Int)<=(N:Int):=od
 have q2:¬((i:Int)=(L:Int)):=od
 have q3:((i:Int)==(L:Int))=false:=by rw[qh7];exact q2
 have q4:(i:Int)<=cap:=od
 have E:N<=cap:=od
 have c:J<=cap:=od
 have q8:(N:Int)<=cap:=od
 have q9:¬cap=J:=od
 have ah:¬cap=i:=od
 have aj:(i:Int)<=(N:Int):=od
 have ak:(i:Int)<=(L:Int):=od
 have an:(L:Int)<=cap:=od
 have aq:¬(cap:Int)<(N:Int):=od
 have ar:(J:Int)<=cap:=od
 have q5:=(vL K (xo E hc.2)).1;have q6:=(vL I (xo c hc.2)).1;have q7:=(vL I (xo c hc.2)).2;clear E c;have Z:=jh n;have⟨aa,ab⟩:=hc;clear I K hcut a p V y h n C hv z o G hi A D W X hvs P U s;go_enter func209,ntmps209;go_wp2_with (simp only[M]);go_region_law (refine Kv rfl _ _ 27 27 rfl _ _ vh vh (f _ _ _) ?_);go_wp2_with (at_builtin;refine JO rfl _ _ 27 27 rfl _ _ rfl rfl (t _ _) ?_);go_ret;exact Y
end
set_option maxHeartbeats 400000
def VP (w:cg) (k n a:Int) (s:bp) (aa:bj) (al ac:Nat) (e:Ending) (w':cg):Prop:=e =.returned (bg k n a s aa al ac none 0 0 none 0 0)/\cq w w' none
def B7 (w':cg) (R:Nat) (k n a:Int) (s:bp) (aa:bj) (al ac:Nat) (ta:bj) (tl tc:Nat) (na:bj) (nl nc:Nat):Prop :=
 w'.cell? ⟨R,0,none⟩=some (.i k)/\w'.cell? ⟨R,1,none⟩=some (.i n)/\w'.cell? ⟨R,2,none⟩=some (.i a)/\w'.cell? ⟨R,3,none⟩=some (.string s)/\w'.cell? ⟨R,4,none⟩=some (.slice aa al ac)/\w'.cell? ⟨R,5,none⟩=some (.slice ta tl tc)/\w'.cell? ⟨R,6,none⟩=some (.slice na nl nc)
def Yt{P:Program}{e:Func}{A:Act}{w W:cg}{R:Nat}{T:TypeId}{k n a:Int}{s:bp}{c:bj}{al d:Nat}(b:∀w',B7 w' R k n a s c al d none 0 0 none 0 0->(results e A.tmps).run P w' =.ok (bg k n a s c al d none 0 0 none 0 0) w')
 (hd:A.defers=[]) (hR:W.heap.size=R) (hg:cq w W none):bodyPost P e (VP w k n a s c al d) .ret A (W.alloc (.cells #[.i k,.i n,.i a,.string s,.slice c al d,.n0,.n0] T)) :=
 jb3 (b _ (cO (by rw[<-hR];exact xF W _))) hd ⟨rfl,Lf.Zt hg (Lf.gb _)⟩
def G6(k:Int)(a:bj)(l c:Nat)(w:cg):Calls prog 213 #[.i k,.slice a l c] w (VP w k 0 0 ⟨#[]⟩ a l c):=by go_enter func213,ntmps213;go_wp2_with fail;exact Yt (λw' h=>by simp only[B7]at h;simp[results,results213,go_sem,h,bg]) rfl rfl (au _ _)
def r9(k n:Int)(w:cg):Calls prog 214 #[.i k,.i n] w (VP w k n 0 ⟨#[]⟩ none 0 0):=by go_enter func214,ntmps214;go_wp2_with fail;exact Yt (λw' h=>by simp only[B7]at h;simp[results,results214,go_sem,h,bg]) rfl rfl (au _ _)
def K6{k n a:Int}{s:bp}{b:bj}{al c:Nat}{ta:bj}{tl tc:Nat}{na:bj}{d nc:Nat}(w:cg):Calls prog 195 #[.agg #[.i k,.i n,.i a,.string s,.slice b al c,.slice ta tl tc,.slice na d nc]] w λe w'=>e =.returned (.bool (decide (n=1)))/\cq w w' none:=by
 by_cases h:n=1
 .subst h;go_enter func195,ntmps195;go_wp2;go_ret;exact⟨rfl,Lf.gb _⟩
 .have f:(n==1)=false:=by simpa using h
  go_enter func195,ntmps195;go_wp2;go_ret;exact Lf.kZ (by simp[h]) (Lf.gb _)
def VQ (w:cg) (k n a:Int) (cs:Array cm) (l:Nat) (e:Ending) (w':cg):Prop:=∃g,w.heap.size<=g/\e =.returned (bg k n a ⟨#[]⟩ (some ⟨g,0,none⟩) l l none 0 0 none 0 0)/\cq w w' none/\w'.heap[g]?=some (.cells cs 29)
def QV(w:cg):Calls prog 210 #[] w (VP w 9 0 0 ⟨#[]⟩ none 0 0):=by have HM:=jh (λw'=>G6 9 none 0 0 w');have c:=jh (xF w (.cells #[.i 0,.i 0,.i 0,.string ⟨#[]⟩,.n0,.n0,.n0] 29));go_enter func210,ntmps210;go_wp2_with (go_at_call 213;(with_reducible refine (HM.out _).mono ?_);rintro e w1 ⟨rfl,a⟩;have HB:=jh (dh c.out a);have b:=jh (Lf.Zt (Lf.gb _) a);have z:=cO HB.out;have d:=qD HB.out;clear a;unfold bg);go_wp2_with fail;refine Xe (λw' h=>by simp[results,results210,go_sem,h,bg]) rfl HB.out λw' a=>⟨rfl,aG b.out a (jj _)⟩
def RN{k n a:Int}{s:bp}{d:bj}{al f:Nat}{ta:bj}{tl tc:Nat}{na:bj}{g nc:Nat}(w:cg):Calls prog 212 #[.agg #[.i k,.i n,.i a,.string s,.slice d al f,.slice ta tl tc,.slice na g nc]] w (VQ w 9 0 0 #[.i k,.i n,.i a,.string s,.slice d al f,.slice ta tl tc,.slice na g nc] 1):=by have HM:=jh (λa l c w'=>G6 9 a l c w');have m:=xF (w.alloc (.cells #[.i k,.i n,.i a,.string s,.slice d al f,.slice ta tl tc,.slice na g nc] 29)) (.cells #[.i 0,.i 0,.i 0,.string ⟨#[]⟩,.n0,.n0,.n0] 29);have j:=xF ((w.alloc (.cells #[.i k,.i n,.i a,.string s,.slice d al f,.slice ta tl tc,.slice na g nc] 29)).alloc (.cells #[.i 0,.i 0,.i 0,.string ⟨#[]⟩,.n0,.n0,.n0] 29)) (.cells #[.i k,.i n,.i a,.string s,.slice d al f,.slice ta tl tc,.slice na g nc] 29);simp only[qh0]at m j;replace m:=jh (aB (o:=.cells #[.i k,.i n,.i a,.string s,.slice d al f,.slice ta tl tc,.slice na g nc] 29) m);replace j:=jh j;go_enter func212,ntmps212;go_wp2_with (go_at_call 213;(with_reducible refine (HM.out _ _ _ _).mono ?_);rintro e w1 ⟨rfl,b⟩;have HB:=jh (dh m.out b);have p:=jh (dh j.out b);have q:=jh (Lf.Zt (Lf.Zt (Lf.Zt (Lf.gb _) (Lf.gb _)) (Lf.gb _)) b);have z:=cO HB.out;have r:=qD HB.out;clear b;unfold bg);go_wp2_with fail;refine Xe (λw' h=>by simp[results,results212,go_sem,h,bg]) rfl HB.out λw' b=>⟨_,od,rfl,aG q.out b od,kb p.out b oe⟩
def KG{k n a:Int}{s:bp}{b:bj}{al c:Nat}{ta:bj}{tl tc:Nat}{na:bj}{d nc:Nat}(q t:Int)(w:cg):Calls prog 245 #[.i q,.i t,.agg #[.i k,.i n,.i a,.string s,.slice b al c,.slice ta tl tc,.slice na d nc]] w (VQ w 15 t q #[.i k,.i n,.i a,.string s,.slice b al c,.slice ta tl tc,.slice na d nc] 1):=by have f:=xF (w.alloc (.cells #[.i k,.i n,.i a,.string s,.slice b al c,.slice ta tl tc,.slice na d nc] 29)) (.cells #[.i 15,.i t,.i q,.string ⟨#[]⟩,.o (w.heap.size+1+1) 1 1,.n0,.n0] 29);have e:=xF ((w.alloc (.cells #[.i k,.i n,.i a,.string s,.slice b al c,.slice ta tl tc,.slice na d nc] 29)).alloc (.cells #[.i 15,.i t,.i q,.string ⟨#[]⟩,.o (w.heap.size+1+1) 1 1,.n0,.n0] 29)) (.cells #[.i k,.i n,.i a,.string s,.slice b al c,.slice ta tl tc,.slice na d nc] 29);simp only[qh0]at f e;replace f:=jh (cO (aB (o:=.cells #[.i k,.i n,.i a,.string s,.slice b al c,.slice ta tl tc,.slice na d nc] 29) f));replace e:=jh e;go_enter func245,ntmps245;go_wp2_with fail;have h:=f.out;exact jb3 (v:=bg 15 t q ⟨#[]⟩ (some ⟨w.heap.size+1+1,0,none⟩) 1 1 none 0 0 none 0 0) (by simp[results,results245,go_sem,h,bg]) rfl ⟨_,od,rfl,Lf.Zt (Lf.Zt (Lf.gb _) (Lf.gb _)) (Lf.gb _),e⟩
def GY{ok:br}{w:cg}{x:Va}{g:Nat}{K N A:Int}{k n a:Int}{s:bp}{b:bj}{al c:Nat}{ta:bj}{tl tc:Nat}{na:bj}{e nc:Nat}(hb:w.heap[g]?=some (.cells #[.i k,.i n,.i a,.string s,.slice b al c,.slice ta tl tc,.slice na e nc] 29))(f:ok g)(h:aA ok w x (bg k n a s b al c ta tl tc na e nc))(j:bD K)(l:bD N)(iA:bD A) :
 aA ok w (.mk K N A ⟨#[]⟩ [x] [] []) (bg K N A ⟨#[]⟩ (some ⟨g,0,none⟩) 1 1 none 0 0 none 0 0):=by
 have⟨m,o,p,q,r,z5,t⟩:=cO hb;refine aA.of (args:=[x]) (types:=[]) (code:=[]) (V:=λ_=>bg k n a s b al c ta tl tc na e nc) (VT:=λ_=>.i 0) (VN:=λ_=>.i 0) oe (yv _) j l iA ⟨by simp[maxLen],λi d=>?_,λi d=>?_⟩ (dw.nil _ _ _ _) (cK.nil _ _ _ _)
 .obtain rfl:i=0:=by simpa using d
  exact⟨g,0,rfl,f,_,_,_,_,_,_,_,_,_,_,_,_,_,rfl,m,o,p,q,r,z5,t⟩
 .obtain rfl:i=0:=by simpa using d
  exact h
def qK{ok:br}{w:cg}{x:Va}{k n a:Int}{s:bp}{b:bj}{al d:Nat}{ta:bj}{tl tc:Nat}{na:bj}{j nc:Nat}(h:aA ok w x (bg k n a s b al d ta tl tc na j nc)):k=x.k/\n=x.n/\a=x.a/\s=x.s:=by have⟨c,f,l,m,g,i,V,p,o,e,_,q,_⟩:=h.inv;unfold bg at e;simp only[ja5,jc3,qa5,Value.string.injEq,Value.int.injEq,true_and,and_true]at e;exact⟨e.1,e.2.1,e.2.2.1,e.2.2.2.1⟩
def QF{ok:br}{w:cg}{x:Va}{v:cm}(h:aA ok w x v):bD x.n:=by have⟨a,b,g,i,d,f,V,k,j,e,c,l,_⟩:=h.inv;exact c.2.1
set_option maxHeartbeats 8000000
section
variable {B:Nat}{O O':br}{w w':cg}{mb:Nat}{en:En}{aC:Int}{m:Ma}{k n a:Int}{s:bp}{aa:bj}{al ac:Nat}{ta:bj}{tl tc:Nat}{na:bj}{nl nc:Nat}{sv fv:cm}{us fs:bo}
def C4 (w:cg) (g o:Nat) (x0 x1 x2 x3:cm):Prop:=w.cell? ⟨g,o,none⟩=some x0/\w.cell? ⟨g,o+1,none⟩=some x1/\w.cell? ⟨g,o+2,none⟩=some x2/\w.cell? ⟨g,o+3,none⟩=some x3
def C4.keep{w w':cg}{r:Option Nat}{g o:Nat}{x0 c d e:cm}(h:C4 w g o x0 c d e)(a:cq w w' r)(b:some g≠r):C4 w' g o x0 c d e:=⟨kc h.1 a b,kc h.2.1 a b,kc h.2.2.1 a b,kc h.2.2.2 a b⟩
def bU.Sb{f:Fr}{r:List Fr}(h:bU B O w mb en aC m k n a s aa al ac ta tl tc na nl nc sv fv us fs)(x:m.fr=f::r):∃g cap b ra rc wa wc ba bc,fv =.o g (r.length+1) cap/\(r.length+1<=cap/\cap<=maxLen)/\fs=b++[yF ra f.rest.length rc f.op wa f.row.length wc ba f.aside.length bc]/\b.length=r.length/\(flat b).length=r.length*4 /\
 C4 w g (r.length*4) (.slice ra f.rest.length rc) (.i f.op) (.slice wa f.row.length wc) (.slice ba f.aside.length bc)/\(∀o,w.frozen? ⟨g,o,none⟩=false)/\wU B O w f (yF ra f.rest.length rc f.op wa f.row.length wc ba f.aside.length bc)/\jc B O w r.reverse b:=by
 have q:=h.sZ;rw[x,qd1]at q;have t:=q.form.2;simp only[jx,qb3,qe7]at t;obtain⟨b,u,rfl,c⟩:=DT t;have l:=q.split;have z:=l.2;obtain⟨ra,rc,wa,wc,ba,bc,C,D,rfl,_⟩:=l.2;have e:=(wE l.1.form.1).1;have d:=h.own;unfold kU at d;rw[bV,jx,qe7,c]at d;obtain⟨g,cap,rfl,_⟩:=BO d (by rintro rfl;have:=d.2;simp at this);have v:=BH d;have p:∀j y,(nodeCells (yF ra f.rest.length rc f.op wa f.row.length wc ba f.aside.length bc))[j]?=some y->w.cell? ⟨g,r.length*4+j,none⟩=some y:=λj y A=>iJ d (by rw[e,c]) j y (by simpa[flat]using A);exact⟨g,cap,b,ra,rc,wa,wc,ba,bc,rfl,v,rfl,c,by rw[e,c],⟨p 0 _ rfl,p 1 _ rfl,p 2 _ rfl,p 3 _ rfl⟩,λo=>jb7 d o,z,l.1⟩
def bU.Wn{f f':Fr}{r:List Fr}{u z:cm}{g c cap:Nat}(h:bU B O w mb en aC m k n a s aa al ac ta tl tc na nl nc sv (.o g c cap) us (fs++[u]))(o:m.fr=f::r)(G:cq w w' (some g))(i:kU B w' (.o g c cap) (fs++[z]))(J:wU B O w f' z)(hk:lM f' z=lM f u) :
 bU B O w' mb en aC { m with fr:=f'::r } k n a s aa al ac ta tl tc na nl nc sv (.o g c cap) us (fs++[z]):=by
 have y:dB O w O w':=dB.ofRow G (λq e=>h.mine.2 q e);have A:=h.apart;have l:∀q,O q->(Value.o g c cap).ownBlock≠some q->w'.heap[q]?=w.heap[q]?:=λq x D=>G.block q (h.high q x) (λe=>D e.symm);have E:=h.sZ;rw[o,qd1]at E;have I:=E.form.2;simp only[jx,qb3,qe7]at I;have p:fs.length=r.reverse.length:=ov
 have C:keptBs m.fr.reverse (fs++[u])=keptBs r.reverse fs++lM f u:=by rw[o,qd1,kV p]
 have hK:=A.2.1;have j:=h.sZ.mine;have t:=h.nodup;rw[C]at hK j t;refine⟨(l mb h.mine.1 A.2.2).trans h.blk,y.lies h.said,h.jL.kept y λq e=>⟨h.jL.mine q e,l q (h.jL.mine q e) (A.1 q e).2⟩,i,?_,?_,h.mine,h.low,λb x=>?_,h.num⟩
 .simp only[qd1];refine jc.snoc (J.kept y λq d=>?_) (E.split.1.kept y λq d=>?_)
  .rw[hk]at d;have d:=ka2 (keptBs r.reverse fs) d;exact⟨(j q d).1,l q (j q d).1 (hK q d).2.1⟩
  .have d:=jb6 (lM f u) d;exact⟨(j q d).1,l q (j q d).1 (hK q d).2.1⟩
 .simp only[qd1];rw[kV p,hk];exact t
 .by_cases e:(Value.o g c cap).ownBlock=some b
  .cases e;rcases i.2 with⟨v,_⟩|⟨K,F,H,v,_,d,_⟩
   .simp at v
   .simp only[ye,qq,jb2,and_true,true_and]at v;obtain⟨rfl,_⟩:=v;exact⟨_,_,d⟩
  .rw[l b x e];exact h.cells b x
def bU.YF{f:Fr}{r:List Fr}{u:cm}{st:ao}{sv' c:cm}{us':bo}(h:bU B O w mb en aC m k n a s aa al ac ta tl tc na nl nc sv fv us (fs++[u]))(j:m.fr=f::r)(i:dB O w O' w')(d:w'.heap[mb]?=some (.cells (yG en aC m.paid m.aO k n a s aa al ac ta tl tc na nl nc sv' c) 214))
 (hstk:sU B O' w' st.reverse sv' us') (hown:kU B w' c fs) (hnd:(sv'.ownBlock.toList++keptBs r.reverse fs).Nodup) (hO:O' mb/\∀g,c.ownBlock=some g->O' g) (hk:∀g∈keptBs r.reverse fs,O' g/\w'.heap[g]?=w.heap[g]?) (hcells:∀b,O' b->∃cs e,w'.heap[b]?=some (.cells cs e)) :
 bU B O' w' mb en aC { m with st:=st,fr:=r } k n a s aa al ac ta tl tc na nl nc sv' c us' fs:=by
 have o:=h.sZ;rw[j,qd1]at o;refine⟨d,i.lies h.said,hstk,hown,o.split.1.kept i hk,hnd,hO,λb p=>?_,hcells,h.num⟩;rcases i.new b p with l|l
 .exact h.low b l
 .have:=h.low _ h.mine.1;have:=h.high _ h.mine.1;omega
def Yd (w:cg) (g L:Nat) (e:Ending) (w':cg):Prop:=e =.returned (.pointer (some ⟨g,L*4,none⟩))/\cq w w' none
def uw{g L cap:Nat}(h:bU B O w mb en aC m k n a s aa al ac ta tl tc na nl nc sv (.o g (L+1) cap) us fs)(hc:L+1<=cap/\cap<=maxLen):Calls prog 189 #[.po mb] w (Yd w g L):=by
 have HM:=jh h;have K:=λ(w':cg) (h:cq w w' none)=>iM (dh HM.blk h);have b:cq w w none:=au _ _;have c:=jh (aK b);have i:IntKind.i64.wrap (L:Int)=L:=by unfold maxLen at hc;rw[yb];omega
 have d:(0:Int)<=(L:Int):=od
 have e:(L:Int)<(L:Int)+1:=od
 have f:L<L+1:=od
 clear h hc;go_enter func189,ntmps189;go_wp2_with fail;go_region_held3 (λw'=>cq w w' none) (first|with_reducible assumption|with_reducible exact aK oR) (fail);go_wp2;go_ret;exact⟨rfl,c.out⟩
def bU.Jj{g L cap:Nat}{ra:bj}{rl rc:Nat}{op:Int}{wa:bj}{wl wc:Nat}{ba:bj}{bl bc:Nat}(h:bU B O w mb en aC m k n a s aa al ac ta tl tc na nl nc sv (.o g (L+1) cap) us (fs++[yF ra rl rc op wa wl wc ba bl bc]))(e:fs.length=L)(d:(flat fs).length=L*4) :
 C4 w g (L*4) (.slice ra rl rc) (.i op) (.slice wa wl wc) (.slice ba bl bc)/\∀o,w.frozen? ⟨g,o,none⟩=false:=by
 have c:=h.own;unfold kU at c;rw[bV,jx,qe7,e]at c;have b:∀j y,(nodeCells (yF ra rl rc op wa wl wc ba bl bc))[j]?=some y->w.cell? ⟨g,L*4+j,none⟩=some y:=λj y f=>iJ c d j y (by simpa[flat]using f);exact⟨⟨b 0 _ rfl,b 1 _ rfl,b 2 _ rfl,b 3 _ rfl⟩,λo=>jb7 c o⟩
def JV{α:Type}{a b c:List α}(h:(a++(b++c)).Nodup):(a++b).Nodup:=by rw[<-qa3]at h;exact (qe0.1 h).1
def bU.YE{f:Fr}{r:List Fr}{u:cm}{g cap:Nat}(h:bU B O w mb en aC m k n a s aa al ac ta tl tc na nl nc sv (.o g (r.length+1) cap) us (fs++[u]))(j:m.fr=f::r) :
 ∀w',w'=w.drew.setCell ⟨mb,15,none⟩ (.o g r.length cap)->dB O w O w'/\dm B O w' mb en aC { m with fr:=r }:=by
 rintro w' rfl;have D:=h.sZ;rw[j,qd1]at D;have F:=D.form.2;simp only[jx,qb3,qe7]at F;have c:fs.length=r.length:=od
 have h0:=h.grow (aK (au w none));have i:w.drew.grownBy (w.drew.setCell ⟨mb,15,none⟩ (.o g r.length cap)) (some mb):=aX (au _ _) _ _ _;have y:dB O w O (w.drew.setCell ⟨mb,15,none⟩ (.o g r.length cap)):=(dB.grow (aK (au w none))).trans (dB.ofRow i (λq e=>by cases e;exact h.mine.1));have v:=h.apart;have t:∀q,O q->q≠mb->(w.drew.setCell ⟨mb,15,none⟩ (.o g r.length cap)).heap[q]?=w.heap[q]?:=λq p A=>i.block q (h.high q p) (by simpa using A);have z:keptBs m.fr.reverse (fs++[u])=keptBs r.reverse fs++lM f u:=by rw[j,qd1,kV (by simpa using c)]
 have hK:=v.2.1;have x:=h.sZ.mine;have l:=h.nodup;rw[z]at hK x l;have d:=(nG h0.blk (.o g r.length cap)).2.1;have C:=h.own;unfold kU at C;rw[bV,jx,qe7,c]at C;refine⟨y,_,_,_,_,_,_,_,_,_,_,_,_,_,_,_,_,_,h.YF j y d (h.jL.kept y λq e=>⟨h.jL.mine q e,t q (h.jL.mine q e) (v.1 q e).1⟩) ?_ (JV l) ⟨h.mine.1,λq e=>h.mine.2 q e⟩ (λq o=>?_) (λb p=>?_)⟩
 .unfold kU;rw[c];exact iT (uF C (by rw[(wE D.split.1.form.1).1,c])) λq e=>t q (h.mine.2 q e) (λE=>v.2.2 (by rw[<-E];exact e))
 .have o:=jb6 (lM f u) o;exact⟨(x q o).1,t q (x q o).1 (hK q o).1⟩
 .by_cases e:b=mb
  .subst e;exact⟨_,_,d⟩
  .rw[t b p e];exact h.cells b p
def Aw{c:br}{d:cg}{f:Fr}{r:List Fr}{u:cm}{g cap:Nat}(hF:dB c d O w)(h:bU B O w mb en aC m k n a s aa al ac ta tl tc na nl nc sv (.o g (r.length+1) cap) us (fs++[u]))(b:m.fr=f::r) :
 ∀w',w'=w.drew.setCell ⟨mb,15,none⟩ (.o g r.length cap)->jK B c d mb en aC (.go { m with fr:=r }) (.returned (.i 0)) w':=λw' e=>⟨_,hF.trans (h.YE b w' e).1,rfl,(h.YE b w' e).2⟩
def wU.open{f:Fr}{ra:bj}{rl rc:Nat}{op:Int}{wa:bj}{wl wc:Nat}{ba:bj}{bl bc:Nat}(h:wU B O w f (yF ra rl rc op wa wl wc ba bl bc)):bD f.op/\(f.rest.length<=rc/\f.row.length<=wc/\f.aside.length<=bc)/\(∃a,cK (λb=>¬O b) w f.rest ra a)/\(∃VW,cK (λb=>¬O b) w f.row wa VW) /\
 (f.op=67->∃us,sU B O w f.aside (.slice ba f.aside.length bc) us)/\(f.op≠67->∃VA,aT (λb=>¬O b) w f.aside ba VA):=by
 have⟨n,o,p,q,c,d,a,VW,e,g,i,j,k,l,m⟩:=h;unfold yF at e;simp only[ja5,jc3,qa5,ye,Value.int.injEq,true_and,and_true]at e;obtain⟨⟨rfl,rfl,rfl⟩,rfl,⟨rfl,rfl,rfl⟩,rfl,rfl,rfl⟩:=e;exact⟨g,i,⟨a,j⟩,⟨VW,k⟩,l,m⟩
def sU.src{l:ao}{v:cm}(h:sU B O w l v us):Src O w l v:=⟨us,Fe h.own,h.len,h.lies⟩
def Ql{f:Fr}{r:List Fr}{ra:bj}{rl rc:Nat}{wa:bj}{wl wc:Nat}{ba:bj}{bc g cap:Nat}{N o:cg}{v':cm}{us':bo}
 (h:bU B O w mb en aC m k n a s aa al ac ta tl tc na nl nc sv (.o g (r.length+1) cap) us (fs++[yF ra rl rc 67 wa wl wc ba f.aside.length bc])) (hfr:m.fr=f::r) (hop:f.op=67) (hg1:cq w N none)
 (hS:sU B (qx O (.slice ba f.aside.length bc) v') o (f.aside++m.st.reverse) v' us') (hG:Gr (N.setCell ⟨mb,14,none⟩ (.slice ba f.aside.length bc)) (.slice ba f.aside.length bc) o v') (hF:dB O (N.setCell ⟨mb,14,none⟩ (.slice ba f.aside.length bc)) (qx O (.slice ba f.aside.length bc) v') o) :
 (∀w',w'=(o.setCell ⟨mb,14,none⟩ v').drew.setCell ⟨mb,15,none⟩ (.o g r.length cap)->jK B O w mb en aC (.go { m with st:=m.st++f.aside.reverse,fr:=r }) (.returned (.i 0)) w')/\(o.setCell ⟨mb,14,none⟩ v').drew.heap[mb]?=some (.cells (yG en aC m.paid m.aO k n a s aa al ac ta tl tc na nl nc v' (.o g (r.length+1) cap)) 214):=by
 have U:=h.sZ;rw[hfr,qd1]at U;have hl:=U.form.2;simp only[jx,qb3,qe7]at hl;have t:fs.length=r.length:=od
 have hA:=h.apart;have S:keptBs m.fr.reverse (fs++[yF ra rl rc 67 wa wl wc ba f.aside.length bc])=keptBs r.reverse fs++(Value.slice ba f.aside.length bc).ownBlock.toList:=by rw[hfr,qd1,kV (by simpa using t)];unfold lM;rw[if_pos hop];rfl
 have hK:=hA.2.1;have P:=h.sZ.mine;have E:=h.nodup;rw[S]at hK P E;have I:∀q,(Value.slice ba f.aside.length bc).ownBlock=some q->q∈keptBs r.reverse fs++(Value.slice ba f.aside.length bc).ownBlock.toList:=λq e=>ka2 _ (by simp[e]);have D:(Value.slice ba f.aside.length bc).ownBlock≠some mb:=λe=>(hK mb (I mb e)).1 rfl;have H:=h.grow hg1;have c:cq N (N.setCell ⟨mb,14,none⟩ (.slice ba f.aside.length bc)) (some mb):=aX (au _ _) _ _ _;have F:cq o (o.setCell ⟨mb,14,none⟩ v') (some mb):=aX (au _ _) _ _ _;have G:(o.setCell ⟨mb,14,none⟩ v').drew.grownBy ((o.setCell ⟨mb,14,none⟩ v').drew.setCell ⟨mb,15,none⟩ (.o g r.length cap)) (some mb):=aX (au _ _) _ _ _;have d:=bZ F (bZ (aK (au _ _)) G);have C:qx O (.slice ba f.aside.length bc) v' mb:=.inl ⟨h.mine.1,D⟩;have hf:=((dB.grow hg1).trans (dB.ofRow c (λq e=>by cases e;exact h.mine.1))).trans (hF.trans (dB.ofRow d (λq e=>by cases e;exact C)));have Q:∀q,O q->q≠mb->(Value.slice ba f.aside.length bc).ownBlock≠some q->((o.setCell ⟨mb,14,none⟩ v').drew.setCell ⟨mb,15,none⟩ (.o g r.length cap)).heap[q]?=w.heap[q]?:=λq l H h2=>by have z:=h.high q l;have j:=kh z hg1.size;have M:=kh j c.size;exact (d.block q (kh M hG.1.size) (by simpa using H)).trans ((hG.1.block q M (λe=>h2 e.symm)).trans ((c.block q j (by simpa using H)).trans (hg1.block q z oe)))
 have R:o.heap[mb]?=some (.cells (yG en aC m.paid m.aO k n a s aa al ac ta tl tc na nl nc (.slice ba f.aside.length bc) (.o g (r.length+1) cap)) 214):=(hG.1.block mb (kh (H.high _ h.mine.1) c.size) (λe=>D e.symm)).trans (nG H.blk _).1;have J:(o.setCell ⟨mb,14,none⟩ v').drew.heap[mb]?=some (.cells (yG en aC m.paid m.aO k n a s aa al ac ta tl tc na nl nc v' (.o g (r.length+1) cap)) 214):=(nG R v').1;have v:=(nG J (.o g r.length cap)).2.1;have V:∀q,v'.ownBlock=some q->q≠mb:=λq e A=>by
  subst A;rcases hG.2 with u|⟨Z,u,hg⟩
  .exact D (by rw[<-u,e])
  .rw[e]at u;cases u;have:=H.high _ h.mine.1;have:=c.size;omega
 have T:=h.own;unfold kU at T;rw[bV,jx,qe7,t]at T;have K:(Value.slice ba f.aside.length bc).ownBlock≠some g:=λe=>(hK g (I g e)).2.1 rfl;refine⟨λw' ew=>ew ▸ ?_,J⟩;refine⟨_,hf,rfl,_,_,_,_,_,_,_,_,_,_,_,_,_,_,_,_,_,h.YF hfr hf v (us':=us') ?_ ?_ ?_ ⟨C,λq e=>.inl ⟨h.mine.2 q e,by cases e;exact K⟩⟩ (λq z=>?_) (λb l=>?_)⟩
 .rw[qg5,jf6];exact hS.kept (dB.ofRow d (λq e=>by cases e;exact C)) λq e=>⟨.inr e,d.block q (qb5 hS.own q e).2 (by simpa using V q e)⟩
 .unfold kU;rw[t];exact iT (uF T (by rw[(wE U.split.1.form.1).1,t])) λq e=>Q q (h.mine.2 q e) (λA=>hA.2.2 (by rw[<-A];exact e)) (by cases e;exact K)
 .have p:=qe0.1 (qe0.1 E).2.1;rcases hG.2 with u|⟨Z,u,hg⟩
  .rw[u];refine qe0.2 ⟨by cases (Value.slice ba f.aside.length bc).ownBlock<;>simp,p.1,λx W y X e=>p.2.2 y X x W e.symm⟩
  .rw[u];refine qe0.2 ⟨oe,p.1,λx W y X e=>?_⟩;simp at W;have:=h.high y (P y (jb6 _ X)).1;have:=hg1.size;have:=c.size;omega
 .have j:=jb6 (Value.slice ba f.aside.length bc).ownBlock.toList z;have p:=qe0.1 (qe0.1 E).2.1;have L:(Value.slice ba f.aside.length bc).ownBlock≠some q:=λe=>p.2.2 q z q (by simp[e]) rfl;exact⟨.inl ⟨(P q j).1,L⟩,Q q (P q j).1 (hK q j).1 L⟩
 .by_cases e:b=mb
  .subst e;exact⟨_,_,v⟩
  .rcases l with l|l
   .rw[Q b l.1 e l.2];exact h.cells b l.1
   .rcases hS.own.2 with⟨A,_⟩|⟨Z,Y,ab,A,_,z,_⟩
    .rw[A]at l;cases l
    .rw[A]at l;cases l;rw[d.block _ (kj.1 z).1 (by simpa using e)];exact⟨_,_,z⟩
def Qm{f:Fr}{ra:bj}{rl rc:Nat}{wa:bj}{wl wc:Nat}{ba:bj}{bc:Nat}{d:cg}{g:bo}(h:bU B O w mb en aC m k n a s aa al ac ta tl tc na nl nc sv fv us (fs++[yF ra rl rc 67 wa wl wc ba f.aside.length bc])){r:List Fr}(x:m.fr=f::r)(y:f.op=67)(c:cq w d none)(i:sU B O w f.aside (.slice ba f.aside.length bc) g) :
 (d.setCell ⟨mb,14,none⟩ (.slice ba f.aside.length bc)).heap[mb]?=some (.cells (yG en aC m.paid m.aO k n a s aa al ac ta tl tc na nl nc (.slice ba f.aside.length bc) fv) 214)/\sU B O (d.setCell ⟨mb,14,none⟩ (.slice ba f.aside.length bc)) f.aside (.slice ba f.aside.length bc) g/\Src O (d.setCell ⟨mb,14,none⟩ (.slice ba f.aside.length bc)) m.st.reverse sv/\B<=(d.setCell ⟨mb,14,none⟩ (.slice ba f.aside.length bc)).heap.size:=by
 have j:=h.grow c;have b:cq d (d.setCell ⟨mb,14,none⟩ (.slice ba f.aside.length bc)) (some mb):=aX (au _ _) _ _ _;have t:dB O w O (d.setCell ⟨mb,14,none⟩ (.slice ba f.aside.length bc)):=(dB.grow c).trans (dB.ofRow b (λq e=>by cases e;exact h.mine.1));have v:=j.apart;have l:(Value.slice ba f.aside.length bc).ownBlock≠some mb:=aD i.own h.blk ot ∘ Eq.symm;have p:∀q,O q->q≠mb->(d.setCell ⟨mb,14,none⟩ (.slice ba f.aside.length bc)).heap[q]?=w.heap[q]?:=λq o z=>(b.block q (j.high q o) (by simpa using z)).trans (c.block q (h.high q o) oe);refine⟨(nG j.blk _).1,i.kept t λq e=>⟨i.mine q e,p q (i.mine q e) (λu=>l (by rw[<-u];exact e))⟩,sU.src (h.jL.kept t λq e=>⟨h.jL.mine q e,p q (h.jL.mine q e) (v.1 q e).1⟩),?_⟩;have:=h.low _ h.mine.1;have:=h.high _ h.mine.1;have:=c.size;have:=b.size;omega
def qG{f:Fr}{r:List Fr}{st:ao}(h:dm B O w mb en aC m)(U:m.fr=f::r)(u:m.st.length+f.aside.length<=100000000)(V:f.op=0/\st=m.st\/f.op=60/\f.aside=[]/\st=m.st\/(∃v,f.op=65/\m.st=v::st/\kJ v=false)\/f.op=68/\st=f.aside.reverse++m.st\/f.op=67/\st=m.st++f.aside.reverse):Calls prog 190 #[.po mb] w (jK B O w mb en aC (.go { m with st:=st,fr:=r })):=by
 have⟨k,n,a,s,aa,al,ac,ta,tl,tc,na,nl,nc,sv,fv,us,fs,h⟩:=h;obtain⟨g,Q,ah,ra,rc,wa,wc,ba,bc,rfl,T,rfl,hl,aq,hC,hZ,hU,hF⟩:=h.Sb U;have⟨HM,p,HC,l,Z,z⟩:=wg h (λw' (hg:cq w w' none)=>uw (h.grow hg) T) hC U hU u;have K:=λ(w':cg) (h:cq w w' none)=>And.intro (iM (dh HM.blk h)) (HC.keep h oe);unfold C4 at K;have ar:IntKind.i64.wrap (r.length:Int)=r.length:=by unfold maxLen at T;rw[yb];omega
 have aj:cq w w none:=au _ _;have ak:(0:Int)<=(r.length:Int):=od
 have an:(r.length:Int)<=(Q:Int):=od
 clear h hC hZ hU hF T U u;rcases V with⟨e,rfl⟩|⟨e,I,rfl⟩|⟨v,e,I,e3⟩|⟨e,rfl⟩|⟨e,rfl⟩
 all_goals rw[e]at K
 focus
  go_enter func190,ntmps190;go_wp2_with (go_at_call 189;(with_reducible refine (p.out _ oR).mono ?_);rintro e H ⟨rfl,b⟩);have c:=jh (HM.out.grow b);have i:=jh (dB.grow (O:=O) b);have d:=jh (Aw i.out c.out l.out);have o:=jh (c.out.grow (aK (au _ _))).blk
 rotate_left
 focus
  rw[I]at K;simp only[qa1]at K;go_enter func190,ntmps190;go_wp2_with (go_at_call 189;(with_reducible refine (p.out _ oR).mono ?_);rintro e H ⟨rfl,b⟩);have c:=jh (HM.out.grow b);have i:=jh (dB.grow (O:=O) b);have d:=jh (Aw i.out c.out l.out);have o:=jh (c.out.grow (aK (au _ _))).blk
 rotate_left
 focus
  have J:=jh I;have hv:decide (v.n=1)=false:=by simpa[kJ]using e3
  clear I;go_enter func190,ntmps190;go_wp2_with (first
   | (go_at_call 189;(with_reducible refine (p.out _ oR).mono ?_);rintro e w1 ⟨rfl,b⟩)
   | (go_at_call 196;(with_reducible refine (yA (HM.out.grow b) J.out).mono ?_);rintro e w2 ⟨v2,rfl,x,q,W,X,t⟩;obtain⟨k1,n1,a1,s1,ab,ae,ad,bb,fE,bh,ax,aO,az,rfl⟩:=x.bg;obtain rfl:=(qK x).2.1;have L:=jh q;have M:=jh t;clear x q t;unfold bg)
   | (go_at_call 195;(with_reducible refine (K6 _).mono ?_);rintro e H ⟨rfl,D⟩;rw[hv]))
  have c:=jh (M.grow D);have i:=jh ((dB.grow (O:=O) b).trans (L.trans (dB.grow D)));have d:=jh (Aw i c l);have o:=jh (c.grow (aK (au _ _))).blk
 rotate_left
 focus
  have⟨VA,E⟩:=Z.out.open.2.2.2.2.2 od;have P:=jh E;clear E;go_enter func190,ntmps190;go_wp2_with (first
   | (go_at_call 189;(with_reducible refine (p.out _ oR).mono ?_);rintro e w1 ⟨rfl,b⟩)
   | (go_at_call 193;(with_reducible refine (BG (HM.out.grow b) (Src.grow (Src.row P.out) b) z.out).mono ?_);rintro e H ⟨rfl,O9,q,W,X,t⟩;have i:=jh ((dB.grow (O:=O) b).trans q);have c:=jh t;clear q t))
  have d:=jh (Aw i c l);have o:=jh (c.grow (aK (au _ _))).blk
 rotate_left
 focus
  have⟨bl,F⟩:=Z.out.open.2.2.2.2.1 e;have N:=jh F;have Y:=jh e;rw[e]at HM;clear F;go_enter func190,ntmps190;go_wp2_with (first
   | (go_at_call 189;(with_reducible refine (p.out _ oR).mono ?_);rintro e w1 ⟨rfl,b⟩;have zz:=(iM (nG (HM.out.grow b).blk (.slice ba f.aside.length bc)).1).2.2.2.2.2.2.2)
   | (go_at_call 193;have⟨p1,p2,p3,p4⟩:=Qm HM l Y b N;refine (G9 p1 p2 p3 p4 (by have:=z.out;rw[qb3];omega)).mono ?_;clear p1 p2 p3 p4;rintro e H ⟨rfl,v',bk,w4,y,C,A,G⟩;obtain⟨a',c',rfl⟩:=nX y.own;have j:=Ql HM l Y b y C A;rw[<-G]at j;have d:=jh j.1;have o:=jh j.2;clear j y C A G))
 rotate_left
 all_goals
  refine wp_region_held_drew (S:=λ_=>True) oA trivial (λR=>?_);have KX:=iM o;generalize H.drew=WX at KX d|-;refine bu 0 83 ?_;simp only[Act.put,pS];refine bu 1 84 ?_;simp only[Act.put,pS];refine bu 2 85 ?_;simp only[Act.put,pS];refine bu 3 86 ?_;simp only[Act.put,pS];refine bu 5 88 ?_;simp only[Act.put,pS];refine bu 6 89 ?_;simp only[Act.put,pS];refine bu 7 90 ?_;simp only[Act.put,pS];refine qd4 (rs:=[4,8]) oA oe ?_;refine qa4 rfl (λK hK=>?_) (qa4 rfl (λK hK=>?_) qd0)
  focus
   go_simp;refine hK _ _ trivial (λ_=>?_);clear hK K;refine qd4 (rs:=[8]) oA oe ?_;refine qa4 rfl (λK hK=>?_) qd0;go_simp;refine hK _ _ trivial (λ_=>?_);clear hK K
  rotate_left
  focus
   go_simp;refine hK _ _ trivial (λ_=>?_);clear hK K;refine bu 9 92 ?_;simp only[Act.put,pS];refine bu 10 93 ?_;simp only[Act.put,pS];refine qd4 (rs:=[4]) oA oe ?_;refine qa4 rfl (λK hK=>?_) qd0;go_simp;refine hK _ _ trivial (λ_=>?_);clear hK K
  rotate_left
  focus
   refine bu 9 92 ?_;simp only[Act.put,pS];refine bu 10 93 ?_;simp only[Act.put,pS]
  all_goals
   refine bu 11 94 ?_;simp only[Act.put,pS];refine bu 12 95 ?_;simp only[Act.put,pS];refine bu 13 96 ?_;simp only[Act.put,pS];refine qd4 (rs:=[14]) oA oe ?_;refine qa4 rfl (λK hK=>?_) qd0;go_simp;refine hK _ _ trivial (λ_=>?_);clear hK K;refine wpAnyH_done oA ?_ _;go_wp2;go_ret;exact d _ rfl
end
section
variable {B:Nat}{O O1:br}{w w1:cg}{mb:Nat}{en:En}{aC:Int}{m m1:Ma}
def dm.qb{b:Nat}(h:dm B O w mb en aC m)(hb:w.heap.size<=b):¬O b:=λa=>by have:=h.high b a;omega
def jK.ret{o:Out}{e:Ending}{w':cg}(h:jK B O w mb en aC o e w'):∃b,e =.returned (.i b)/\jK B O w mb en aC o (.returned (.i b)) w':=by
 have h0:=h;have⟨O',_,h⟩:=h
 cases o with
 | stuck=>exact h.elim
 | no b m=>have⟨_,a,_⟩:=h;subst a;exact⟨_,rfl,h0⟩
 | go m=>have⟨a,_⟩:=h;subst a;exact⟨_,rfl,h0⟩
def jK.trans{o:Out}{e:Ending}{w':cg}(h:jK B O1 w1 mb en aC o e w')(c:dB O w O1 w1):jK B O w mb en aC o e w':=by have⟨O',a,b⟩:=h;exact⟨O',c.trans a,b⟩
def sG{x:Va}{k n a:Int}{s:bp}{d:bj}{al f:Nat}{ta:bj}{tl tc:Nat}{na:bj}{g nc:Nat}(h:dm B O w mb en aC m)(t:aA (λb=>¬O b) w x (bg k n a s d al f ta tl tc na g nc))(c:bz m [x] ≠ .stuck)(p:m.st.length<=50000000) :
 Calls prog 207 #[.po mb,.o (w.heap.size) 1 1] (w.alloc (.cells #[.i k,.i n,.i a,.string s,.slice d al f,.slice ta tl tc,.slice na g nc] 29)) (jK B O w mb en aC (bz m [x])):=by
 have j:=Lf.gb (w:=w) (.cells #[.i k,.i n,.i a,.string s,.slice d al f,.slice ta tl tc,.slice na g nc] 29);have u:vsizes [x]<=20000000:=by
  unfold bz at c;split at c
  .exact absurd rfl c
  .omega
 have⟨v,y,z,A,C,z5,D⟩:=cO (xF w (.cells #[.i k,.i n,.i a,.string s,.slice d al f,.slice ta tl tc,.slice na g nc] 29));refine (Fh (l:=[x]) (V:=λ_=>bg k n a s d al f ta tl tc na g nc) (h.grow j) ⟨by simp[maxLen],λi o=>?_,λi o=>?_⟩ u ov).mono λe w' r=>r.trans (dB.grow j)
 .obtain rfl:i=0:=by simpa using o
  exact⟨w.heap.size,0,rfl,λq=>by have:=h.high _ q;omega,_,_,_,_,_,_,_,_,_,_,_,_,_,rfl,v,y,z,A,C,z5,D⟩
 .obtain rfl:i=0:=by simpa using o
  exact (dB.grow (O:=O) j).lies t
end
section
variable {B:Nat}{O O':br}{w w':cg}{mb:Nat}{en:En}{aC:Int}{m:Ma}{k n a:Int}{s:bp}{aa:bj}{al ac:Nat}{ta:bj}{tl tc:Nat}{na:bj}{nl nc:Nat}{sv fv:cm}{us fs:bo}
def aT.tail{ok:br}{x:Va}{xs:ao}{b o:Nat}{V:bt}(h:aT ok w (x::xs) (some ⟨b,o,none⟩) V):aT ok w xs (some ⟨b,o+7,none⟩) (λi=>V (i+1)):=by
 refine⟨by have:=h.1;simp only[js]at this;omega,λi q=>?_,λi q=>h.2.2 (i+1) ov⟩;have⟨t,u,e,p,k,n,a,s,aa,al,ac,ta,tl,tc,na,nl,nc,r,c,d,f,g,j,l,m⟩:=h.2.1 (i+1) ov;cases e;have e:o+7+i*7=o+(i+1)*7:=od
 exact⟨b,o+7,rfl,p,k,n,a,s,aa,al,ac,ta,tl,tc,na,nl,nc,r,by rw[e];exact c,by rw[e];exact d,by rw[e];exact f,by rw[e];exact g,by rw[e];exact j,by rw[e];exact l,by rw[e];exact m⟩
def cK.tail{ok:br}{x:Tr}{xs:aE}{b o:Nat}{V:bt}(h:cK ok w (x::xs) (some ⟨b,o,none⟩) V):cK ok w xs (some ⟨b,o+5,none⟩) (λi=>V (i+1)):=by
 refine⟨by have:=h.1;simp only[js]at this;omega,λi r=>?_,λi r=>h.2.2 (i+1) ov⟩;have⟨u,v,e,q,k,n,p,s,a,l,c,t,d,f,g,j,m⟩:=h.2.1 (i+1) ov;cases e;have e:o+5+i*5=o+(i+1)*5:=od
 exact⟨b,o+5,rfl,q,k,n,p,s,a,l,c,t,by rw[e];exact d,by rw[e];exact f,by rw[e];exact g,by rw[e];exact j,by rw[e];exact m⟩
def kU.set{g L cap:Nat}{ra:bj}{rl rc:Nat}{op:Int}{wa:bj}{wl wc:Nat}{ba:bj}{bl bc:Nat}(h:kU B w (.o g (L+1) cap) (fs++[yF ra rl rc op wa wl wc ba bl bc]))(i:fs.length=L)(f:(flat fs).length=L*4)(a:bj)(c b:Nat) :
 (kU B (w.setCell ⟨g,L*4,none⟩ (.slice a c b)) (.o g (L+1) cap) (fs++[yF a c b op wa wl wc ba bl bc]))/\(kU B (w.setCell ⟨g,L*4+3,none⟩ (.slice a c b)) (.o g (L+1) cap) (fs++[yF ra rl rc op wa wl wc a c b])):=by
 unfold kU at h|-;simp only[bV,jx,qe7,i]at h|-;have d:=(h.stored (L*4) (.slice a c b)).1;have e:=(h.stored (L*4+3) (.slice a c b)).1;rw[jf1 _ _ od]at d e;rw[f]at d e;simp only[flat,qd5,jh1,qc4,nodeCells,yF,Nat.sub_self,Nat.add_sub_cancel_left,yW,xT]at d e|-;exact⟨d,e⟩
def bU.G5(h:bU B O w mb en aC m k n a s aa al ac ta tl tc na nl nc sv fv us fs):dm B O w mb en aC m:=⟨_,_,_,_,_,_,_,_,_,_,_,_,_,_,_,_,_,h⟩
def bU.DJ{f:Fr}{r:List Fr}{u:cm}(h:bU B O w mb en aC m k n a s aa al ac ta tl tc na nl nc sv fv us (fs++[u]))(b:m.fr=f::r):wU B O w f u:=by have c:=h.sZ;rw[b,qd1]at c;exact c.split.2
def bU.reset{f:Fr}{r:List Fr}{g cap:Nat}{ra:bj}{rc:Nat}{wa:bj}{wc:Nat}{ba:bj}{bc:Nat}{c:bj}{d:Nat}{rest:aE}{V:bt}(h:bU B O w mb en aC m k n a s aa al ac ta tl tc na nl nc sv (.o g (r.length+1) cap) us (fs++[yF ra f.rest.length rc f.op wa f.row.length wc ba f.aside.length bc]))(e:m.fr=f::r)(v:fs.length=r.length)(j:(flat fs).length=r.length*4)
 (hR:cK (λb=>¬O b) w rest c V) (hc:rest.length<=d) :
 bU B O (w.setCell ⟨g,r.length*4,none⟩ (.slice c rest.length d)) mb en aC { m with fr:=⟨rest,f.op,f.row,f.aside⟩::r } k n a s aa al ac ta tl tc na nl nc sv (.o g (r.length+1) cap) us (fs++[yF c rest.length d f.op wa f.row.length wc ba f.aside.length bc]):=by
 have⟨o,p,x,q,t,u⟩:=(h.DJ e).open;have⟨l,i⟩:=q;refine h.Wn (f':=⟨rest,f.op,f.row,f.aside⟩) e (aX (au _ _) _ _ _) (kU.set h.own v j _ _ _).1 ?_ rfl;exact⟨c,d,wa,wc,ba,bc,V,l,rfl,o,⟨hc,p.2⟩,hR,i,t,u⟩
def bU.XB{f:Fr}{r:List Fr}{g cap:Nat}{ra:bj}{rc:Nat}{wa:bj}{wc:Nat}{ba:bj}{bc:Nat}{ba':bj}{bc':Nat}{aside:ao}{V:bt}(h:bU B O w mb en aC m k n a s aa al ac ta tl tc na nl nc sv (.o g (r.length+1) cap) us (fs++[yF ra f.rest.length rc f.op wa f.row.length wc ba f.aside.length bc]))(c:m.fr=f::r)(v:fs.length=r.length)(j:(flat fs).length=r.length*4)
 (hop:f.op≠67) (hA:aT (λb=>¬O b) w aside ba' V) (hc:aside.length<=bc') :
 bU B O (w.setCell ⟨g,r.length*4+3,none⟩ (.slice ba' aside.length bc')) mb en aC { m with fr:=⟨f.rest,f.op,f.row,aside⟩::r } k n a s aa al ac ta tl tc na nl nc sv (.o g (r.length+1) cap) us (fs++[yF ra f.rest.length rc f.op wa f.row.length wc ba' aside.length bc']):=by
 have⟨q,l,t,u,x,y⟩:=(h.DJ c).open;have⟨o,d⟩:=t;have⟨p,i⟩:=u;refine h.Wn (f':=⟨f.rest,f.op,f.row,aside⟩) c (aX (au _ _) _ _ _) (kU.set h.own v j _ _ _).2 ?_ (by unfold lM;rw[if_neg hop,if_neg hop]);exact⟨ra,rc,wa,wc,ba',bc',o,p,rfl,q,⟨l.1,l.2.1,hc⟩,d,i,λe=>absurd e hop,λ_=>⟨V,hA⟩⟩
def JL{f:Fr}{r:List Fr}{st:ao}{v:Va}(h:dm B O w mb en aC m)(F:m.fr=f::r)(e:f.op=65)(G:m.st=v::st)(X:kJ v):Calls prog 190 #[.po mb] w (jK B O w mb en aC (uH aC { m with st:=st,fr:=⟨f.row,f.op,f.row,f.aside⟩::r } .go)):=by
 have⟨k,n,a,s,aa,al,ac,ta,tl,tc,na,nl,nc,sv,fv,us,fs,h⟩:=h;obtain⟨g,W,Y,ra,rc,wa,wc,ba,bc,rfl,J,rfl,L,x,H,hZ,hU,hF⟩:=h.Sb F;have⟨HM,E,N,d,HL,j⟩:=wg h (λw' (hg:cq w w' none)=>uw (h.grow hg) J) H F L x;have K:=λ(w':cg) (h:cq w w' none)=>And.intro (iM (dh HM.blk h)) (N.keep h oe);unfold C4 at K;rw[e]at K;have Z:cq w w none:=au _ _;have A:=jh G;have hv:decide (v.n=1):=by simpa[kJ]using X
 clear h H hZ hU hF J F G L x;generalize I:jK B O w mb en aC (uH aC { m with st:=st,fr:=⟨f.row,f.op,f.row,f.aside⟩::r } .go)=Q;have S:=jh I;clear I;go_enter func190,ntmps190;go_wp2_with (first
  | (go_at_call 189;(with_reducible refine (E.out _ oR).mono ?_);rintro e w1 ⟨rfl,t⟩)
  | (go_at_call 196;(with_reducible refine (yA (HM.out.grow t) A.out).mono ?_);rintro e w2 ⟨v2,rfl,i,o,ah,an,p⟩;obtain⟨k1,n1,a1,s1,T,V,U,aj,fE,ak,ab,ae,ad,rfl⟩:=i.bg;obtain rfl:=(qK i).2.1;have C:=jh ((dB.grow (O:=O) t).trans o);have l:=jh p;clear i o p;unfold bg)
  | (go_at_call 195;(with_reducible refine (K6 _).mono ?_);rintro e w3 ⟨rfl,c⟩;rw[hv];have z:=(l.out.grow c).Jj HL.out j.out;unfold C4 at z;have b:=jh (l.out.grow c);have D:=jh ((C.out.trans (dB.grow c)).trans (dB.ofRow (r:=some g) (aX (au _ _) (r.length*4) none (.slice wa f.row.length wc)) (λq e=>by cases e;exact b.out.mine.2 _ rfl)));have⟨VW,u⟩:=(b.out.DJ d.out).open.2.2.2.1;have R:=jh (Ff ((b.out.reset d.out HL.out j.out u (b.out.DJ d.out).open.2.1.2.1).G5));clear c u)
  | (go_at_call 194;(with_reducible refine R.out.mono ?_);rintro e w9 M;obtain⟨er,rfl,y⟩:=(M.trans D.out).ret;have P:=jh y;clear M y))
 rw[<-S.out];exact P
def JK{f:Fr}{r:List Fr}{x:Va}{l:ao}(h:dm B O w mb en aC m)(hf:m.fr=f::r)(e:f.op=60)(e2:f.aside=x::l)(j:m.st.length<=50000000):Calls prog 190 #[.po mb] w (jK B O w mb en aC (uH aC { m with st:=x::m.st,fr:=⟨f.row,f.op,f.row,l⟩::r } .go)):=by
 have⟨k,n,a,s,aa,al,ac,ta,tl,tc,na,nl,nc,sv,fv,us,fs,h⟩:=h;obtain⟨g,ad,ae,ra,rc,wa,wc,ba,v,rfl,hc,rfl,hl,I,hC,hZ,hU,hF⟩:=h.Sb hf;have⟨HM,T,HC,S,HL,p⟩:=wg h (λw' (hg:cq w w' none)=>uw (h.grow hg) hc) hC hf hl I;have⟨VA,d⟩:=hU.open.2.2.2.2.2 od;have H:=hU.open.2.1.2.2;rw[e2]at d H;have⟨b,o,eb,hb,kk,nn,aq,ss,ab,bl,bq,tb,ul,uc,nb,ml,mc,ev,Y,Z,c2,c3,c4,c5,c6⟩:=d.2.1 0 oe;have L:=d.2.2 0 oe;rw[ev]at L;subst eb;simp only[jh3,qf3,List.getElem_cons_zero]at Y Z c2 c3 c4 c5 c6 L;have HX:=jh L;have X:=jh d;have M:Hid (C7 w b o kk nn aq ss ab bl bq tb ul uc nb ml mc):=⟨Y,Z,c2,c3,c4,c5,c6⟩;have K:=λ(w':cg) (h:cq w w' none)=>And.intro (iM (dh HM.blk h)) (And.intro (HC.keep h oe) (M.keep h oe));unfold C4 C7 at K;rw[e,e2]at K;have ah:cq w w none:=au _ _;have⟨U,HE,N⟩:=JT j e e2;simp only[js]at K H;have d1:(0:Int)<(l.length:Int)+1:=od
 have d2:(1:Int)<=(l.length:Int)+1:=od
 have d3:(l.length:Int)+1<=(v:Int):=od
 clear h hC hZ hU hF hc hf hl I j d L Y Z c2 c3 c4 c5 c6 ev;generalize hQ:jK B O w mb en aC (uH aC { m with st:=x::m.st,fr:=⟨f.row,f.op,f.row,l⟩::r } .go)=Q;have HQ:=jh hQ;clear hQ;go_enter func190,ntmps190;go_wp2_with (first
  | (go_at_call 189;(with_reducible refine (T.out _ oR).mono ?_);rintro e w1 ⟨rfl,u⟩)
  | (go_at_call 193;(with_reducible refine (BG (HM.out.grow (Lf.Zt u (Lf.gb _))) (Src.one ((dB.grow u).lies HX.out)) (by have:=U.out;simp only[js,qa1];omega)).mono ?_);rintro e w2 ⟨rfl,O2,D,aj,ak,t⟩;have z:=t.Jj HL.out p.out;unfold C4 at z;have C:=jh t;have y:=jh ((dB.grow (O:=O) (Lf.Zt u (Lf.gb _))).trans D);clear D t))
 rw[HE.out,N.out]at z;simp only[js]at z;have⟨A,hA,c⟩:∃A:Addr,(if v=1 then some (⟨b,o,none⟩:Addr)else some ⟨b,o+7,none⟩)=some A/\∃V,aT (λb=>¬O2 b) w2 l (some A) V:=by
  have h2:=y.out.U5 X
  by_cases hh:v=1
  .exact⟨_,if_pos hh,VA,by rw[jz (by omega:l.length=0)];exact aT.nil _ _ _ _⟩
  .exact⟨_,if_neg hh,_,h2.tail⟩
 have W:=jh c;clear c
 go_big_region
 have⟨V,c⟩:=W.out;have i:=C.out.XB (ba':=some A) (bc':=v - 1) (aside:=l) S.out HL.out p.out (by rw[HE.out];decide) c od;have⟨VW,G⟩:=(i.DJ (f:=⟨f.rest,f.op,f.row,l⟩) rfl).open.2.2.2.1;have E:=i.reset (f:=⟨f.rest,f.op,f.row,l⟩) rfl HL.out p.out G (i.DJ (f:=⟨f.rest,f.op,f.row,l⟩) rfl).open.2.1.2.1;have F:=E.grow (aK (au _ _));have R:=jh (y.out.trans (dB.ofRow (r:=some g) (aK (aX (aX (au _ _) (r.length*4+3) none (.slice (some A) l.length (v - 1))) (r.length*4) none (.slice wa f.row.length wc))) (λq e=>by cases e;exact C.out.mine.2 _ rfl)));have HP:Hid (Calls prog 194 #[.po mb] ((w2.setCell ⟨g,r.length*4+3,none⟩ (.slice (some A) l.length (v - 1))).setCell ⟨g,r.length*4,none⟩ (.slice wa f.row.length wc)).drew _):=Ff (m:={ m with st:=x::m.st,fr:=⟨f.row,f.op,f.row,l⟩::r }) F.G5;clear c i G E F;go_wp2_with ((go_at_call 194;(with_reducible refine HP.out.mono ?_);rintro e w9 hq;obtain⟨er,rfl,J⟩:=(hq.trans R.out).ret;have P:=jh J;clear hq J));rw[<-HQ.out];exact P.out
end
def qJ{ok:br}{w:cg}{k n a:Int}{s:bp}(e:bD k)(c:bD n)(d:bD a)(b:s.size<=maxLen):aA ok w (.mk k n a s [] [] []) (bg k n a s none 0 0 none 0 0 none 0 0) :=
 aA.of (args:=[]) (types:=[]) (code:=[]) (V:=λ_=>.i 0) (VT:=λ_=>.i 0) (VN:=λ_=>.i 0) oe b e c d (aT.nil _ _ _ _) (dw.nil _ _ _ _) (cK.nil _ _ _ _)
def jK.kept{B:Nat}{O:br}{w w':cg}{f:Nat}{en:En}{aC:Int}{o:Out}{e:Ending}{b:Nat}{ob:Option Obj}(h:jK B O w f en aC o e w')(hb:b<w.heap.size)(a:¬O b)(d:w.heap[b]?=ob):w'.heap[b]?=ob:=by have⟨O',c,_⟩:=h;exact (c.block b hb a).trans d
section
variable {B:Nat}{O:br}{w:cg}{mb:Nat}{en:En}{aC:Int}{m:Ma}
def dm.env(h:dm B O w mb en aC m):w.cell? ⟨mb,0,none⟩=some (.i en.self)/\w.cell? ⟨mb,1,none⟩=some (.i en.sender)/\w.cell? ⟨mb,2,none⟩=some (.i en.amount)/\w.cell? ⟨mb,3,none⟩=some (.i en.balance):=by have⟨k,n,a,s,aa,al,ac,ta,tl,tc,na,nl,nc,sv,fv,us,fs,h⟩:=h;have⟨b,c,d,e,_⟩:=iM h.blk;exact⟨b,c,d,e⟩
def RD{st:ao}{t:Tr}{nk C:Int}{ns:bp}{na:bj}{A nc:Nat}(r:t.p0=89)(l:bD en.self)(h:dm B O w mb en aC m)(a:m.st=st)(c:iw en t m ≠ .stuck)(b:m.st.length<=50000000):Calls prog 206 #[.po mb,.agg #[.i nk,.i C,.i 89,.string ns,.slice na A nc]] w (jK B O w mb en aC (iw en t m)):=by
 have p:iw en t m=bz { m with st:=st } [aW 7 en.self]:=by subst a;simp only[iw,r,Int.reduceEq,↓reduceIte]
 rw[p]at c|-;have HM:=jh (show dm B O w mb en aC { m with st:=st } by rw[<-a];exact h);have u:=jh (dB.refl O w);have g:Hid (st.length<=50000000):=by rw[a]at b;exact (by omega:st.length<=50000000)
 have j:=jh c;have HI:=jh l;clear r l p h a c b;generalize n:jK B O w mb en aC (bz { m with st:=st } [aW 7 en.self])=Q;have y:=jh n;clear n;have K:=λ(w':cg) (h:cq w w' none)=>(HM.grow h).env;have z:cq w w none:=au _ _;have E:=λ(w':cg) (o:Obj) (h:cq w w' none)=>Lf.Zt h (Lf.gb o);go_enter func206,ntmps206;go_wp2_with (first
  | (go_at_call 214;(with_reducible refine (r9 _ _ _).mono ?_);rintro e F ⟨rfl,d⟩;have d:=Lf.Zt (Lf.gb _) d;have v:=jh d;have k:=jh (sG (x:=aW 7 en.self) (HM.out.grow d) (qJ On HI.out On (yv _)) j.out g.out);unfold bg at k;clear d;unfold bg)
  | (go_at_call 207;(with_reducible refine k.out.mono ?_);rintro e G q;obtain⟨D,rfl,f⟩:=(q.trans (u.out.trans (dB.grow v.out))).ret;have s:=jh f;clear q f))
 rw[<-y.out];exact s
def RF{st:ao}{t:Tr}{nk C:Int}{ns:bp}{na:bj}{A nc:Nat}(r:t.p0=90)(l:bD en.sender)(h:dm B O w mb en aC m)(a:m.st=st)(c:iw en t m ≠ .stuck)(b:m.st.length<=50000000):Calls prog 206 #[.po mb,.agg #[.i nk,.i C,.i 90,.string ns,.slice na A nc]] w (jK B O w mb en aC (iw en t m)):=by
 have p:iw en t m=bz { m with st:=st } [aW 7 en.sender]:=by subst a;simp only[iw,r,Int.reduceEq,↓reduceIte]
 rw[p]at c|-;have HM:=jh (show dm B O w mb en aC { m with st:=st } by rw[<-a];exact h);have u:=jh (dB.refl O w);have g:Hid (st.length<=50000000):=by rw[a]at b;exact (by omega:st.length<=50000000)
 have j:=jh c;have HI:=jh l;clear r l p h a c b;generalize n:jK B O w mb en aC (bz { m with st:=st } [aW 7 en.sender])=Q;have y:=jh n;clear n;have K:=λ(w':cg) (h:cq w w' none)=>(HM.grow h).env;have z:cq w w none:=au _ _;have E:=λ(w':cg) (o:Obj) (h:cq w w' none)=>Lf.Zt h (Lf.gb o);go_enter func206,ntmps206;go_wp2_with (first
  | (go_at_call 214;(with_reducible refine (r9 _ _ _).mono ?_);rintro e F ⟨rfl,d⟩;have d:=Lf.Zt (Lf.gb _) d;have v:=jh d;have k:=jh (sG (x:=aW 7 en.sender) (HM.out.grow d) (qJ On HI.out On (yv _)) j.out g.out);unfold bg at k;clear d;unfold bg)
  | (go_at_call 207;(with_reducible refine k.out.mono ?_);rintro e G q;obtain⟨D,rfl,f⟩:=(q.trans (u.out.trans (dB.grow v.out))).ret;have s:=jh f;clear q f))
 rw[<-y.out];exact s
def RG{st:ao}{t:Tr}{nk C:Int}{ns:bp}{na:bj}{A nc:Nat}(r:t.p0=91)(l:bD en.amount)(h:dm B O w mb en aC m)(a:m.st=st)(c:iw en t m ≠ .stuck)(b:m.st.length<=50000000):Calls prog 206 #[.po mb,.agg #[.i nk,.i C,.i 91,.string ns,.slice na A nc]] w (jK B O w mb en aC (iw en t m)):=by
 have p:iw en t m=bz { m with st:=st } [aW 5 en.amount]:=by subst a;simp only[iw,r,Int.reduceEq,↓reduceIte]
 rw[p]at c|-;have HM:=jh (show dm B O w mb en aC { m with st:=st } by rw[<-a];exact h);have u:=jh (dB.refl O w);have g:Hid (st.length<=50000000):=by rw[a]at b;exact (by omega:st.length<=50000000)
 have j:=jh c;have HI:=jh l;clear r l p h a c b;generalize n:jK B O w mb en aC (bz { m with st:=st } [aW 5 en.amount])=Q;have y:=jh n;clear n;have K:=λ(w':cg) (h:cq w w' none)=>(HM.grow h).env;have z:cq w w none:=au _ _;have E:=λ(w':cg) (o:Obj) (h:cq w w' none)=>Lf.Zt h (Lf.gb o);go_enter func206,ntmps206;go_wp2_with (first
  | (go_at_call 214;(with_reducible refine (r9 _ _ _).mono ?_);rintro e F ⟨rfl,d⟩;have d:=Lf.Zt (Lf.gb _) d;have v:=jh d;have k:=jh (sG (x:=aW 5 en.amount) (HM.out.grow d) (qJ On HI.out On (yv _)) j.out g.out);unfold bg at k;clear d;unfold bg)
  | (go_at_call 207;(with_reducible refine k.out.mono ?_);rintro e G q;obtain⟨D,rfl,f⟩:=(q.trans (u.out.trans (dB.grow v.out))).ret;have s:=jh f;clear q f))
 rw[<-y.out];exact s
def RH{st:ao}{t:Tr}{nk C:Int}{ns:bp}{na:bj}{A nc:Nat}(r:t.p0=92)(l:bD en.balance)(h:dm B O w mb en aC m)(a:m.st=st)(c:iw en t m ≠ .stuck)(b:m.st.length<=50000000):Calls prog 206 #[.po mb,.agg #[.i nk,.i C,.i 92,.string ns,.slice na A nc]] w (jK B O w mb en aC (iw en t m)):=by
 have p:iw en t m=bz { m with st:=st } [aW 5 en.balance]:=by subst a;simp only[iw,r,Int.reduceEq,↓reduceIte]
 rw[p]at c|-;have HM:=jh (show dm B O w mb en aC { m with st:=st } by rw[<-a];exact h);have u:=jh (dB.refl O w);have g:Hid (st.length<=50000000):=by rw[a]at b;exact (by omega:st.length<=50000000)
 have j:=jh c;have HI:=jh l;clear r l p h a c b;generalize n:jK B O w mb en aC (bz { m with st:=st } [aW 5 en.balance])=Q;have y:=jh n;clear n;have K:=λ(w':cg) (h:cq w w' none)=>(HM.grow h).env;have z:cq w w none:=au _ _;have E:=λ(w':cg) (o:Obj) (h:cq w w' none)=>Lf.Zt h (Lf.gb o);go_enter func206,ntmps206;go_wp2_with (first
  | (go_at_call 214;(with_reducible refine (r9 _ _ _).mono ?_);rintro e F ⟨rfl,d⟩;have d:=Lf.Zt (Lf.gb _) d;have v:=jh d;have k:=jh (sG (x:=aW 5 en.balance) (HM.out.grow d) (qJ On HI.out On (yv _)) j.out g.out);unfold bg at k;clear d;unfold bg)
  | (go_at_call 207;(with_reducible refine k.out.mono ?_);rintro e G q;obtain⟨D,rfl,f⟩:=(q.trans (u.out.trans (dB.grow v.out))).ret;have s:=jh f;clear q f))
 rw[<-y.out];exact s
end
section
variable {B:Nat}{O O':br}{w w':cg}{mb:Nat}{en:En}{aC:Int}{m:Ma}{k n a:Int}{s:bp}{aa:bj}{al ac:Nat}{ta:bj}{tl tc:Nat}{na:bj}{nl nc:Nat}{sv fv:cm}{us fs:bo}
def C5 (w:cg) (b o:Nat) (k n p:Int) (s:bp) (a:bj) (l c:Nat):Prop:=w.cell? ⟨b,o,none⟩=some (.i k)/\w.cell? ⟨b,o+1,none⟩=some (.i n)/\w.cell? ⟨b,o+2,none⟩=some (.i p)/\w.cell? ⟨b,o+3,none⟩=some (.string s)/\w.cell? ⟨b,o+4,none⟩=some (.slice a l c)
def C5.keep{w w':cg}{r:Option Nat}{g o:Nat}{k n p:Int}{s:bp}{a:bj}{l c:Nat}(h:C5 w g o k n p s a l c)(b:cq w w' r)(d:some g≠r):C5 w' g o k n p s a l c:=⟨kc h.1 b d,kc h.2.1 b d,kc h.2.2.1 b d,kc h.2.2.2.1 b d,kc h.2.2.2.2 b d⟩
def C5.YS{w w':cg}{g o:Nat}{k n p:Int}{s:bp}{a:bj}{l c:Nat}(h:C5 w g o k n p s a l c)(d:dB O w O' w')(b:¬O g):C5 w' g o k n p s a l c:=by have : ∀{o v},w.cell? ⟨g,o,none⟩=some v->w'.cell? ⟨g,o,none⟩=some v:=λ{o v} h=>(ke (d.block g (qb7 w _ h) b)).trans h;exact⟨this h.1,this h.2.1,this h.2.2.1,this h.2.2.2.1,this h.2.2.2.2⟩
def BI{ok:br}{t:Tr}{k n p:Int}{s:bp}{a:bj}{l c:Nat}(h:bI ok w t (af k n p s a l c))(i:Nat)(hi:i<t.args0.length) :
 ∃b o f j p' m a' g d,a=some ⟨b,o,none⟩/\l=t.args0.length/\ok b/\C5 w b (o+i*5) f j p' m a' g d/\bI ok w (dK t i) (af f j p' m a' g d):=by
 have⟨C,D,V,e,_,q⟩:=h.yX;unfold af at e;simp only[ja5,jc3,qa5,ye,and_true]at e;obtain⟨_,_,_,_,rfl,rfl,rfl⟩:=e;have⟨b,o,e,A,f,j,p',m,a',g,d,B,u,v,x,y,z⟩:=q.2.1 i hi;have r:=q.2.2 i hi;rw[B]at r;refine⟨b,o,f,j,p',m,a',g,d,e,rfl,A,⟨u,v,x,y,z⟩,?_⟩;unfold dK;rw[qu hi];exact r
def vo{ok:br}{t:Tr}{k n p:Int}{s:bp}{a:bj}{l c:Nat}(h:bI ok w t (af k n p s a l c)):k=t.k0/\n=t.n0/\p=t.p0/\l=t.args0.length/\bD n:=by have⟨d,f,V,e,b,g⟩:=h.yX;unfold af at e;simp only[ja5,jc3,qa5,ye,Value.int.injEq,true_and,and_true]at e;obtain⟨rfl,rfl,rfl,_,rfl,rfl,rfl⟩:=e;exact⟨rfl,rfl,rfl,rfl,b.2.1⟩
def kI (k n p:Int) (s:bp) (a:bj) (l c:Nat):Obj:=.cells #[.i k,.i n,.i p,.string s,.slice a l c] 62
def SN (p q:Nat) (x y:Obj) (w:cg):Prop:=w.heap[p]?=some x/\w.heap[q]?=some y
def SN.grow{p q:Nat}{x y:Obj}(h:SN p q x y w)(a:cq w w' none):SN p q x y w':=⟨dh h.1 a,dh h.2 a⟩
def SN.alloc{p q:Nat}{x y o:Obj}(h:SN p q x y w):SN p q x y (w.alloc o):=h.grow (Lf.gb _)
def SN.YS{p q:Nat}{x y:Obj}(h:SN p q x y w)(a:dB O w O' w')(b:¬O p)(c:¬O q):SN p q x y w':=⟨(a.block p (kj.1 h.1).1 b).trans h.1,(a.block q (kj.1 h.2).1 c).trans h.2⟩
def SN.ZG{p q:Nat}{x y:Obj}{o:Out}{e:Ending}(h:SN p q x y w)(a:jK B O w mb en aC o e w')(b:¬O p)(c:¬O q):SN p q x y w':=by have⟨O',a,_⟩:=a;exact h.YS a b c
def SN.cell{p q:Nat}{x y:Obj}{i:Nat}{v:cm}(h:SN p q x y w)(a:SN p q x y w')(hc:w.cell? ⟨q,i,none⟩=some v):w'.cell? ⟨q,i,none⟩=some v:=(ke (a.2.trans h.2.symm)).trans hc
def SN.of{p q i:Nat}{x:Obj}{v:cm}(h:w.heap[p]?=some x)(hc:w.cell? ⟨q,i,none⟩=some v):∃y,SN p q x y w:=⟨_,h,qc7 (qb7 w _ hc)⟩
def sU.mid{c l2:ao}{x:Va}{v:cm}(h:sU B O w (c++x::l2) v us):∃g cap u1 u2 k n a s aa al ac ta tl tc na nl nc,v =.o g (c.length+1+l2.length) cap/\(c.length+1+l2.length<=cap/\cap<=maxLen)/\us=u1++bg k n a s aa al ac ta tl tc na nl nc::u2/\u1.length=c.length/\u2.length=l2.length /\
 aA (λb=>¬O b) w x (bg k n a s aa al ac ta tl tc na nl nc)/\C7 w g (c.length*7) k n a s aa al ac ta tl tc na nl nc/\(flat u1).length=c.length*7/\(flat u2).length=l2.length*7/\(∀y∈flat u2,y.oneCell'):=by
 have F:=h.len;simp only[jx,js]at F;obtain⟨u1,u,u2,rfl,f,l⟩:∃u1 u u2,us=u1++u::u2/\u1.length=c.length/\u2.length=l2.length:=by refine⟨us.take c.length,us[c.length]'od,us.drop (c.length+1),?_,ov,ov⟩;rw[<-km od,qc6]
 have t:=h.lies c.length x u oe (by rw[<-f];simp);obtain⟨k,n,a,s,aa,al,ac,ta,tl,tc,na,nl,nc,rfl⟩:=t.bg;have r:=mO h.len h.lies;have C:=lL (λu o=>r u (jb6 _ o));have q:=lL (λu o=>r u (ka2 _ (jf7 _ o)));have i:=h.own;unfold dF at i;have m:(u1++bg k n a s aa al ac ta tl tc na nl nc::u2).length=c.length+1+l2.length:=ov
 rw[m]at i;obtain⟨g,cap,rfl,_⟩:=BO i (by rintro rfl;have:=i.2;simp at this);have D:=BH i;refine⟨g,cap,u1,u2,k,n,a,s,aa,al,ac,ta,tl,tc,na,nl,nc,rfl,D,rfl,f,l,t,?_,by rw[C.1,f],by rw[q.1,l],q.2⟩;have e:flat (u1++bg k n a s aa al ac ta tl tc na nl nc::u2)=flat u1++(nodeCells (bg k n a s aa al ac ta tl tc na nl nc)++flat u2):=by rw[bV];rfl
 rw[e]at i;have d:∀j y,(nodeCells (bg k n a s aa al ac ta tl tc na nl nc))[j]?=some y->w.cell? ⟨g,c.length*7+j,none⟩=some y:=λj y z=>by have E:=(qT.1 z).1;have G:(nodeCells (bg k n a s aa al ac ta tl tc na nl nc)).length=7:=rfl;have⟨x,p,A⟩:=mh i (c.length*7+j) (by rw[jx,jx];omega);rw[xf od,zd od,show c.length*7+j - (flat u1).length=j by omega,z]at p;cases p;exact A
 exact⟨d 0 _ rfl,d 1 _ rfl,d 2 _ rfl,d 3 _ rfl,d 4 _ rfl,d 5 _ rfl,d 6 _ rfl⟩
def QJ{t:Tr}{nk C:Int}{ns:bp}{H:bj}{I d:Nat}{v:Va}{p q:ao}(hT:bI (λb=>¬O b) w t (af nk C 41 ns H I d))(ha:0<t.args0.length)(hN:(dK t 0).n0=(p.length:Int)+1)(h:dm B O w mb en aC m)(A:m.st=p++v::q)(F:bz m [v] ≠ .stuck)(f:m.st.length<=50000000) :
 Calls prog 197 #[.po mb,af nk C 41 ns H I d] w (jK B O w mb en aC (bz m [v])):=by
 have T:=h;have⟨k,n,a,s,aa,al,ac,ta,tl,tc,na,nl,nc,sv,fv,us,fs,h⟩:=h;have V:=h.jL;rw[A,qg5,qd1,qa3,jb1]at V;obtain⟨g,ah,u1,u2,k1,n1,a1,s1,ab,ae,ad,aq,fE,ar,aj,an,ak,rfl,X,rfl,Y,Z,hx,U,_,_,_⟩:=V.mid;obtain⟨b,o,k2,n2,p2,s2,a2,l2,c2,rfl,rfl,hb,l,hA⟩:=BI hT 0 ha;have⟨_,E,_⟩:=vo hA;rw[hN]at E;subst E;simp only[qb3,jh3,qf3]at X U l h;have⟨L,hL⟩:∃L,q.length+1+p.length=L:=⟨_,rfl⟩;rw[hL]at h X;have hw:IntKind.i64.wrap ((L:Int) - ((p.length:Int)+1))=(q.length:Int):=by
  have : L<=100000000:=by rw[A]at f;simp only[jx,js]at f;omega
  rw[yb];omega
 have q1:(q.length:Int)<(L:Int):=od
 have q2:(0:Int)<=(q.length:Int):=od
 have q3:(0:Int)<(t.args0.length:Int):=od
 generalize q.length=Q at *;have u:=Lf.gb (w:=w) (.cells #[.i nk,.i C,.i 41,.string ns,.slice (some ⟨b,o,none⟩) t.args0.length d] 62);have⟨D,HM,HC,J,HP,j,M,P⟩:=wj (xF w (.cells #[.i nk,.i C,.i 41,.string ns,.slice (some ⟨b,o,none⟩) t.args0.length d] 62)) h U l (sG (T.grow (aK u)) ((dB.grow (aK u)).lies hx) F f) u T hb;clear T h V hx U l hb hA F f A hN hL hT Y Z X;unfold af;generalize hQ:jK B O w mb en aC (bz m [v])=Q0;have HQ:=jh hQ;clear hQ;go_enter func197,ntmps197;go_wp2_with fail;generalize w.alloc _=W1 at *;have⟨y0,y1,y2,y3,y4⟩:=bE D;have z:=iM (dh HM.blk j);have z7:=HC.out.keep j oe;have z5:=J.out.keep j oe;unfold C7 at z7;unfold C5 at z5;have N:=jh (M.qb (jj _));have⟨y,r⟩:=SN.of (x:=kI nk C 41 ns (some ⟨b,o,none⟩) t.args0.length d) D z5.2.1;have R:=jh r;have K:=λ(w':cg) (h:SN w.heap.size b (kI nk C 41 ns (some ⟨b,o,none⟩) t.args0.length d) y w')=>And.intro (bE h.1) (R.cell h z5.2.1);refine wp_region_held_drew (S:=SN w.heap.size b (kI nk C 41 ns (some ⟨b,o,none⟩) t.args0.length d) y) oA (r.grow (aK (au _ _))) (λc=>?_);clear r;refine bu 0 18 ?_;simp only[Act.put,pS];refine bu 1 19 ?_;simp only[Act.put,pS];refine bu 2 20 ?_;simp only[Act.put,pS];refine bu 3 21 ?_;simp only[Act.put,pS];refine bu 5 23 ?_;simp only[Act.put,pS];refine bu 6 24 ?_;simp only[Act.put,pS];refine bu 7 25 ?_;simp only[Act.put,pS];refine bu 10 28 ?_;simp only[Act.put,pS];refine bu 11 29 ?_;simp only[Act.put,pS];refine bu 12 30 ?_;simp only[Act.put,pS];refine bu 13 31 ?_;simp only[Act.put,pS];refine bu 14 32 ?_;simp only[Act.put,pS];refine qd4 (rs:=[4,8]) oA oe ?_;refine qa4 rfl (λK hK=>?_) (qa4 rfl (λK hK=>?_) qd0)
 focus
  go_simp;refine hK _ _ c (λ_=>?_);clear hK K;refine qd4 (rs:=[8]) oA oe ?_;refine qa4 rfl (λK hK=>?_) qd0;go_simp;refine hK _ _ c (λ_=>?_);clear hK K;refine bu 9 27 ?_;simp only[Act.put,pS];refine bu 15 33 ?_;simp only[Act.put,pS];refine bu 16 34 ?_;simp only[Act.put,pS]
 rotate_left
 focus
  go_simp;refine hK _ _ c (λ_=>?_);clear hK K;refine bu 9 27 ?_;simp only[Act.put,pS];refine bu 15 33 ?_;simp only[Act.put,pS];refine qd4 (rs:=[4]) oA oe ?_;refine qa4 rfl (λK hK=>?_) qd0;go_simp;refine hK _ _ c (λ_=>?_);clear hK K;refine bu 16 34 ?_;simp only[Act.put,pS]
 all_goals
  refine qd4 (rs:=[17]) oA oe ?_;refine qa4 rfl (λK hK=>?_) qd0;go_simp;refine hK _ _ c (λ_=>?_);clear hK K;refine qd4 (rs:=[18]) oA oe ?_;refine qa4 rfl (λK hK=>?_) qd0;go_simp;refine hK _ _ c.alloc (λ_=>?_);clear hK K;refine qd4 (rs:=[19]) oA oe ?_;refine qa4 rfl (λK hK=>?_) qd0;go_simp;refine HP.mono ?_;rintro e w9 hq;have W:=SN.ZG c hq N P;obtain⟨er,rfl,G⟩:=(hq.trans (dB.grow (aK j))).ret;have HE:=jh G;clear hq G;refine hK _ _ W (λ_=>?_);clear hK K;refine bu 20 4 ?_;simp only[Act.put,pS];refine wpAnyH_done oA ?_ _;go_wp2_with fail;rw[<-HQ.out];exact HE
def sU.cut{a l2:ao}{x:Va}{v v' u:cm}{u1 u2:bo}(h:sU B O w (a++x::l2) v (u1++u::u2))(k:u1.length=a.length)(e:dB O w O' w')(j:dF B w' v' (u1++u2))(hm:∀g,v'.ownBlock=some g->O' g):sU B O' w' (a++l2) v' (u1++u2):=by
 have d:=h.len;simp only[jx,js]at d;refine⟨j,by simp only[jx];omega,λi y z b c=>e.lies ?_,hm⟩
 by_cases f:i<a.length
 .exact h.lies i y z (by rw[zd f]at b|-;exact b) (by rw[zd od]at c|-;exact c)
 .rw[xf od]at b c;refine h.lies (i+1) y z ?_ ?_
  .rw[xf od,show i+1 - a.length=(i - a.length)+1 by omega,ub];exact b
  .rw[xf od,show i+1 - u1.length=(i - u1.length)+1 by omega,ub];exact c
def sU.ins{d l2:ao}{x:Va}{v v' u:cm}{u1 u2:bo}(h:sU B O w (d++l2) v (u1++u2))(l:u1.length=d.length)(n:aA (λb=>¬O b) w x u)(j:dB O w O' w')(m:dF B w' v' (u1++u::u2))(hm:∀g,v'.ownBlock=some g->O' g):sU B O' w' (d++x::l2) v' (u1++u::u2):=by
 have e:=h.len;simp only[jx]at e;refine⟨m,by simp only[jx,js];omega,λi y z a c=>j.lies ?_,hm⟩
 by_cases k:i<d.length
 .exact h.lies i y z (by rw[zd k]at a|-;exact a) (by rw[zd od]at c|-;exact c)
 .rw[xf od]at a c
  by_cases f:i=d.length
  .rw[f,Nat.sub_self]at a;rw[f,l,Nat.sub_self]at c;simp only[kO,qq]at a c;rw[<-a,<-c];exact n
  .rw[show i - d.length=(i - 1 - d.length)+1 by omega,ub]at a;rw[show i - u1.length=(i - 1 - u1.length)+1 by omega,ub]at c;exact h.lies (i - 1) y z (by rw[xf od];exact a) (by rw[xf od];exact c)
def bU.ZE{v:Va}{p q:ao}{g L cap:Nat}{u:cm}{u1 u2:bo}(h:bU B O w mb en aC m k n a s aa al ac ta tl tc na nl nc (.o g (L+1) cap) fv (u1++u::u2) fs)(d:m.st=p++v::q)(c:u1.length=q.length)(o:L=p.length+q.length)(l:w'.ownsRow B 29 7 (.o g L cap) L (flat u1++flat u2))(i:cq w w' (some g)) :
 ∃O',dB O w O' (w'.setCell ⟨mb,14,none⟩ (.o g L cap))/\bU B O' (w'.setCell ⟨mb,14,none⟩ (.o g L cap)) mb en aC { m with st:=p++q } k n a s aa al ac ta tl tc na nl nc (.o g L cap) fv (u1++u2) fs:=by
 have b:=h.jL;rw[d,qg5,qd1,qa3,jb1]at b;have j:=b.len;simp only[jx,js,qb3]at j;have f:Gr w (.o g (L+1) cap) w' (.o g L cap):=⟨i,.inl rfl⟩;have hF:=dB.gr f h.jL.mine;refine⟨_,h.Fv (st:=p++q) (us':=u1++u2) ?_ f hF⟩;rw[qg5];refine b.cut (by simpa using c) hF ?_ (λq e=>.inr e);unfold dF;rw[bV,show (u1++u2).length=L by simp only[jx];omega];exact l
end
