import Derived.Test.YtnamdihclpbdfabGreatKtZao
import Derived.Laws.OwnMore
namespace Go.Proofs.YtnamdihclpbdfabGreat
set_option linter.all false
open Go.Proofs.Tryz
open Go.ChangeShapes Go.WideShapes Go.ChangeAt Go.RowKit
set_option maxRecDepth 100000
set_option maxHeartbeats 8000000
section
variable {B:Nat}{O O':br}{w w':cg}{mb:Nat}{en:En}{aC:Int}{m:Ma}{k n a:Int}{s:bp}{aa:bj}{al ac:Nat}{ta:bj}{tl tc:Nat}{na:bj}{nl nc:Nat}{sv fv:cm}{us fs:bo}
def C4 (w:cg) (g o:Nat) (x0 x1 x2 x3:cm):Prop:=w.cell? ⟨g,o,none⟩=some x0/\w.cell? ⟨g,o+1,none⟩=some x1/\w.cell? ⟨g,o+2,none⟩=some x2/\w.cell? ⟨g,o+3,none⟩=some x3
def C4.keep{w w':cg}{r:Option Nat}{g o:Nat}{x0 c d e:cm}(h:C4 w g o x0 c d e)(a:cq w w' r)(b:some g≠r):C4 w' g o x0 c d e:=⟨kc h.1 a b,kc h.2.1 a b,kc h.2.2.1 a b,kc h.2.2.2 a b⟩
def bU.Sb{f:Fr}{r:List Fr}(h:bU B O w mb en aC m k n a s aa al ac ta tl tc na nl nc sv fv us fs)(x:m.fr=f::r):∃g cap b ra rc wa wc ba bc,fv =.o g (r.length+1) cap/\(r.length+1<=cap/\cap<=maxLen)/\fs=b++[yF ra f.rest.length rc f.op wa f.row.length wc ba f.aside.length bc]/\b.length=r.length/\(flat b).length=r.length*4 /\
 C4 w g (r.length*4) (.slice ra f.rest.length rc) (.i f.op) (.slice wa f.row.length wc) (.slice ba f.aside.length bc)/\(∀o,w.frozen? ⟨g,o,none⟩=false)/\wU B O w f (yF ra f.rest.length rc f.op wa f.row.length wc ba f.aside.length bc)/\jc B O w r.reverse b:=by
 have q:=h.sZ;rw[x,qc7]at q;have t:=q.form.2;simp only[ju,qb3,qe1]at t;obtain⟨b,u,rfl,c⟩:=DT t;have l:=q.split;have z:=l.2;obtain⟨ra,rc,wa,wc,ba,bc,C,D,rfl,_⟩:=l.2;have e:=(wE l.1.form.1).1;have d:=h.own;unfold kU at d;rw[bV,ju,qe1,c]at d;obtain⟨g,cap,rfl,_⟩:=BO d (by rintro rfl;have:=d.2;simp at this);have v:=oCq d;have p:∀j y,(nodeCells (yF ra f.rest.length rc f.op wa f.row.length wc ba f.aside.length bc))[j]?=some y->w.cell? ⟨g,r.length*4+j,none⟩=some y:=λj y A=>iJ d (by rw[e,c]) j y (by simpa[flat]using A);exact⟨g,cap,b,ra,rc,wa,wc,ba,bc,rfl,v,rfl,c,by rw[e,c],⟨p 0 _ rfl,p 1 _ rfl,p 2 _ rfl,p 3 _ rfl⟩,λo=>jc0 d o,z,l.1⟩
def bU.Wn{f f':Fr}{r:List Fr}{u z:cm}{g c cap:Nat}(h:bU B O w mb en aC m k n a s aa al ac ta tl tc na nl nc sv (.o g c cap) us (fs++[u]))(o:m.fr=f::r)(G:cq w w' (some g))(i:kU B w' (.o g c cap) (fs++[z]))(J:wU B O w f' z)(hk:lM f' z=lM f u) :
 bU B O w' mb en aC { m with fr:=f'::r } k n a s aa al ac ta tl tc na nl nc sv (.o g c cap) us (fs++[z]):=by
 have y:dB O w O w':=dB.ofRow G (λq e=>h.mine.2 q e);have A:=h.apart;have l:∀q,O q->(Value.o g c cap).ownBlock≠some q->w'.heap[q]?=w.heap[q]?:=λq x D=>G.block q (h.high q x) (λe=>D e.symm);have E:=h.sZ;rw[o,qc7]at E;have I:=E.form.2;simp only[ju,qb3,qe1]at I;have p:fs.length=r.reverse.length:=ot
 have C:keptBs m.fr.reverse (fs++[u])=keptBs r.reverse fs++lM f u:=by rw[o,qc7,kV p]
 have hK:=A.2.1;have j:=h.sZ.mine;have t:=h.nodup;rw[C]at hK j t;refine⟨(l mb h.mine.1 A.2.2).trans h.blk,y.lies h.said,h.jL.kept y λq e=>⟨h.jL.mine q e,l q (h.jL.mine q e) (A.1 q e).2⟩,i,?_,?_,h.mine,h.low,λb x=>?_,h.num⟩
 .simp only[qc7];refine jc.snoc (J.kept y λq d=>?_) (E.split.1.kept y λq d=>?_)
  .rw[hk]at d;have d:=ka1 (keptBs r.reverse fs) d;exact⟨(j q d).1,l q (j q d).1 (hK q d).2.1⟩
  .have d:=jb7 (lM f u) d;exact⟨(j q d).1,l q (j q d).1 (hK q d).2.1⟩
 .simp only[qc7];rw[kV p,hk];exact t
 .by_cases e:(Value.o g c cap).ownBlock=some b
  .cases e;rcases i.2 with⟨v,_⟩|⟨K,F,H,v,_,d,_⟩
   .simp at v
   .simp only[ye,qq,jb2,and_true,true_and]at v;obtain⟨rfl,_⟩:=v;exact⟨_,_,d⟩
  .rw[l b x e];exact h.cells b x
def bU.YF{f:Fr}{r:List Fr}{u:cm}{st:ao}{sv' c:cm}{us':bo}(h:bU B O w mb en aC m k n a s aa al ac ta tl tc na nl nc sv fv us (fs++[u]))(j:m.fr=f::r)(i:dB O w O' w')(d:w'.heap[mb]?=some (.cells (yG en aC m.paid m.aO k n a s aa al ac ta tl tc na nl nc sv' c) 197))
 (hstk:sU B O' w' st.reverse sv' us') (hown:kU B w' c fs) (hnd:(sv'.ownBlock.toList++keptBs r.reverse fs).Nodup) (hO:O' mb/\∀g,c.ownBlock=some g->O' g) (hk:∀g∈keptBs r.reverse fs,O' g/\w'.heap[g]?=w.heap[g]?) (hcells:∀b,O' b->∃cs e,w'.heap[b]?=some (.cells cs e)) :
 bU B O' w' mb en aC { m with st:=st,fr:=r } k n a s aa al ac ta tl tc na nl nc sv' c us' fs:=by
 have o:=h.sZ;rw[j,qc7]at o;refine⟨d,i.lies h.said,hstk,hown,o.split.1.kept i hk,hnd,hO,λb p=>?_,hcells,h.num⟩;rcases i.new b p with l|l
 .exact h.low b l
 .have:=h.low _ h.mine.1;have:=h.high _ h.mine.1;omega
def Yd (w:cg) (g L:Nat) (e:Ending) (w':cg):Prop:=e =.returned (.pointer (some ⟨g,L*4,none⟩))/\cq w w' none
def uw{g L cap:Nat}(h:bU B O w mb en aC m k n a s aa al ac ta tl tc na nl nc sv (.o g (L+1) cap) us fs)(hc:L+1<=cap/\cap<=maxLen):Calls prog 169 #[.po mb] w (Yd w g L):=by
 have HM:=jh h;have K:=λ(w':cg) (h:cq w w' none)=>iM (mH HM.blk h);have b:cq w w none:=bf _ _;have c:=jh (kY b);have i:IntKind.i64.wrap (L:Int)=L:=by unfold maxLen at hc;rw[qa2];omega
 have d:(0:Int)<=(L:Int):=od
 have e:(L:Int)<(L:Int)+1:=od
 have f:L<L+1:=od
 clear h hc;go_enter func169,ntmps169;go_wp2_with fail;go_region_held3 (λw'=>cq w w' none) (first|with_reducible assumption|with_reducible exact kY OK) (fail);go_wp2;go_ret;exact⟨rfl,c.out⟩
def bU.Jj{g L cap:Nat}{ra:bj}{rl rc:Nat}{op:Int}{wa:bj}{wl wc:Nat}{ba:bj}{bl bc:Nat}(h:bU B O w mb en aC m k n a s aa al ac ta tl tc na nl nc sv (.o g (L+1) cap) us (fs++[yF ra rl rc op wa wl wc ba bl bc]))(e:fs.length=L)(d:(flat fs).length=L*4) :
 C4 w g (L*4) (.slice ra rl rc) (.i op) (.slice wa wl wc) (.slice ba bl bc)/\∀o,w.frozen? ⟨g,o,none⟩=false:=by
 have c:=h.own;unfold kU at c;rw[bV,ju,qe1,e]at c;have b:∀j y,(nodeCells (yF ra rl rc op wa wl wc ba bl bc))[j]?=some y->w.cell? ⟨g,L*4+j,none⟩=some y:=λj y f=>iJ c d j y (by simpa[flat]using f);exact⟨⟨b 0 _ rfl,b 1 _ rfl,b 2 _ rfl,b 3 _ rfl⟩,λo=>jc0 c o⟩
def JV{α:Type}{a b c:List α}(h:(a++(b++c)).Nodup):(a++b).Nodup:=by rw[<-qa6]at h;exact (qd5.1 h).1
def bU.YE{f:Fr}{r:List Fr}{u:cm}{g cap:Nat}(h:bU B O w mb en aC m k n a s aa al ac ta tl tc na nl nc sv (.o g (r.length+1) cap) us (fs++[u]))(j:m.fr=f::r) :
 ∀w',w'=w.drew.setCell ⟨mb,15,none⟩ (.o g r.length cap)->dB O w O w'/\dm B O w' mb en aC { m with fr:=r }:=by
 rintro w' rfl;have D:=h.sZ;rw[j,qc7]at D;have F:=D.form.2;simp only[ju,qb3,qe1]at F;have c:fs.length=r.length:=od
 have h0:=h.grow (kY (bf w none));have i:w.drew.grownBy (w.drew.setCell ⟨mb,15,none⟩ (.o g r.length cap)) (some mb):=eF (bf _ _) _ _ _;have y:dB O w O (w.drew.setCell ⟨mb,15,none⟩ (.o g r.length cap)):=(dB.grow (kY (bf w none))).trans (dB.ofRow i (λq e=>by cases e;exact h.mine.1));have v:=h.apart;have t:∀q,O q->q≠mb->(w.drew.setCell ⟨mb,15,none⟩ (.o g r.length cap)).heap[q]?=w.heap[q]?:=λq p A=>i.block q (h.high q p) (by simpa using A);have z:keptBs m.fr.reverse (fs++[u])=keptBs r.reverse fs++lM f u:=by rw[j,qc7,kV (by simpa using c)]
 have hK:=v.2.1;have x:=h.sZ.mine;have l:=h.nodup;rw[z]at hK x l;have d:=(nG h0.blk (.o g r.length cap)).2.1;have C:=h.own;unfold kU at C;rw[bV,ju,qe1,c]at C;refine⟨y,_,_,_,_,_,_,_,_,_,_,_,_,_,_,_,_,_,h.YF j y d (h.jL.kept y λq e=>⟨h.jL.mine q e,t q (h.jL.mine q e) (v.1 q e).1⟩) ?_ (JV l) ⟨h.mine.1,λq e=>h.mine.2 q e⟩ (λq o=>?_) (λb p=>?_)⟩
 .unfold kU;rw[c];exact iT (uF C (by rw[(wE D.split.1.form.1).1,c])) λq e=>t q (h.mine.2 q e) (λE=>v.2.2 (by rw[<-E];exact e))
 .have o:=jb7 (lM f u) o;exact⟨(x q o).1,t q (x q o).1 (hK q o).1⟩
 .by_cases e:b=mb
  .subst e;exact⟨_,_,d⟩
  .rw[t b p e];exact h.cells b p
def Aw{c:br}{d:cg}{f:Fr}{r:List Fr}{u:cm}{g cap:Nat}(hF:dB c d O w)(h:bU B O w mb en aC m k n a s aa al ac ta tl tc na nl nc sv (.o g (r.length+1) cap) us (fs++[u]))(b:m.fr=f::r) :
 ∀w',w'=w.drew.setCell ⟨mb,15,none⟩ (.o g r.length cap)->jK B c d mb en aC (.go { m with fr:=r }) (.returned (.i 0)) w':=λw' e=>⟨_,hF.trans (h.YE b w' e).1,rfl,(h.YE b w' e).2⟩
def wU.open{f:Fr}{ra:bj}{rl rc:Nat}{op:Int}{wa:bj}{wl wc:Nat}{ba:bj}{bl bc:Nat}(h:wU B O w f (yF ra rl rc op wa wl wc ba bl bc)):bD f.op/\(f.rest.length<=rc/\f.row.length<=wc/\f.aside.length<=bc)/\(∃a,cK (λb=>¬O b) w f.rest ra a)/\(∃VW,cK (λb=>¬O b) w f.row wa VW) /\
 (f.op=67->∃us,sU B O w f.aside (.slice ba f.aside.length bc) us)/\(f.op≠67->∃VA,aT (λb=>¬O b) w f.aside ba VA):=by
 have⟨n,o,p,q,c,d,a,VW,e,g,i,j,k,l,m⟩:=h;unfold yF at e;simp only[ja4,jc3,qb6,ye,Value.int.injEq,true_and,and_true]at e;obtain⟨⟨rfl,rfl,rfl⟩,rfl,⟨rfl,rfl,rfl⟩,rfl,rfl,rfl⟩:=e;exact⟨g,i,⟨a,j⟩,⟨VW,k⟩,l,m⟩
def sU.src{l:ao}{v:cm}(h:sU B O w l v us):Src O w l v:=⟨us,Fe h.own,h.len,h.lies⟩
def Ql{f:Fr}{r:List Fr}{ra:bj}{rl rc:Nat}{wa:bj}{wl wc:Nat}{ba:bj}{bc g cap:Nat}{N o:cg}{v':cm}{us':bo}
 (h:bU B O w mb en aC m k n a s aa al ac ta tl tc na nl nc sv (.o g (r.length+1) cap) us (fs++[yF ra rl rc 67 wa wl wc ba f.aside.length bc])) (hfr:m.fr=f::r) (hop:f.op=67) (hg1:cq w N none)
 (hS:sU B (qx O (.slice ba f.aside.length bc) v') o (f.aside++m.st.reverse) v' us') (hG:Gr (N.setCell ⟨mb,14,none⟩ (.slice ba f.aside.length bc)) (.slice ba f.aside.length bc) o v') (hF:dB O (N.setCell ⟨mb,14,none⟩ (.slice ba f.aside.length bc)) (qx O (.slice ba f.aside.length bc) v') o) :
 (∀w',w'=(o.setCell ⟨mb,14,none⟩ v').drew.setCell ⟨mb,15,none⟩ (.o g r.length cap)->jK B O w mb en aC (.go { m with st:=m.st++f.aside.reverse,fr:=r }) (.returned (.i 0)) w')/\(o.setCell ⟨mb,14,none⟩ v').drew.heap[mb]?=some (.cells (yG en aC m.paid m.aO k n a s aa al ac ta tl tc na nl nc v' (.o g (r.length+1) cap)) 197):=by
 have U:=h.sZ;rw[hfr,qc7]at U;have hl:=U.form.2;simp only[ju,qb3,qe1]at hl;have t:fs.length=r.length:=od
 have hA:=h.apart;have S:keptBs m.fr.reverse (fs++[yF ra rl rc 67 wa wl wc ba f.aside.length bc])=keptBs r.reverse fs++(Value.slice ba f.aside.length bc).ownBlock.toList:=by rw[hfr,qc7,kV (by simpa using t)];unfold lM;rw[if_pos hop];rfl
 have hK:=hA.2.1;have P:=h.sZ.mine;have E:=h.nodup;rw[S]at hK P E;have I:∀q,(Value.slice ba f.aside.length bc).ownBlock=some q->q∈keptBs r.reverse fs++(Value.slice ba f.aside.length bc).ownBlock.toList:=λq e=>ka1 _ (by simp[e]);have D:(Value.slice ba f.aside.length bc).ownBlock≠some mb:=λe=>(hK mb (I mb e)).1 rfl;have H:=h.grow hg1;have c:cq N (N.setCell ⟨mb,14,none⟩ (.slice ba f.aside.length bc)) (some mb):=eF (bf _ _) _ _ _;have F:cq o (o.setCell ⟨mb,14,none⟩ v') (some mb):=eF (bf _ _) _ _ _;have G:(o.setCell ⟨mb,14,none⟩ v').drew.grownBy ((o.setCell ⟨mb,14,none⟩ v').drew.setCell ⟨mb,15,none⟩ (.o g r.length cap)) (some mb):=eF (bf _ _) _ _ _;have d:=K6 F (K6 (kY (bf _ _)) G);have C:qx O (.slice ba f.aside.length bc) v' mb:=.inl ⟨h.mine.1,D⟩;have hf:=((dB.grow hg1).trans (dB.ofRow c (λq e=>by cases e;exact h.mine.1))).trans (hF.trans (dB.ofRow d (λq e=>by cases e;exact C)));have Q:∀q,O q->q≠mb->(Value.slice ba f.aside.length bc).ownBlock≠some q->((o.setCell ⟨mb,14,none⟩ v').drew.setCell ⟨mb,15,none⟩ (.o g r.length cap)).heap[q]?=w.heap[q]?:=λq l H h2=>by have z:=h.high q l;have j:=kh z hg1.size;have M:=kh j c.size;exact (d.block q (kh M hG.1.size) (by simpa using H)).trans ((hG.1.block q M (λe=>h2 e.symm)).trans ((c.block q j (by simpa using H)).trans (hg1.block q z oe)))
 have R:o.heap[mb]?=some (.cells (yG en aC m.paid m.aO k n a s aa al ac ta tl tc na nl nc (.slice ba f.aside.length bc) (.o g (r.length+1) cap)) 197):=(hG.1.block mb (kh (H.high _ h.mine.1) c.size) (λe=>D e.symm)).trans (nG H.blk _).1;have J:(o.setCell ⟨mb,14,none⟩ v').drew.heap[mb]?=some (.cells (yG en aC m.paid m.aO k n a s aa al ac ta tl tc na nl nc v' (.o g (r.length+1) cap)) 197):=(nG R v').1;have v:=(nG J (.o g r.length cap)).2.1;have V:∀q,v'.ownBlock=some q->q≠mb:=λq e A=>by
  subst A;rcases hG.2 with u|⟨Z,u,hg⟩
  .exact D (by rw[<-u,e])
  .rw[e]at u;cases u;have:=H.high _ h.mine.1;have:=c.size;omega
 have T:=h.own;unfold kU at T;rw[bV,ju,qe1,t]at T;have K:(Value.slice ba f.aside.length bc).ownBlock≠some g:=λe=>(hK g (I g e)).2.1 rfl;refine⟨λw' ew=>ew ▸ ?_,J⟩;refine⟨_,hf,rfl,_,_,_,_,_,_,_,_,_,_,_,_,_,_,_,_,_,h.YF hfr hf v (us':=us') ?_ ?_ ?_ ⟨C,λq e=>.inl ⟨h.mine.2 q e,by cases e;exact K⟩⟩ (λq z=>?_) (λb l=>?_)⟩
 .rw[qg5,jf5];exact hS.kept (dB.ofRow d (λq e=>by cases e;exact C)) λq e=>⟨.inr e,d.block q (qb5 hS.own q e).2 (by simpa using V q e)⟩
 .unfold kU;rw[t];exact iT (uF T (by rw[(wE U.split.1.form.1).1,t])) λq e=>Q q (h.mine.2 q e) (λA=>hA.2.2 (by rw[<-A];exact e)) (by cases e;exact K)
 .have p:=qd5.1 (qd5.1 E).2.1;rcases hG.2 with u|⟨Z,u,hg⟩
  .rw[u];refine qd5.2 ⟨by cases (Value.slice ba f.aside.length bc).ownBlock<;>simp,p.1,λx W y X e=>p.2.2 y X x W e.symm⟩
  .rw[u];refine qd5.2 ⟨oe,p.1,λx W y X e=>?_⟩;simp at W;have:=h.high y (P y (jb7 _ X)).1;have:=hg1.size;have:=c.size;omega
 .have j:=jb7 (Value.slice ba f.aside.length bc).ownBlock.toList z;have p:=qd5.1 (qd5.1 E).2.1;have L:(Value.slice ba f.aside.length bc).ownBlock≠some q:=λe=>p.2.2 q z q (by simp[e]) rfl;exact⟨.inl ⟨(P q j).1,L⟩,Q q (P q j).1 (hK q j).1 L⟩
 .by_cases e:b=mb
  .subst e;exact⟨_,_,v⟩
  .rcases l with l|l
   .rw[Q b l.1 e l.2];exact h.cells b l.1
   .rcases hS.own.2 with⟨A,_⟩|⟨Z,Y,ab,A,_,z,_⟩
    .rw[A]at l;cases l
    .rw[A]at l;cases l;rw[d.block _ (kj.1 z).1 (by simpa using e)];exact⟨_,_,z⟩
def Qm{f:Fr}{ra:bj}{rl rc:Nat}{wa:bj}{wl wc:Nat}{ba:bj}{bc:Nat}{d:cg}{g:bo}(h:bU B O w mb en aC m k n a s aa al ac ta tl tc na nl nc sv fv us (fs++[yF ra rl rc 67 wa wl wc ba f.aside.length bc])){r:List Fr}(x:m.fr=f::r)(y:f.op=67)(c:cq w d none)(i:sU B O w f.aside (.slice ba f.aside.length bc) g) :
 (d.setCell ⟨mb,14,none⟩ (.slice ba f.aside.length bc)).heap[mb]?=some (.cells (yG en aC m.paid m.aO k n a s aa al ac ta tl tc na nl nc (.slice ba f.aside.length bc) fv) 197)/\sU B O (d.setCell ⟨mb,14,none⟩ (.slice ba f.aside.length bc)) f.aside (.slice ba f.aside.length bc) g/\Src O (d.setCell ⟨mb,14,none⟩ (.slice ba f.aside.length bc)) m.st.reverse sv/\B<=(d.setCell ⟨mb,14,none⟩ (.slice ba f.aside.length bc)).heap.size:=by
 have j:=h.grow c;have b:cq d (d.setCell ⟨mb,14,none⟩ (.slice ba f.aside.length bc)) (some mb):=eF (bf _ _) _ _ _;have t:dB O w O (d.setCell ⟨mb,14,none⟩ (.slice ba f.aside.length bc)):=(dB.grow c).trans (dB.ofRow b (λq e=>by cases e;exact h.mine.1));have v:=j.apart;have l:(Value.slice ba f.aside.length bc).ownBlock≠some mb:=aD i.own h.blk ov ∘ Eq.symm;have p:∀q,O q->q≠mb->(d.setCell ⟨mb,14,none⟩ (.slice ba f.aside.length bc)).heap[q]?=w.heap[q]?:=λq o z=>(b.block q (j.high q o) (by simpa using z)).trans (c.block q (h.high q o) oe);refine⟨(nG j.blk _).1,i.kept t λq e=>⟨i.mine q e,p q (i.mine q e) (λu=>l (by rw[<-u];exact e))⟩,sU.src (h.jL.kept t λq e=>⟨h.jL.mine q e,p q (h.jL.mine q e) (v.1 q e).1⟩),?_⟩;have:=h.low _ h.mine.1;have:=h.high _ h.mine.1;have:=c.size;have:=b.size;omega
def qG{f:Fr}{r:List Fr}{st:ao}(h:dm B O w mb en aC m)(U:m.fr=f::r)(u:m.st.length+f.aside.length<=100000000)(V:f.op=0/\st=m.st\/f.op=60/\f.aside=[]/\st=m.st\/(∃v,f.op=65/\m.st=v::st/\kJ v=false)\/f.op=68/\st=f.aside.reverse++m.st\/f.op=67/\st=m.st++f.aside.reverse):Calls prog 170 #[.po mb] w (jK B O w mb en aC (.go { m with st:=st,fr:=r })):=by
 have⟨k,n,a,s,aa,al,ac,ta,tl,tc,na,nl,nc,sv,fv,us,fs,h⟩:=h;obtain⟨g,Q,ah,ra,rc,wa,wc,ba,bc,rfl,T,rfl,hl,aq,hC,hZ,hU,hF⟩:=h.Sb U;have⟨HM,p,HC,l,Z,z⟩:=wg h (λw' (hg:cq w w' none)=>uw (h.grow hg) T) hC U hU u;have K:=λ(w':cg) (h:cq w w' none)=>And.intro (iM (mH HM.blk h)) (HC.keep h oe);unfold C4 at K;have ar:IntKind.i64.wrap (r.length:Int)=r.length:=by unfold maxLen at T;rw[qa2];omega
 have aj:cq w w none:=bf _ _;have ak:(0:Int)<=(r.length:Int):=od
 have an:(r.length:Int)<=(Q:Int):=od
 clear h hC hZ hU hF T U u;rcases V with⟨e,rfl⟩|⟨e,I,rfl⟩|⟨v,e,I,e3⟩|⟨e,rfl⟩|⟨e,rfl⟩
 all_goals rw[e]at K
 focus
  go_enter func170,ntmps170;go_wp2_with (go_at_call 169;(with_reducible refine (p.out _ OK).mono ?_);rintro e H ⟨rfl,b⟩);have c:=jh (HM.out.grow b);have i:=jh (dB.grow (O:=O) b);have d:=jh (Aw i.out c.out l.out);have o:=jh (c.out.grow (kY (bf _ _))).blk
 rotate_left
 focus
  rw[I]at K;simp only[qa0]at K;go_enter func170,ntmps170;go_wp2_with (go_at_call 169;(with_reducible refine (p.out _ OK).mono ?_);rintro e H ⟨rfl,b⟩);have c:=jh (HM.out.grow b);have i:=jh (dB.grow (O:=O) b);have d:=jh (Aw i.out c.out l.out);have o:=jh (c.out.grow (kY (bf _ _))).blk
 rotate_left
 focus
  have J:=jh I;have hv:decide (v.n=1)=false:=by simpa[kJ]using e3
  clear I;go_enter func170,ntmps170;go_wp2_with (first
   | (go_at_call 169;(with_reducible refine (p.out _ OK).mono ?_);rintro e w1 ⟨rfl,b⟩)
   | (go_at_call 191;(with_reducible refine (yA (HM.out.grow b) J.out).mono ?_);rintro e w2 ⟨v2,rfl,x,q,W,X,t⟩;obtain⟨k1,n1,a1,s1,ab,ae,ad,bb,fE,bh,ax,aO,az,rfl⟩:=x.bg;obtain rfl:=(qK x).2.1;have L:=jh q;have M:=jh t;clear x q t;unfold bg)
   | (go_at_call 190;(with_reducible refine (KU _).mono ?_);rintro e H ⟨rfl,D⟩;rw[hv]))
  have c:=jh (M.grow D);have i:=jh ((dB.grow (O:=O) b).trans (L.trans (dB.grow D)));have d:=jh (Aw i c l);have o:=jh (c.grow (kY (bf _ _))).blk
 rotate_left
 focus
  have⟨VA,E⟩:=Z.out.open.2.2.2.2.2 od;have P:=jh E;clear E;go_enter func170,ntmps170;go_wp2_with (first
   | (go_at_call 169;(with_reducible refine (p.out _ OK).mono ?_);rintro e w1 ⟨rfl,b⟩)
   | (go_at_call 188;(with_reducible refine (BG (HM.out.grow b) (Src.grow (Src.row P.out) b) z.out).mono ?_);rintro e H ⟨rfl,O9,q,W,X,t⟩;have i:=jh ((dB.grow (O:=O) b).trans q);have c:=jh t;clear q t))
  have d:=jh (Aw i c l);have o:=jh (c.grow (kY (bf _ _))).blk
 rotate_left
 focus
  have⟨bl,F⟩:=Z.out.open.2.2.2.2.1 e;have N:=jh F;have Y:=jh e;rw[e]at HM;clear F;go_enter func170,ntmps170;go_wp2_with (first
   | (go_at_call 169;(with_reducible refine (p.out _ OK).mono ?_);rintro e w1 ⟨rfl,b⟩;have zz:=(iM (nG (HM.out.grow b).blk (.slice ba f.aside.length bc)).1).2.2.2.2.2.2.2)
   | (go_at_call 188;have⟨p1,p2,p3,p4⟩:=Qm HM l Y b N;refine (G9 p1 p2 p3 p4 (by have:=z.out;rw[qb3];omega)).mono ?_;clear p1 p2 p3 p4;rintro e H ⟨rfl,v',bk,w4,y,C,A,G⟩;obtain⟨a',c',rfl⟩:=nX y.own;have j:=Ql HM l Y b y C A;rw[<-G]at j;have d:=jh j.1;have o:=jh j.2;clear j y C A G))
 rotate_left
 all_goals
  refine wp_region_held_drew (S:=λ_=>True) oA trivial (λR=>?_);have KX:=iM o;generalize H.drew=WX at KX d|-;refine fG 0 83 ?_;refine fG 1 84 ?_;refine fG 2 85 ?_;refine fG 3 86 ?_;refine fG 5 88 ?_;refine fG 6 89 ?_;refine fG 7 90 ?_;refine wpAnyH_ready (rs:=[4,8]) oA oe ?_;refine AllReadyH.cons rfl (λK hK=>?_) (AllReadyH.cons rfl (λK hK=>?_) AllReadyH.nil)
  focus
   go_simp;refine hK _ _ trivial (λ_=>?_);clear hK K;refine wpAnyH_ready (rs:=[8]) oA oe ?_;refine AllReadyH.cons rfl (λK hK=>?_) AllReadyH.nil;go_simp;refine hK _ _ trivial (λ_=>?_);clear hK K
  rotate_left
  focus
   go_simp;refine hK _ _ trivial (λ_=>?_);clear hK K;refine fG 9 92 ?_;refine fG 10 93 ?_;refine wpAnyH_ready (rs:=[4]) oA oe ?_;refine AllReadyH.cons rfl (λK hK=>?_) AllReadyH.nil;go_simp;refine hK _ _ trivial (λ_=>?_);clear hK K
  rotate_left
  focus
   refine fG 9 92 ?_;refine fG 10 93 ?_
  all_goals
   refine fG 11 94 ?_;refine fG 12 95 ?_;refine fG 13 96 ?_;refine wpAnyH_ready (rs:=[14]) oA oe ?_;refine AllReadyH.cons rfl (λK hK=>?_) AllReadyH.nil;go_simp;refine hK _ _ trivial (λ_=>?_);clear hK K;refine wpAnyH_done oA ?_ _;go_wp2;go_ret;exact d _ rfl
end
set_option maxHeartbeats 400000
section
variable {B:Nat}{O O1:br}{w w1:cg}{mb:Nat}{en:En}{aC:Int}{m m1:Ma}
def dm.qb{b:Nat}(h:dm B O w mb en aC m)(hb:w.heap.size<=b):¬O b:=λa=>by have:=h.high b a;omega
def jK.ret{o:Out}{e:Ending}{w':cg}(h:jK B O w mb en aC o e w'):∃b,e =.returned (.i b)/\jK B O w mb en aC o (.returned (.i b)) w':=by
 have h0:=h;have⟨O',_,h⟩:=h
 cases o with
 | stuck=>exact h.elim
 | no b m=>have⟨_,a,_⟩:=h;subst a;exact⟨_,rfl,h0⟩
 | go m=>have⟨a,_⟩:=h;subst a;exact⟨_,rfl,h0⟩
def jK.trans{o:Out}{e:Ending}{w':cg}(h:jK B O1 w1 mb en aC o e w')(c:dB O w O1 w1):jK B O w mb en aC o e w':=by have⟨O',a,b⟩:=h;exact⟨O',c.trans a,b⟩
def sG{x:Va}{k n a:Int}{s:bp}{d:bj}{al f:Nat}{ta:bj}{tl tc:Nat}{na:bj}{g nc:Nat}(h:dm B O w mb en aC m)(t:aA (λb=>¬O b) w x (bg k n a s d al f ta tl tc na g nc))(c:bz m [x] ≠ .stuck)(p:m.st.length<=50000000) :
 Calls prog 209 #[.po mb,.o (w.heap.size) 1 1] (w.alloc (.cells #[.i k,.i n,.i a,.string s,.slice d al f,.slice ta tl tc,.slice na g nc] 29)) (jK B O w mb en aC (bz m [x])):=by
 have j:=aK (w:=w) (.cells #[.i k,.i n,.i a,.string s,.slice d al f,.slice ta tl tc,.slice na g nc] 29);have u:vsizes [x]<=20000000:=by
  unfold bz at c;split at c
  .exact absurd rfl c
  .omega
 have⟨v,y,z,A,C,z5,D⟩:=cO (xF w (.cells #[.i k,.i n,.i a,.string s,.slice d al f,.slice ta tl tc,.slice na g nc] 29));refine (Fh (l:=[x]) (V:=λ_=>bg k n a s d al f ta tl tc na g nc) (h.grow j) ⟨by simp[maxLen],λi o=>?_,λi o=>?_⟩ u ot).mono λe w' r=>r.trans (dB.grow j)
 .obtain rfl:i=0:=by simpa using o
  exact⟨w.heap.size,0,rfl,λq=>by have:=h.high _ q;omega,_,_,_,_,_,_,_,_,_,_,_,_,_,rfl,v,y,z,A,C,z5,D⟩
 .obtain rfl:i=0:=by simpa using o
  exact (dB.grow (O:=O) j).lies t
end
section
variable {B:Nat}{O O':br}{w w':cg}{mb:Nat}{en:En}{aC:Int}{m:Ma}{k n a:Int}{s:bp}{aa:bj}{al ac:Nat}{ta:bj}{tl tc:Nat}{na:bj}{nl nc:Nat}{sv fv:cm}{us fs:bo}
def aT.tail{ok:br}{x:Va}{xs:ao}{b o:Nat}{V:bt}(h:aT ok w (x::xs) (some ⟨b,o,none⟩) V):aT ok w xs (some ⟨b,o+7,none⟩) (λi=>V (i+1)):=by
 refine⟨by have:=h.1;simp only[jj]at this;omega,λi q=>?_,λi q=>h.2.2 (i+1) ot⟩;have⟨t,u,e,p,k,n,a,s,aa,al,ac,ta,tl,tc,na,nl,nc,r,c,d,f,g,j,l,m⟩:=h.2.1 (i+1) ot;cases e;have e:o+7+i*7=o+(i+1)*7:=od
 exact⟨b,o+7,rfl,p,k,n,a,s,aa,al,ac,ta,tl,tc,na,nl,nc,r,by rw[e];exact c,by rw[e];exact d,by rw[e];exact f,by rw[e];exact g,by rw[e];exact j,by rw[e];exact l,by rw[e];exact m⟩
def cK.tail{ok:br}{x:Tr}{xs:aE}{b o:Nat}{V:bt}(h:cK ok w (x::xs) (some ⟨b,o,none⟩) V):cK ok w xs (some ⟨b,o+5,none⟩) (λi=>V (i+1)):=by
 refine⟨by have:=h.1;simp only[jj]at this;omega,λi r=>?_,λi r=>h.2.2 (i+1) ot⟩;have⟨u,v,e,q,k,n,p,s,a,l,c,t,d,f,g,j,m⟩:=h.2.1 (i+1) ot;cases e;have e:o+5+i*5=o+(i+1)*5:=od
 exact⟨b,o+5,rfl,q,k,n,p,s,a,l,c,t,by rw[e];exact d,by rw[e];exact f,by rw[e];exact g,by rw[e];exact j,by rw[e];exact m⟩
def kU.set{g L cap:Nat}{ra:bj}{rl rc:Nat}{op:Int}{wa:bj}{wl wc:Nat}{ba:bj}{bl bc:Nat}(h:kU B w (.o g (L+1) cap) (fs++[yF ra rl rc op wa wl wc ba bl bc]))(i:fs.length=L)(f:(flat fs).length=L*4)(a:bj)(c b:Nat) :
 (kU B (w.setCell ⟨g,L*4,none⟩ (.slice a c b)) (.o g (L+1) cap) (fs++[yF a c b op wa wl wc ba bl bc]))/\(kU B (w.setCell ⟨g,L*4+3,none⟩ (.slice a c b)) (.o g (L+1) cap) (fs++[yF ra rl rc op wa wl wc a c b])):=by
 unfold kU at h|-;simp only[bV,ju,qe1,i]at h|-;have d:=(h.stored (L*4) (.slice a c b)).1;have e:=(h.stored (L*4+3) (.slice a c b)).1;rw[jf1 _ _ od]at d e;rw[f]at d e;simp only[flat,qd0,jh0,qb0,nodeCells,yF,Nat.sub_self,Nat.add_sub_cancel_left,yy,xT]at d e|-;exact⟨d,e⟩
def bU.G5(h:bU B O w mb en aC m k n a s aa al ac ta tl tc na nl nc sv fv us fs):dm B O w mb en aC m:=⟨_,_,_,_,_,_,_,_,_,_,_,_,_,_,_,_,_,h⟩
def bU.DJ{f:Fr}{r:List Fr}{u:cm}(h:bU B O w mb en aC m k n a s aa al ac ta tl tc na nl nc sv fv us (fs++[u]))(b:m.fr=f::r):wU B O w f u:=by have c:=h.sZ;rw[b,qc7]at c;exact c.split.2
def bU.reset{f:Fr}{r:List Fr}{g cap:Nat}{ra:bj}{rc:Nat}{wa:bj}{wc:Nat}{ba:bj}{bc:Nat}{c:bj}{d:Nat}{rest:aE}{V:bt}(h:bU B O w mb en aC m k n a s aa al ac ta tl tc na nl nc sv (.o g (r.length+1) cap) us (fs++[yF ra f.rest.length rc f.op wa f.row.length wc ba f.aside.length bc]))(e:m.fr=f::r)(v:fs.length=r.length)(j:(flat fs).length=r.length*4)
 (hR:cK (λb=>¬O b) w rest c V) (hc:rest.length<=d) :
 bU B O (w.setCell ⟨g,r.length*4,none⟩ (.slice c rest.length d)) mb en aC { m with fr:=⟨rest,f.op,f.row,f.aside⟩::r } k n a s aa al ac ta tl tc na nl nc sv (.o g (r.length+1) cap) us (fs++[yF c rest.length d f.op wa f.row.length wc ba f.aside.length bc]):=by
 have⟨o,p,x,q,t,u⟩:=(h.DJ e).open;have⟨l,i⟩:=q;refine h.Wn (f':=⟨rest,f.op,f.row,f.aside⟩) e (eF (bf _ _) _ _ _) (kU.set h.own v j _ _ _).1 ?_ rfl;exact⟨c,d,wa,wc,ba,bc,V,l,rfl,o,⟨hc,p.2⟩,hR,i,t,u⟩
def bU.XB{f:Fr}{r:List Fr}{g cap:Nat}{ra:bj}{rc:Nat}{wa:bj}{wc:Nat}{ba:bj}{bc:Nat}{ba':bj}{bc':Nat}{aside:ao}{V:bt}(h:bU B O w mb en aC m k n a s aa al ac ta tl tc na nl nc sv (.o g (r.length+1) cap) us (fs++[yF ra f.rest.length rc f.op wa f.row.length wc ba f.aside.length bc]))(c:m.fr=f::r)(v:fs.length=r.length)(j:(flat fs).length=r.length*4)
 (hop:f.op≠67) (hA:aT (λb=>¬O b) w aside ba' V) (hc:aside.length<=bc') :
 bU B O (w.setCell ⟨g,r.length*4+3,none⟩ (.slice ba' aside.length bc')) mb en aC { m with fr:=⟨f.rest,f.op,f.row,aside⟩::r } k n a s aa al ac ta tl tc na nl nc sv (.o g (r.length+1) cap) us (fs++[yF ra f.rest.length rc f.op wa f.row.length wc ba' aside.length bc']):=by
 have⟨q,l,t,u,x,y⟩:=(h.DJ c).open;have⟨o,d⟩:=t;have⟨p,i⟩:=u;refine h.Wn (f':=⟨f.rest,f.op,f.row,aside⟩) c (eF (bf _ _) _ _ _) (kU.set h.own v j _ _ _).2 ?_ (by unfold lM;rw[if_neg hop,if_neg hop]);exact⟨ra,rc,wa,wc,ba',bc',o,p,rfl,q,⟨l.1,l.2.1,hc⟩,d,i,λe=>absurd e hop,λ_=>⟨V,hA⟩⟩
def JL{f:Fr}{r:List Fr}{st:ao}{v:Va}(h:dm B O w mb en aC m)(F:m.fr=f::r)(e:f.op=65)(G:m.st=v::st)(X:kJ v):Calls prog 170 #[.po mb] w (jK B O w mb en aC (uH aC { m with st:=st,fr:=⟨f.row,f.op,f.row,f.aside⟩::r } .go)):=by
 have⟨k,n,a,s,aa,al,ac,ta,tl,tc,na,nl,nc,sv,fv,us,fs,h⟩:=h;obtain⟨g,W,Y,ra,rc,wa,wc,ba,bc,rfl,J,rfl,L,x,H,hZ,hU,hF⟩:=h.Sb F;have⟨HM,E,N,d,HL,j⟩:=wg h (λw' (hg:cq w w' none)=>uw (h.grow hg) J) H F L x;have K:=λ(w':cg) (h:cq w w' none)=>And.intro (iM (mH HM.blk h)) (N.keep h oe);unfold C4 at K;rw[e]at K;have Z:cq w w none:=bf _ _;have A:=jh G;have hv:decide (v.n=1):=by simpa[kJ]using X
 clear h H hZ hU hF J F G L x;generalize I:jK B O w mb en aC (uH aC { m with st:=st,fr:=⟨f.row,f.op,f.row,f.aside⟩::r } .go)=Q;have S:=jh I;clear I;go_enter func170,ntmps170;go_wp2_with (first
  | (go_at_call 169;(with_reducible refine (E.out _ OK).mono ?_);rintro e w1 ⟨rfl,t⟩)
  | (go_at_call 191;(with_reducible refine (yA (HM.out.grow t) A.out).mono ?_);rintro e w2 ⟨v2,rfl,i,o,ah,an,p⟩;obtain⟨k1,n1,a1,s1,T,V,U,aj,fE,ak,ab,ae,ad,rfl⟩:=i.bg;obtain rfl:=(qK i).2.1;have C:=jh ((dB.grow (O:=O) t).trans o);have l:=jh p;clear i o p;unfold bg)
  | (go_at_call 190;(with_reducible refine (KU _).mono ?_);rintro e w3 ⟨rfl,c⟩;rw[hv];have z:=(l.out.grow c).Jj HL.out j.out;unfold C4 at z;have b:=jh (l.out.grow c);have D:=jh ((C.out.trans (dB.grow c)).trans (dB.ofRow (r:=some g) (eF (bf _ _) (r.length*4) none (.slice wa f.row.length wc)) (λq e=>by cases e;exact b.out.mine.2 _ rfl)));have⟨VW,u⟩:=(b.out.DJ d.out).open.2.2.2.1;have R:=jh (Ff ((b.out.reset d.out HL.out j.out u (b.out.DJ d.out).open.2.1.2.1).G5));clear c u)
  | (go_at_call 189;(with_reducible refine R.out.mono ?_);rintro e w9 M;obtain⟨er,rfl,y⟩:=(M.trans D.out).ret;have P:=jh y;clear M y))
 rw[<-S.out];exact P
def JK{f:Fr}{r:List Fr}{x:Va}{l:ao}(h:dm B O w mb en aC m)(hf:m.fr=f::r)(e:f.op=60)(e2:f.aside=x::l)(j:m.st.length<=50000000):Calls prog 170 #[.po mb] w (jK B O w mb en aC (uH aC { m with st:=x::m.st,fr:=⟨f.row,f.op,f.row,l⟩::r } .go)):=by
 have⟨k,n,a,s,aa,al,ac,ta,tl,tc,na,nl,nc,sv,fv,us,fs,h⟩:=h;obtain⟨g,ad,ae,ra,rc,wa,wc,ba,v,rfl,hc,rfl,hl,I,hC,hZ,hU,hF⟩:=h.Sb hf;have⟨HM,T,HC,S,HL,p⟩:=wg h (λw' (hg:cq w w' none)=>uw (h.grow hg) hc) hC hf hl I;have⟨VA,d⟩:=hU.open.2.2.2.2.2 od;have H:=hU.open.2.1.2.2;rw[e2]at d H;have⟨b,o,eb,hb,kk,nn,aq,ss,ab,bl,bq,tb,ul,uc,nb,ml,mc,ev,Y,Z,c2,c3,c4,c5,c6⟩:=d.2.1 0 oe;have L:=d.2.2 0 oe;rw[ev]at L;subst eb;simp only[jh2,qf6,List.getElem_cons_zero]at Y Z c2 c3 c4 c5 c6 L;have HX:=jh L;have X:=jh d;have M:Hid (C7 w b o kk nn aq ss ab bl bq tb ul uc nb ml mc):=⟨Y,Z,c2,c3,c4,c5,c6⟩;have K:=λ(w':cg) (h:cq w w' none)=>And.intro (iM (mH HM.blk h)) (And.intro (HC.keep h oe) (M.keep h oe));unfold C4 C7 at K;rw[e,e2]at K;have ah:cq w w none:=bf _ _;have⟨U,HE,N⟩:=JT j e e2;simp only[jj]at K H;have d1:(0:Int)<(l.length:Int)+1:=od
 have d2:(1:Int)<=(l.length:Int)+1:=od
 have d3:(l.length:Int)+1<=(v:Int):=od
 clear h hC hZ hU hF hc hf hl I j d L Y Z c2 c3 c4 c5 c6 ev;generalize hQ:jK B O w mb en aC (uH aC { m with st:=x::m.st,fr:=⟨f.row,f.op,f.row,l⟩::r } .go)=Q;have HQ:=jh hQ;clear hQ;go_enter func170,ntmps170;go_wp2_with (first
  | (go_at_call 169;(with_reducible refine (T.out _ OK).mono ?_);rintro e w1 ⟨rfl,u⟩)
  | (go_at_call 188;(with_reducible refine (BG (HM.out.grow (aJ u (aK _))) (Src.one ((dB.grow u).lies HX.out)) (by have:=U.out;simp only[jj,qa0];omega)).mono ?_);rintro e w2 ⟨rfl,O2,D,aj,ak,t⟩;have z:=t.Jj HL.out p.out;unfold C4 at z;have C:=jh t;have y:=jh ((dB.grow (O:=O) (aJ u (aK _))).trans D);clear D t))
 rw[HE.out,N.out]at z;simp only[jj]at z;have⟨A,hA,c⟩:∃A:Addr,(if v=1 then some (⟨b,o,none⟩:Addr)else some ⟨b,o+7,none⟩)=some A/\∃V,aT (λb=>¬O2 b) w2 l (some A) V:=by
  have h2:=y.out.U5 X
  by_cases hh:v=1
  .exact⟨_,if_pos hh,VA,by rw[jx (by omega:l.length=0)];exact aT.nil _ _ _ _⟩
  .exact⟨_,if_neg hh,_,h2.tail⟩
 have W:=jh c;clear c
 go_big_region
 have⟨V,c⟩:=W.out;have i:=C.out.XB (ba':=some A) (bc':=v - 1) (aside:=l) S.out HL.out p.out (by rw[HE.out];decide) c od;have⟨VW,G⟩:=(i.DJ (f:=⟨f.rest,f.op,f.row,l⟩) rfl).open.2.2.2.1;have E:=i.reset (f:=⟨f.rest,f.op,f.row,l⟩) rfl HL.out p.out G (i.DJ (f:=⟨f.rest,f.op,f.row,l⟩) rfl).open.2.1.2.1;have F:=E.grow (kY (bf _ _));have R:=jh (y.out.trans (dB.ofRow (r:=some g) (kY (eF (eF (bf _ _) (r.length*4+3) none (.slice (some A) l.length (v - 1))) (r.length*4) none (.slice wa f.row.length wc))) (λq e=>by cases e;exact C.out.mine.2 _ rfl)));have HP:Hid (Calls prog 189 #[.po mb] ((w2.setCell ⟨g,r.length*4+3,none⟩ (.slice (some A) l.length (v - 1))).setCell ⟨g,r.length*4,none⟩ (.slice wa f.row.length wc)).drew _):=Ff (m:={ m with st:=x::m.st,fr:=⟨f.row,f.op,f.row,l⟩::r }) F.G5;clear c i G E F;go_wp2_with ((go_at_call 189;(with_reducible refine HP.out.mono ?_);rintro e w9 hq;obtain⟨er,rfl,J⟩:=(hq.trans R.out).ret;have P:=jh J;clear hq J));rw[<-HQ.out];exact P.out
end
def qJ{ok:br}{w:cg}{k n a:Int}{s:bp}(e:bD k)(c:bD n)(d:bD a)(b:s.size<=maxLen):aA ok w (.mk k n a s [] [] []) (bg k n a s none 0 0 none 0 0 none 0 0) :=
 aA.of (args:=[]) (types:=[]) (code:=[]) (V:=λ_=>.i 0) (VT:=λ_=>.i 0) (VN:=λ_=>.i 0) oe b e c d (aT.nil _ _ _ _) (dw.nil _ _ _ _) (cK.nil _ _ _ _)
def jK.kept{B:Nat}{O:br}{w w':cg}{f:Nat}{en:En}{aC:Int}{o:Out}{e:Ending}{b:Nat}{ob:Option Obj}(h:jK B O w f en aC o e w')(hb:b<w.heap.size)(a:¬O b)(d:w.heap[b]?=ob):w'.heap[b]?=ob:=by have⟨O',c,_⟩:=h;exact (c.block b hb a).trans d
section
variable {B:Nat}{O:br}{w:cg}{mb:Nat}{en:En}{aC:Int}{m:Ma}
def dm.env(h:dm B O w mb en aC m):w.cell? ⟨mb,0,none⟩=some (.i en.self)/\w.cell? ⟨mb,1,none⟩=some (.i en.sender)/\w.cell? ⟨mb,2,none⟩=some (.i en.amount)/\w.cell? ⟨mb,3,none⟩=some (.i en.balance):=by have⟨k,n,a,s,aa,al,ac,ta,tl,tc,na,nl,nc,sv,fv,us,fs,h⟩:=h;have⟨b,c,d,e,_⟩:=iM h.blk;exact⟨b,c,d,e⟩
def RD{st:ao}{t:Tr}{nk C:Int}{ns:bp}{na:bj}{A nc:Nat}(r:t.p0=89)(l:bD en.self)(h:dm B O w mb en aC m)(a:m.st=st)(c:iw en t m ≠ .stuck)(b:m.st.length<=50000000):Calls prog 201 #[.po mb,.agg #[.i nk,.i C,.i 89,.string ns,.slice na A nc]] w (jK B O w mb en aC (iw en t m)):=by
 have p:iw en t m=bz { m with st:=st } [aW 7 en.self]:=by subst a;simp only[iw,r,Int.reduceEq,↓reduceIte]
 rw[p]at c|-;have HM:=jh (show dm B O w mb en aC { m with st:=st } by rw[<-a];exact h);have u:=jh (dB.refl O w);have g:Hid (st.length<=50000000):=by rw[a]at b;exact (by omega:st.length<=50000000)
 have j:=jh c;have HI:=jh l;clear r l p h a c b;generalize n:jK B O w mb en aC (bz { m with st:=st } [aW 7 en.self])=Q;have y:=jh n;clear n;have K:=λ(w':cg) (h:cq w w' none)=>(HM.grow h).env;have z:cq w w none:=bf _ _;have E:=λ(w':cg) (o:Obj) (h:cq w w' none)=>aJ h (aK o);go_enter func201,ntmps201;go_wp2_with (first
  | (go_at_call 216;(with_reducible refine (r9 _ _ _).mono ?_);rintro e F ⟨rfl,d⟩;have d:=aJ (aK _) d;have v:=jh d;have k:=jh (sG (x:=aW 7 en.self) (HM.out.grow d) (qJ OF HI.out OF (yb _)) j.out g.out);unfold bg at k;clear d;unfold bg)
  | (go_at_call 209;(with_reducible refine k.out.mono ?_);rintro e G q;obtain⟨D,rfl,f⟩:=(q.trans (u.out.trans (dB.grow v.out))).ret;have s:=jh f;clear q f))
 rw[<-y.out];exact s
def RF{st:ao}{t:Tr}{nk C:Int}{ns:bp}{na:bj}{A nc:Nat}(r:t.p0=90)(l:bD en.sender)(h:dm B O w mb en aC m)(a:m.st=st)(c:iw en t m ≠ .stuck)(b:m.st.length<=50000000):Calls prog 201 #[.po mb,.agg #[.i nk,.i C,.i 90,.string ns,.slice na A nc]] w (jK B O w mb en aC (iw en t m)):=by
 have p:iw en t m=bz { m with st:=st } [aW 7 en.sender]:=by subst a;simp only[iw,r,Int.reduceEq,↓reduceIte]
 rw[p]at c|-;have HM:=jh (show dm B O w mb en aC { m with st:=st } by rw[<-a];exact h);have u:=jh (dB.refl O w);have g:Hid (st.length<=50000000):=by rw[a]at b;exact (by omega:st.length<=50000000)
 have j:=jh c;have HI:=jh l;clear r l p h a c b;generalize n:jK B O w mb en aC (bz { m with st:=st } [aW 7 en.sender])=Q;have y:=jh n;clear n;have K:=λ(w':cg) (h:cq w w' none)=>(HM.grow h).env;have z:cq w w none:=bf _ _;have E:=λ(w':cg) (o:Obj) (h:cq w w' none)=>aJ h (aK o);go_enter func201,ntmps201;go_wp2_with (first
  | (go_at_call 216;(with_reducible refine (r9 _ _ _).mono ?_);rintro e F ⟨rfl,d⟩;have d:=aJ (aK _) d;have v:=jh d;have k:=jh (sG (x:=aW 7 en.sender) (HM.out.grow d) (qJ OF HI.out OF (yb _)) j.out g.out);unfold bg at k;clear d;unfold bg)
  | (go_at_call 209;(with_reducible refine k.out.mono ?_);rintro e G q;obtain⟨D,rfl,f⟩:=(q.trans (u.out.trans (dB.grow v.out))).ret;have s:=jh f;clear q f))
 rw[<-y.out];exact s
def RG{st:ao}{t:Tr}{nk C:Int}{ns:bp}{na:bj}{A nc:Nat}(r:t.p0=91)(l:bD en.amount)(h:dm B O w mb en aC m)(a:m.st=st)(c:iw en t m ≠ .stuck)(b:m.st.length<=50000000):Calls prog 201 #[.po mb,.agg #[.i nk,.i C,.i 91,.string ns,.slice na A nc]] w (jK B O w mb en aC (iw en t m)):=by
 have p:iw en t m=bz { m with st:=st } [aW 5 en.amount]:=by subst a;simp only[iw,r,Int.reduceEq,↓reduceIte]
 rw[p]at c|-;have HM:=jh (show dm B O w mb en aC { m with st:=st } by rw[<-a];exact h);have u:=jh (dB.refl O w);have g:Hid (st.length<=50000000):=by rw[a]at b;exact (by omega:st.length<=50000000)
 have j:=jh c;have HI:=jh l;clear r l p h a c b;generalize n:jK B O w mb en aC (bz { m with st:=st } [aW 5 en.amount])=Q;have y:=jh n;clear n;have K:=λ(w':cg) (h:cq w w' none)=>(HM.grow h).env;have z:cq w w none:=bf _ _;have E:=λ(w':cg) (o:Obj) (h:cq w w' none)=>aJ h (aK o);go_enter func201,ntmps201;go_wp2_with (first
  | (go_at_call 216;(with_reducible refine (r9 _ _ _).mono ?_);rintro e F ⟨rfl,d⟩;have d:=aJ (aK _) d;have v:=jh d;have k:=jh (sG (x:=aW 5 en.amount) (HM.out.grow d) (qJ OF HI.out OF (yb _)) j.out g.out);unfold bg at k;clear d;unfold bg)
  | (go_at_call 209;(with_reducible refine k.out.mono ?_);rintro e G q;obtain⟨D,rfl,f⟩:=(q.trans (u.out.trans (dB.grow v.out))).ret;have s:=jh f;clear q f))
 rw[<-y.out];exact s
def RH{st:ao}{t:Tr}{nk C:Int}{ns:bp}{na:bj}{A nc:Nat}(r:t.p0=92)(l:bD en.balance)(h:dm B O w mb en aC m)(a:m.st=st)(c:iw en t m ≠ .stuck)(b:m.st.length<=50000000):Calls prog 201 #[.po mb,.agg #[.i nk,.i C,.i 92,.string ns,.slice na A nc]] w (jK B O w mb en aC (iw en t m)):=by
 have p:iw en t m=bz { m with st:=st } [aW 5 en.balance]:=by subst a;simp only[iw,r,Int.reduceEq,↓reduceIte]
 rw[p]at c|-;have HM:=jh (show dm B O w mb en aC { m with st:=st } by rw[<-a];exact h);have u:=jh (dB.refl O w);have g:Hid (st.length<=50000000):=by rw[a]at b;exact (by omega:st.length<=50000000)
 have j:=jh c;have HI:=jh l;clear r l p h a c b;generalize n:jK B O w mb en aC (bz { m with st:=st } [aW 5 en.balance])=Q;have y:=jh n;clear n;have K:=λ(w':cg) (h:cq w w' none)=>(HM.grow h).env;have z:cq w w none:=bf _ _;have E:=λ(w':cg) (o:Obj) (h:cq w w' none)=>aJ h (aK o);go_enter func201,ntmps201;go_wp2_with (first
  | (go_at_call 216;(with_reducible refine (r9 _ _ _).mono ?_);rintro e F ⟨rfl,d⟩;have d:=aJ (aK _) d;have v:=jh d;have k:=jh (sG (x:=aW 5 en.balance) (HM.out.grow d) (qJ OF HI.out OF (yb _)) j.out g.out);unfold bg at k;clear d;unfold bg)
  | (go_at_call 209;(with_reducible refine k.out.mono ?_);rintro e G q;obtain⟨D,rfl,f⟩:=(q.trans (u.out.trans (dB.grow v.out))).ret;have s:=jh f;clear q f))
 rw[<-y.out];exact s
end
set_option maxHeartbeats 4000000
section
variable {B:Nat}{O O':br}{w w':cg}{mb:Nat}{en:En}{aC:Int}{m:Ma}{k n a:Int}{s:bp}{aa:bj}{al ac:Nat}{ta:bj}{tl tc:Nat}{na:bj}{nl nc:Nat}{sv fv:cm}{us fs:bo}
def C5 (w:cg) (b o:Nat) (k n p:Int) (s:bp) (a:bj) (l c:Nat):Prop:=w.cell? ⟨b,o,none⟩=some (.i k)/\w.cell? ⟨b,o+1,none⟩=some (.i n)/\w.cell? ⟨b,o+2,none⟩=some (.i p)/\w.cell? ⟨b,o+3,none⟩=some (.string s)/\w.cell? ⟨b,o+4,none⟩=some (.slice a l c)
def C5.keep{w w':cg}{r:Option Nat}{g o:Nat}{k n p:Int}{s:bp}{a:bj}{l c:Nat}(h:C5 w g o k n p s a l c)(b:cq w w' r)(d:some g≠r):C5 w' g o k n p s a l c:=⟨kc h.1 b d,kc h.2.1 b d,kc h.2.2.1 b d,kc h.2.2.2.1 b d,kc h.2.2.2.2 b d⟩
def C5.YS{w w':cg}{g o:Nat}{k n p:Int}{s:bp}{a:bj}{l c:Nat}(h:C5 w g o k n p s a l c)(d:dB O w O' w')(b:¬O g):C5 w' g o k n p s a l c:=by have : ∀{o v},w.cell? ⟨g,o,none⟩=some v->w'.cell? ⟨g,o,none⟩=some v:=λ{o v} h=>(kd (d.block g (qc0 w _ h) b)).trans h;exact⟨this h.1,this h.2.1,this h.2.2.1,this h.2.2.2.1,this h.2.2.2.2⟩
def BI{ok:br}{t:Tr}{k n p:Int}{s:bp}{a:bj}{l c:Nat}(h:bI ok w t (af k n p s a l c))(i:Nat)(hi:i<t.args0.length) :
 ∃b o f j p' m a' g d,a=some ⟨b,o,none⟩/\l=t.args0.length/\ok b/\C5 w b (o+i*5) f j p' m a' g d/\bI ok w (dK t i) (af f j p' m a' g d):=by
 have⟨C,D,V,e,_,q⟩:=h.yX;unfold af at e;simp only[ja4,jc3,qb6,ye,and_true]at e;obtain⟨_,_,_,_,rfl,rfl,rfl⟩:=e;have⟨b,o,e,A,f,j,p',m,a',g,d,B,u,v,x,y,z⟩:=q.2.1 i hi;have r:=q.2.2 i hi;rw[B]at r;refine⟨b,o,f,j,p',m,a',g,d,e,rfl,A,⟨u,v,x,y,z⟩,?_⟩;unfold dK;rw[qt hi];exact r
def vo{ok:br}{t:Tr}{k n p:Int}{s:bp}{a:bj}{l c:Nat}(h:bI ok w t (af k n p s a l c)):k=t.k0/\n=t.n0/\p=t.p0/\l=t.args0.length/\bD n:=by have⟨d,f,V,e,b,g⟩:=h.yX;unfold af at e;simp only[ja4,jc3,qb6,ye,Value.int.injEq,true_and,and_true]at e;obtain⟨rfl,rfl,rfl,_,rfl,rfl,rfl⟩:=e;exact⟨rfl,rfl,rfl,rfl,b.2.1⟩
def kI (k n p:Int) (s:bp) (a:bj) (l c:Nat):Obj:=.cells #[.i k,.i n,.i p,.string s,.slice a l c] 51
def SN (p q:Nat) (x y:Obj) (w:cg):Prop:=w.heap[p]?=some x/\w.heap[q]?=some y
def SN.grow{p q:Nat}{x y:Obj}(h:SN p q x y w)(a:cq w w' none):SN p q x y w':=⟨mH h.1 a,mH h.2 a⟩
def SN.alloc{p q:Nat}{x y o:Obj}(h:SN p q x y w):SN p q x y (w.alloc o):=h.grow (aK _)
def SN.YS{p q:Nat}{x y:Obj}(h:SN p q x y w)(a:dB O w O' w')(b:¬O p)(c:¬O q):SN p q x y w':=⟨(a.block p (kj.1 h.1).1 b).trans h.1,(a.block q (kj.1 h.2).1 c).trans h.2⟩
def SN.ZG{p q:Nat}{x y:Obj}{o:Out}{e:Ending}(h:SN p q x y w)(a:jK B O w mb en aC o e w')(b:¬O p)(c:¬O q):SN p q x y w':=by have⟨O',a,_⟩:=a;exact h.YS a b c
def SN.cell{p q:Nat}{x y:Obj}{i:Nat}{v:cm}(h:SN p q x y w)(a:SN p q x y w')(hc:w.cell? ⟨q,i,none⟩=some v):w'.cell? ⟨q,i,none⟩=some v:=(kd (a.2.trans h.2.symm)).trans hc
def SN.of{p q i:Nat}{x:Obj}{v:cm}(h:w.heap[p]?=some x)(hc:w.cell? ⟨q,i,none⟩=some v):∃y,SN p q x y w:=⟨_,h,qc5 (qc0 w _ hc)⟩
def sU.mid{c l2:ao}{x:Va}{v:cm}(h:sU B O w (c++x::l2) v us):∃g cap u1 u2 k n a s aa al ac ta tl tc na nl nc,v =.o g (c.length+1+l2.length) cap/\(c.length+1+l2.length<=cap/\cap<=maxLen)/\us=u1++bg k n a s aa al ac ta tl tc na nl nc::u2/\u1.length=c.length/\u2.length=l2.length /\
 aA (λb=>¬O b) w x (bg k n a s aa al ac ta tl tc na nl nc)/\C7 w g (c.length*7) k n a s aa al ac ta tl tc na nl nc/\(flat u1).length=c.length*7/\(flat u2).length=l2.length*7/\(∀y∈flat u2,y.oneCell'):=by
 have F:=h.len;simp only[ju,jj]at F;obtain⟨u1,u,u2,rfl,f,l⟩:∃u1 u u2,us=u1++u::u2/\u1.length=c.length/\u2.length=l2.length:=by refine⟨us.take c.length,us[c.length]'od,us.drop (c.length+1),?_,ot,ot⟩;rw[<-kB od,qd1]
 have t:=h.lies c.length x u oe (by rw[<-f];simp);obtain⟨k,n,a,s,aa,al,ac,ta,tl,tc,na,nl,nc,rfl⟩:=t.bg;have r:=mO h.len h.lies;have C:=lL (λu o=>r u (jb7 _ o));have q:=lL (λu o=>r u (ka1 _ (jb6 _ o)));have i:=h.own;unfold dF at i;have m:(u1++bg k n a s aa al ac ta tl tc na nl nc::u2).length=c.length+1+l2.length:=ot
 rw[m]at i;obtain⟨g,cap,rfl,_⟩:=BO i (by rintro rfl;have:=i.2;simp at this);have D:=oCq i;refine⟨g,cap,u1,u2,k,n,a,s,aa,al,ac,ta,tl,tc,na,nl,nc,rfl,D,rfl,f,l,t,?_,by rw[C.1,f],by rw[q.1,l],q.2⟩;have e:flat (u1++bg k n a s aa al ac ta tl tc na nl nc::u2)=flat u1++(nodeCells (bg k n a s aa al ac ta tl tc na nl nc)++flat u2):=by rw[bV];rfl
 rw[e]at i;have d:∀j y,(nodeCells (bg k n a s aa al ac ta tl tc na nl nc))[j]?=some y->w.cell? ⟨g,c.length*7+j,none⟩=some y:=λj y z=>by have E:=(qS.1 z).1;have G:(nodeCells (bg k n a s aa al ac ta tl tc na nl nc)).length=7:=rfl;have⟨x,p,A⟩:=mh i (c.length*7+j) (by rw[ju,ju];omega);rw[zE od,kO od,show c.length*7+j - (flat u1).length=j by omega,z]at p;cases p;exact A
 exact⟨d 0 _ rfl,d 1 _ rfl,d 2 _ rfl,d 3 _ rfl,d 4 _ rfl,d 5 _ rfl,d 6 _ rfl⟩
def QJ{t:Tr}{nk C:Int}{ns:bp}{H:bj}{I d:Nat}{v:Va}{p q:ao}(hT:bI (λb=>¬O b) w t (af nk C 41 ns H I d))(ha:0<t.args0.length)(hN:(dK t 0).n0=(p.length:Int)+1)(h:dm B O w mb en aC m)(A:m.st=p++v::q)(F:bz m [v] ≠ .stuck)(f:m.st.length<=50000000) :
 Calls prog 192 #[.po mb,af nk C 41 ns H I d] w (jK B O w mb en aC (bz m [v])):=by
 have T:=h;have⟨k,n,a,s,aa,al,ac,ta,tl,tc,na,nl,nc,sv,fv,us,fs,h⟩:=h;have V:=h.jL;rw[A,qg5,qc7,qa6,jb1]at V;obtain⟨g,ah,u1,u2,k1,n1,a1,s1,ab,ae,ad,aq,fE,ar,aj,an,ak,rfl,X,rfl,Y,Z,hx,U,_,_,_⟩:=V.mid;obtain⟨b,o,k2,n2,p2,s2,a2,l2,c2,rfl,rfl,hb,l,hA⟩:=BI hT 0 ha;have⟨_,E,_⟩:=vo hA;rw[hN]at E;subst E;simp only[qb3,jh2,qf6]at X U l h;have⟨L,hL⟩:∃L,q.length+1+p.length=L:=⟨_,rfl⟩;rw[hL]at h X;have hw:IntKind.i64.wrap ((L:Int) - ((p.length:Int)+1))=(q.length:Int):=by
  have : L<=100000000:=by rw[A]at f;simp only[ju,jj]at f;omega
  rw[qa2];omega
 have q1:(q.length:Int)<(L:Int):=od
 have q2:(0:Int)<=(q.length:Int):=od
 have q3:(0:Int)<(t.args0.length:Int):=od
 generalize q.length=Q at *;have u:=aK (w:=w) (.cells #[.i nk,.i C,.i 41,.string ns,.slice (some ⟨b,o,none⟩) t.args0.length d] 51);have⟨D,HM,HC,J,HP,j,M,P⟩:=wj (xF w (.cells #[.i nk,.i C,.i 41,.string ns,.slice (some ⟨b,o,none⟩) t.args0.length d] 51)) h U l (sG (T.grow (kY u)) ((dB.grow (kY u)).lies hx) F f) u T hb;clear T h V hx U l hb hA F f A hN hL hT Y Z X;unfold af;generalize hQ:jK B O w mb en aC (bz m [v])=Q0;have HQ:=jh hQ;clear hQ;go_enter func192,ntmps192;go_wp2_with fail;generalize w.alloc _=W1 at *;have⟨y0,y1,y2,y3,y4⟩:=bE D;have z:=iM (mH HM.blk j);have z7:=HC.out.keep j oe;have z5:=J.out.keep j oe;unfold C7 at z7;unfold C5 at z5;have N:=jh (M.qb (jn _));have⟨y,r⟩:=SN.of (x:=kI nk C 41 ns (some ⟨b,o,none⟩) t.args0.length d) D z5.2.1;have R:=jh r;have K:=λ(w':cg) (h:SN w.heap.size b (kI nk C 41 ns (some ⟨b,o,none⟩) t.args0.length d) y w')=>And.intro (bE h.1) (R.cell h z5.2.1);refine wp_region_held_drew (S:=SN w.heap.size b (kI nk C 41 ns (some ⟨b,o,none⟩) t.args0.length d) y) oA (r.grow (kY (bf _ _))) (λc=>?_);clear r;refine fG 0 18 ?_;refine fG 1 19 ?_;refine fG 2 20 ?_;refine fG 3 21 ?_;refine fG 5 23 ?_;refine fG 6 24 ?_;refine fG 7 25 ?_;refine fG 10 28 ?_;refine fG 11 29 ?_;refine fG 12 30 ?_;refine fG 13 31 ?_;refine fG 14 32 ?_;refine wpAnyH_ready (rs:=[4,8]) oA oe ?_;refine AllReadyH.cons rfl (λK hK=>?_) (AllReadyH.cons rfl (λK hK=>?_) AllReadyH.nil)
 focus
  go_simp;refine hK _ _ c (λ_=>?_);clear hK K;refine wpAnyH_ready (rs:=[8]) oA oe ?_;refine AllReadyH.cons rfl (λK hK=>?_) AllReadyH.nil;go_simp;refine hK _ _ c (λ_=>?_);clear hK K;refine fG 9 27 ?_;refine fG 15 33 ?_;refine fG 16 34 ?_
 rotate_left
 focus
  go_simp;refine hK _ _ c (λ_=>?_);clear hK K;refine fG 9 27 ?_;refine fG 15 33 ?_;refine wpAnyH_ready (rs:=[4]) oA oe ?_;refine AllReadyH.cons rfl (λK hK=>?_) AllReadyH.nil;go_simp;refine hK _ _ c (λ_=>?_);clear hK K;refine fG 16 34 ?_
 all_goals
  refine wpAnyH_ready (rs:=[17]) oA oe ?_;refine AllReadyH.cons rfl (λK hK=>?_) AllReadyH.nil;go_simp;refine hK _ _ c (λ_=>?_);clear hK K;refine wpAnyH_ready (rs:=[18]) oA oe ?_;refine AllReadyH.cons rfl (λK hK=>?_) AllReadyH.nil;go_simp;refine hK _ _ c.alloc (λ_=>?_);clear hK K;refine wpAnyH_ready (rs:=[19]) oA oe ?_;refine AllReadyH.cons rfl (λK hK=>?_) AllReadyH.nil;go_simp;refine HP.mono ?_;rintro e w9 hq;have W:=SN.ZG c hq N P;obtain⟨er,rfl,G⟩:=(hq.trans (dB.grow (kY j))).ret;have HE:=jh G;clear hq G;refine hK _ _ W (λ_=>?_);clear hK K;refine fG 20 4 ?_;(try simp only[Act.put,pS]);refine wpAnyH_done oA ?_ _;go_wp2_with fail;rw[<-HQ.out];exact HE
def sU.cut{a l2:ao}{x:Va}{v v' u:cm}{u1 u2:bo}(h:sU B O w (a++x::l2) v (u1++u::u2))(k:u1.length=a.length)(e:dB O w O' w')(j:dF B w' v' (u1++u2))(hm:∀g,v'.ownBlock=some g->O' g):sU B O' w' (a++l2) v' (u1++u2):=by
 have d:=h.len;simp only[ju,jj]at d;refine⟨j,by simp only[ju];omega,λi y z b c=>e.lies ?_,hm⟩
 by_cases f:i<a.length
 .exact h.lies i y z (by rw[kO f]at b|-;exact b) (by rw[kO od]at c|-;exact c)
 .rw[zE od]at b c;refine h.lies (i+1) y z ?_ ?_
  .rw[zE od,show i+1 - a.length=(i - a.length)+1 by omega,yW];exact b
  .rw[zE od,show i+1 - u1.length=(i - u1.length)+1 by omega,yW];exact c
def sU.ins{d l2:ao}{x:Va}{v v' u:cm}{u1 u2:bo}(h:sU B O w (d++l2) v (u1++u2))(l:u1.length=d.length)(n:aA (λb=>¬O b) w x u)(j:dB O w O' w')(m:dF B w' v' (u1++u::u2))(hm:∀g,v'.ownBlock=some g->O' g):sU B O' w' (d++x::l2) v' (u1++u::u2):=by
 have e:=h.len;simp only[ju]at e;refine⟨m,by simp only[ju,jj];omega,λi y z a c=>j.lies ?_,hm⟩
 by_cases k:i<d.length
 .exact h.lies i y z (by rw[kO k]at a|-;exact a) (by rw[kO od]at c|-;exact c)
 .rw[zE od]at a c
  by_cases f:i=d.length
  .rw[f,Nat.sub_self]at a;rw[f,l,Nat.sub_self]at c;simp only[km,qq]at a c;rw[<-a,<-c];exact n
  .rw[show i - d.length=(i - 1 - d.length)+1 by omega,yW]at a;rw[show i - u1.length=(i - 1 - u1.length)+1 by omega,yW]at c;exact h.lies (i - 1) y z (by rw[zE od];exact a) (by rw[zE od];exact c)
def bU.ZE{v:Va}{p q:ao}{g L cap:Nat}{u:cm}{u1 u2:bo}(h:bU B O w mb en aC m k n a s aa al ac ta tl tc na nl nc (.o g (L+1) cap) fv (u1++u::u2) fs)(d:m.st=p++v::q)(c:u1.length=q.length)(o:L=p.length+q.length)(l:w'.ownsRow B 29 7 (.o g L cap) L (flat u1++flat u2))(i:cq w w' (some g)) :
 ∃O',dB O w O' (w'.setCell ⟨mb,14,none⟩ (.o g L cap))/\bU B O' (w'.setCell ⟨mb,14,none⟩ (.o g L cap)) mb en aC { m with st:=p++q } k n a s aa al ac ta tl tc na nl nc (.o g L cap) fv (u1++u2) fs:=by
 have b:=h.jL;rw[d,qg5,qc7,qa6,jb1]at b;have j:=b.len;simp only[ju,jj,qb3]at j;have f:Gr w (.o g (L+1) cap) w' (.o g L cap):=⟨i,.inl rfl⟩;have hF:=dB.gr f h.jL.mine;refine⟨_,h.Fv (st:=p++q) (us':=u1++u2) ?_ f hF⟩;rw[qg5];refine b.cut (by simpa using c) hF ?_ (λq e=>.inr e);unfold dF;rw[bV,show (u1++u2).length=L by simp only[ju];omega];exact l
end
section
variable {B:Nat}{O O':br}{w w':cg}{mb:Nat}{en:En}{aC:Int}{m:Ma}{k n a:Int}{s:bp}{aa:bj}{al ac:Nat}{ta:bj}{tl tc:Nat}{na:bj}{nl nc:Nat}{sv fv:cm}{us fs:bo}
def QK{t:Tr}{nk nn:Int}{ns:bp}{aq:bj}{ar G:Nat}{v:Va}{p q:ao}(hT:bI (λb=>¬O b) w t (af nk nn 43 ns aq ar G))(ha:0<t.args0.length)(hN:(dK t 0).n0=(p.length:Int))(h:dm B O w mb en aC m)(F:m.st=p++v::q)(r:m.st.length<=50000000) :
 Calls prog 192 #[.po mb,af nk nn 43 ns aq ar G] w (jK B O w mb en aC (.go { m with st:=v::(p++q) })):=by
 have⟨k,n,a,s,aa,al,ac,ta,tl,tc,na,nl,nc,sv,fv,us,fs,h⟩:=h;have hS:=h.jL;rw[F,qg5,qc7,qa6,jb1]at hS;obtain⟨g,E,u1,u2,k1,n1,Z,s1,f,l,j,A,fE,C,x,z,y,rfl,hc,rfl,Q,ak,hx,hC,M,N,ab⟩:=hS.mid;obtain⟨b,o,k2,n2,p2,s2,a2,l2,c2,rfl,rfl,hb,I,hA⟩:=BI hT 0 ha;have⟨_,an,_⟩:=vo hA;rw[hN]at an;subst an;simp only[qb3,jh2,qf6]at hc hC I h Q ak M N;have u:p.length+q.length<=49999999:=by rw[F]at r;simp only[ju,jj]at r;omega
 have⟨L,hL⟩:∃L,L=p.length+q.length:=⟨_,rfl⟩;rw[show q.length+1+p.length=L+1 by omega]at h hc;have V:Hid ((p++q).length+[v].length<=100000000):=(by simp only[jj,qa0,ju];omega:(p++q).length+[v].length<=100000000);have q1:(q.length:Int)<(L:Int)+1:=od
 have q3:(0:Int)<(t.args0.length:Int):=od
 have bc:=aK (w:=w) (.cells #[.i nk,.i nn,.i 43,.string ns,.slice (some ⟨b,o,none⟩) t.args0.length G] 51);have az:=jh (xF w (.cells #[.i nk,.i nn,.i 43,.string ns,.slice (some ⟨b,o,none⟩) t.args0.length G] 51));have R:=jh (λ(W:cg) (hg:cq w W none)=>Js (B:=B) (w:=W) (g:=g) (L:=L) (cap:=E) (i:=q.length) (J:=q.length+1) (xs:=flat u1) (ys:=nodeCells (bg k1 n1 Z s1 f l j A fE C x z y)) (zs:=flat u2) rfl (by have:=(h.grow hg).jL.own;unfold dF at this;rw[show (u1++bg k1 n1 Z s1 f l j A fE C x z y::u2).length=L+1 by simp only[ju,jj];omega,bV]at this;rw[qa6];exact this) M rfl (by rw[N];congr 1;omega) od ab hc)
 have S:=jh (λ(W W':cg) (hg:cq w W none)=>(h.grow hg).ZE (w':=W') F Q hL);have hw:IntKind.i64.wrap ((L:Int) - (p.length:Int))=(q.length:Int)/\IntKind.i64.wrap (L:Int)=(L:Int):=by rw[qa2,qa2];omega
 have⟨hw,bl⟩:=hw;have bm:wrap64 ((q.length:Int)+1)=((q.length+1:Nat):Int):=(vL rfl XS).1;have⟨HM,HC,aO,c,HX,bh⟩:=wg h hC I bc hx u;clear h hS hx hC I hb hA r F hN hL hT Q ak hc M N ab u;unfold af;generalize hQ:jK B O w mb en aC (.go { m with st:=v::(p++q) })=Q0;have HQ:=jh hQ;clear hQ;go_enter func192,ntmps192;go_wp2_with fail;generalize w.alloc _=d at *;have K:=λ(w':cg) (h:cq d w' none)=>And.intro (bE (mH az.out h)) (And.intro (iM (mH HM.out.blk (aJ c.out h))) (And.intro (HC.out.keep (aJ c.out h) oe) (aO.out.keep (aJ c.out h) oe)));unfold C7 C5 at K;have bk:cq d d none:=bf _ _;go_region_held3 (λw'=>cq d w' none) (first|with_reducible assumption|with_reducible exact kY OK) (fail);have hA1:=λ(w':cg) (o:Obj) (h:cq d w' none)=>aJ h (aK o);have hA2:=λ(w':cg) (h:cq d w' none)=>kY h;have Y:Hid (some d.heap.size≠some g/\some d.heap.size≠some mb):=by have h1:=HM.out.high g (HM.out.jL.mine g rfl);have h2:=HM.out.high _ HM.out.mine.1;have h3:=c.out.size;exact⟨λe=>by rw[qq]at e;rw[<-e]at h1;exact jg3 _ (kh h1 h3),λe=>by rw[qq]at e;rw[<-e]at h2;exact jg3 _ (kh h2 h3)⟩
 have ax:Hid ((d.alloc (.cells #[.i k1,.i n1,.i Z,.string s1,.slice f l j,.slice A fE C,.slice x z y] 29)).drew.heap[d.heap.size]?=some (.cells #[.i k1,.i n1,.i Z,.string s1,.slice f l j,.slice A fE C,.slice x z y] 29)):=xF d _;have D:=jh (kY (aK (w:=d) (.cells #[.i k1,.i n1,.i Z,.string s1,.slice f l j,.slice A fE C,.slice x z y] 29)));go_wp2_with (first
  | (go_at_call 210;(refine (R _ (aJ c D)).mono ?_);rintro e w3 ⟨rfl,H,P⟩;have⟨O4,ad,ah⟩:=S.out _ w3 (aJ c D) H P;have z3:=iM (kb (mH HM.blk (aJ c D)) P (aD HM.jL.own HM.blk ov));have ba:=jh ah;have U:=jh ((dB.grow (aJ c D)).trans ad);have bn:=cO (kb (kb ax P Y.1) (eF (bf _ _) 14 none (.o g L E)) Y.2);have X:=jh (Ha (ba.G5.grow (aK _)) (Src.one (T:=29) (U.lies HX)) V);have bb:(w3.setCell ⟨mb,14,none⟩ (.o g L E)).heap.size=w3.heap.size:=(by simp[World.setCell]);rw[bb]at X;clear ad ah H)
  | (go_at_call 188;(with_reducible refine X.out.mono ?_);rintro e w5 ⟨rfl,O5,ae,aj⟩;have HE:Hid (jK B O w mb en aC (.go { m with st:=v::(p++q) }) (.returned (.i 0)) w5):=⟨O5,(U.out.trans (dB.grow (aK _))).trans ae,rfl,aj⟩;clear ae aj))
 rw[<-HQ.out];exact HE
end
section
variable {B:Nat}{O O':br}{w w':cg}{mb:Nat}{en:En}{aC:Int}{m:Ma}{k n a:Int}{s:bp}{aa:bj}{al ac:Nat}{ta:bj}{tl tc:Nat}{na:bj}{nl nc:Nat}{sv fv:cm}{us fs:bo}
def bU.ZF{v:Va}{p q:ao}{g L cap:Nat}{u:cm}{u1 u2:bo}(h:bU B O w mb en aC m k n a s aa al ac ta tl tc na nl nc (.o g L cap) fv (u1++u2) fs)(f:m.st=p++q)(d:u1.length=q.length)(r:L=p.length+q.length)(o:aA (λb=>¬O b) w v u){sv':cm}(l:w'.ownsRow B 29 7 sv' (L+1) (flat u1++(nodeCells u++flat u2)))(i:Gr w (.o g L cap) w' sv') :
 ∃O',dB O w O' (w'.setCell ⟨mb,14,none⟩ sv')/\bU B O' (w'.setCell ⟨mb,14,none⟩ sv') mb en aC { m with st:=p++v::q } k n a s aa al ac ta tl tc na nl nc sv' fv (u1++u::u2) fs:=by
 have c:=h.jL;rw[f,qg5]at c;have j:=c.len;simp only[ju,qb3]at j;have hF:=dB.gr i h.jL.mine;refine⟨_,h.Fv (st:=p++v::q) (us':=u1++u::u2) ?_ i hF⟩;rw[qg5,qc7,qa6,jb1];refine c.ins (by simpa using d) o hF ?_ (λq e=>.inr e);unfold dF;rw[bV,show (u1++u::u2).length=L+1 by simp only[ju,jj];omega];exact l
def sU.parts{a l2:ao}{v:cm}(h:sU B O w (a++l2) v us):∃u1 u2,us=u1++u2/\u1.length=a.length/\u2.length=l2.length/\(flat u1).length=a.length*7/\(flat u2).length=l2.length*7/\(∀y∈flat u2,y.oneCell'):=by
 have i:=h.len;simp only[ju]at i;have b:=mO h.len h.lies;rw[<-qd1 a.length us]at b;have g:=lL (λu c=>b u (jb7 _ c));have f:=lL (λu c=>b u (ka1 _ c));have d:(us.take a.length).length=a.length:=ot
 have e:(us.drop a.length).length=l2.length:=ot
 exact⟨us.take a.length,us.drop a.length,(qd1 _ _).symm,d,e,by rw[g.1,d],by rw[f.1,e],f.2⟩
def WK (B:Nat) (w:cg) (sv:cm) (n:Nat) (xs:bo) (e:Ending) (w':cg):Prop:=∃a c,e =.returned (.slice a n c)/\w'.ownsRow B 29 7 (.slice a n c) n xs/\Gr w sv w' (.slice a n c)
def JF{g L cap v:Nat}{xs vs:bo}(h:w.ownsRow B 29 7 (.o g L cap) L xs)(c:L<=100000000)(b:B<=w.heap.size)
 (hv:w.heap[v]?=some (.cells vs.toArray 29)) (hvs:vs.length=7) (h2:∀u∈vs,u.oneCell') :
 Calls prog 211 #[.o g L cap,.i (L:Int),.o v 1 1] w (WK B w (.o g L cap) (L+1) (xs++vs)):=by
 have f:Hid (gZ w (.o v 1 1) 1 vs):=.inr ⟨⟨v,0,none⟩,1,rfl,λj u n=>by rw[gI];simp[World.cell?,hv,n]⟩;have HO:=jh h;have HB:=jh b;have m:=oCq h;have o:(L:Int)<=cap:=od
 have HL:=jh c;clear h b hv m c;go_enter func211,ntmps211;go_wp2_with (at_builtin;refine ed rfl _ _ 26 rfl B 29 underlying26 mr rfl ov _ L xs rfl HO _ 1 vs rfl (by rw[hvs]) f h2 (by have:=HL.out;unfold maxLen;omega) (by have:=HL.out;omega) HB ?_;intro p w' a d _;obtain⟨k,l,rfl⟩:=nX a;have e:Hid (WK B w (.o g L cap) (L+1) (xs++vs) (.returned (.slice k (L+1) l)) w'):=⟨_,_,rfl,a,d⟩;clear a d)
 all_goals
  go_ret;exact e
def JE{g L cap i v:Nat}{xs zs vs:bo}(h:w.ownsRow B 29 7 (.o g L cap) L (xs++zs))(l:xs.length=i*7)(c:zs.length=(L - i)*7)(hi:i<=L)(d:∀u∈zs,u.oneCell')(hc:L+1<=cap/\cap<=maxLen)(j:L<=100000000)(f:B<=w.heap.size)
 (hv:w.heap[v]?=some (.cells vs.toArray 29)) (hvs:vs.length=7) (h2:∀u∈vs,u.oneCell') (hne:v≠g) :
 Calls prog 211 #[.o g L cap,.i (i:Int),.o v 1 1] w (WK B w (.o g L cap) (L+1) (xs++(vs++zs))):=by
 by_cases e:i=L
 .subst e;have a:zs=[]:=jx (by rw[c,Nat.sub_self,jh2]);subst a;rw[qb0]at h|-;exact JF h j f hv hvs h2
 .refine (JG rfl rfl h l c od d hc hv hvs h2 hne).mono ?_;rintro e w' ⟨rfl,b,k⟩;rw[qa6]at b;exact⟨_,_,rfl,b,k,.inl rfl⟩
def QL{t:Tr}{nk T:Int}{ns:bp}{cr:bj}{ct E:Nat}{v:Va}{p q:ao}(hT:bI (λb=>¬O b) w t (af nk T 44 ns cr ct E))(ha:0<t.args0.length)(hN:(dK t 0).n0=(p.length:Int))(h:dm B O w mb en aC m)(bc:m.st=v::(p++q))(V:m.st.length<=50000000) :
 Calls prog 192 #[.po mb,af nk T 44 ns cr ct E] w (jK B O w mb en aC (.go { m with st:=p++v::q })):=by
 have⟨k,n,a,s,aa,al,ac,ta,tl,tc,na,nl,nc,sv,fv,us,fs,h⟩:=h;obtain⟨b,o,k2,n2,p2,s2,a2,l2,c2,rfl,rfl,hb,ar,hA⟩:=BI hT 0 ha;have⟨_,cn,_⟩:=vo hA;rw[hN]at cn;subst cn;simp only[jh2,qf6]at ar;have W:p.length+q.length<=49999999:=by rw[bc]at V;simp only[ju,jj]at V;omega
 have q3:(0:Int)<(t.args0.length:Int):=od
 have ba:=aK (w:=w) (.cells #[.i nk,.i T,.i 44,.string ns,.slice (some ⟨b,o,none⟩) t.args0.length E] 51);have⟨bh,HT,aj,bq,aq,cy,cC⟩:=wk (xF w (.cells #[.i nk,.i T,.i 44,.string ns,.slice (some ⟨b,o,none⟩) t.args0.length E] 51)) (Cv (h.grow ba) bc) (ar.keep ba oe) (h.G5.qb (jn _)) hb ba W;have cA:Hid (B<=w.heap.size):=(by have:=h.low _ h.mine.1;have:=h.high _ h.mine.1;omega:B<=w.heap.size);have⟨L,hL⟩:∃L,L=p.length+q.length:=⟨_,rfl⟩;have HL:=jh hL;have cd:(p++q).length=L:=by rw[ju,hL]
 rw[cd]at HT;have hw:IntKind.i64.wrap ((L:Int) - (p.length:Int))=(q.length:Int):=vf
 clear h ar hb hA V bc hN hT W hL cd;unfold af;generalize hQ:jK B O w mb en aC (.go { m with st:=p++v::q })=Q0;have HQ:=jh hQ;clear hQ;go_enter func192,ntmps192;go_wp2_with (first
  | (go_at_call 191;(with_reducible refine HT.out.mono ?_);clear HT;rintro e U ⟨v2,rfl,ax,cb,g,bx,cI,ah,cf⟩;obtain⟨J,n1,I,M,c,f,d,A,fE,C,j,r,l,rfl⟩:=ax.bg;have cz:=jh ax;have ak:=jh cb;have G:=jh cf;have cx:=jh ah;clear ax cb cf ah;unfold bg))
 have cw:=jh (xF U (.cells #[.i J,.i n1,.i I,.string M,.slice c f d,.slice A fE C,.slice j r l] 29));have Q:=jh (aK (w:=U) (.cells #[.i J,.i n1,.i I,.string M,.slice c f d,.slice A fE C,.slice j r l] 29));have cE:Hid (∃y,SN w.heap.size b (kI nk T 44 ns (some ⟨b,o,none⟩) t.args0.length E) y U):=by have⟨y,hy⟩:=SN.of (x:=(kI nk T 44 ns (some ⟨b,o,none⟩) t.args0.length E)) bh aj.2.1;exact⟨y,hy.YS ak bq aq⟩
 have bk:=jh (aj.YS ak aq);have bm:=jh ((dB.grow cy).trans ak);clear bh aj;generalize U.alloc (.cells #[.i J,.i n1,.i I,.string M,.slice c f d,.slice A fE C,.slice j r l] 29)=Z at *;have⟨y,cl⟩:=cE.out;have ab:SN w.heap.size b (kI nk T 44 ns (some ⟨b,o,none⟩) t.args0.length E) y Z.drew/\Z.drew.heap[U.heap.size]?=some (.cells #[.i J,.i n1,.i I,.string M,.slice c f d,.slice A fE C,.slice j r l] 29):=⟨(cl.grow Q).grow (kY (bf _ _)),cw⟩;have cD:=jh ab;have z5:=bk.out.keep (aJ Q (kY (bf _ _))) oe;have z:=iM ((G.grow (aJ Q (kY (bf _ _)))).blk);unfold C5 at z5;have K:=λ(w':cg) (h:SN w.heap.size b (kI nk T 44 ns (some ⟨b,o,none⟩) t.args0.length E) y w'/\w'.heap[U.heap.size]?=some (.cells #[.i J,.i n1,.i I,.string M,.slice c f d,.slice A fE C,.slice j r l] 29))=>And.intro (bE h.1.1) (And.intro (cD.1.cell h.1 z5.2.1) (cO h.2));have H:=jh (G.grow (aJ Q (aJ (kY (bf _ _)) (aK (.cells #[.i J,.i n1,.i I,.string M,.slice c f d,.slice A fE C,.slice j r l] 29)))));have an:=jh (aJ Q (aJ (kY (bf _ _)) (aK (.cells #[.i J,.i n1,.i I,.string M,.slice c f d,.slice A fE C,.slice j r l] 29))));have D:SN w.heap.size b (kI nk T 44 ns (some ⟨b,o,none⟩) t.args0.length E) y (Z.drew.alloc (.cells #[.i J,.i n1,.i I,.string M,.slice c f d,.slice A fE C,.slice j r l] 29))/\(Z.drew.alloc (.cells #[.i J,.i n1,.i I,.string M,.slice c f d,.slice A fE C,.slice j r l] 29)).heap[U.heap.size]?=some (.cells #[.i J,.i n1,.i I,.string M,.slice c f d,.slice A fE C,.slice j r l] 29):=⟨ab.1.alloc,aB ab.2⟩;have z2:=iM (show (Z.alloc (.cells #[.i J,.i n1,.i I,.string M,.slice c f d,.slice A fE C,.slice j r l] 29)).drew.heap[mb]?=_ from H.out.blk);have X:=H.out.jL;rw[show (p++q).reverse=q.reverse++p.reverse from qg5]at X;obtain⟨u1,u2,rfl,ae,bb,az,aO,ca⟩:=X.parts;rw[qb3]at ae bb az aO;have cG:=jh (H.high);have N:Hid (Z.heap.size≠g/\some w.heap.size≠some g/\some b≠some g/\some U.heap.size≠some g/\some w.heap.size≠some mb/\some b≠some mb/\some U.heap.size≠some mb):=by
  have hg:=G.out.high g (G.jL.mine g rfl);have hm:=G.out.high _ G.mine.1;have h3:=Q.out.size;have cj:=G.out.jL.mine g rfl;have ck:=G.out.mine.1;have n1:=bq.out;have n2:=aq.out;refine⟨λe=>?_,λe=>?_,λe=>?_,λe=>?_,λe=>?_,λe=>?_,λe=>?_⟩
  .rw[e]at h3;exact jg3 _ (kh hg h3)
  .rw[qq]at e;exact n1 (e ▸ cj)
  .rw[qq]at e;exact n2 (e ▸ cj)
  .rw[qq]at e;rw[<-e]at hg;exact jg3 _ hg
  .rw[qq]at e;exact n1 (e ▸ ck)
  .rw[qq]at e;exact n2 (e ▸ ck)
  .rw[qq]at e;rw[<-e]at hm;exact jg3 _ hm
 have bn:=jh (JE (B:=B) (w:=Z.drew.alloc (.cells #[.i J,.i n1,.i I,.string M,.slice c f d,.slice A fE C,.slice j r l] 29)) (g:=g) (L:=L) (cap:=bx) (i:=q.length) (v:=Z.heap.size) (xs:=flat u1) (zs:=flat u2) (vs:=nodeCells (bg J n1 I M c f d A fE C j r l)) (by have h:=H.out.jL.own;unfold dF at h;rw[bV,show (u1++u2).length=L by rw[ju,ae,bb,HL.out,Nat.add_comm]]at h;exact h) az (by rw[aO,show L - q.length=p.length from (by rw[HL.out];exact Nat.add_sub_cancel _ _)]) (by rw[HL.out];exact Nat.le_add_left _ _) ca cx (by rw[HL.out];exact xo cC ov) (xo cA (xo bm.size an.size)) (xF Z.drew _) rfl (by intro u hu;simp[nodeCells,bg]at hu;rcases hu with rfl|rfl|rfl|rfl|rfl|rfl|rfl<;>rfl) N.1)
 have bl:=jh (λ(Y:cg) (cv:cm) ho hG=>H.ZF (v:=v) (w':=Y) (sv':=cv) (u:=(bg J n1 I M c f d A fE C j r l)) rfl ae HL ((dB.grow an).lies cz) ho hG);clear X ae bb az aO ca;clear cl;refine wp_region_held_drew (S:=(λw'=>SN w.heap.size b (kI nk T 44 ns (some ⟨b,o,none⟩) t.args0.length E) y w'/\w'.heap[U.heap.size]?=some (.cells #[.i J,.i n1,.i I,.string M,.slice c f d,.slice A fE C,.slice j r l] 29))) oA ab (λF=>?_);refine fG 0 89 ?_;refine fG 1 90 ?_;refine fG 2 91 ?_;refine fG 3 92 ?_;refine fG 5 94 ?_;refine fG 6 95 ?_;refine fG 7 96 ?_;refine fG 10 99 ?_;refine fG 11 100 ?_;refine fG 12 101 ?_;refine fG 13 102 ?_;refine fG 14 103 ?_;refine fG 16 105 ?_;refine wpAnyH_ready (rs:=[4,8,17]) oA oe ?_;refine AllReadyH.cons rfl (λK hK=>?_) (AllReadyH.cons rfl (λK hK=>?_) (AllReadyH.cons rfl (λK hK=>?_) AllReadyH.nil))
 focus
  go_simp;refine hK _ _ F (λ_=>?_);clear hK K;refine wpAnyH_ready (rs:=[8,17]) oA oe ?_;refine AllReadyH.cons rfl (λK hK=>?_) (AllReadyH.cons rfl (λK hK=>?_) AllReadyH.nil)
  focus
   go_simp;refine hK _ _ F (λ_=>?_);clear hK K;refine fG 9 98 ?_;refine fG 15 104 ?_;refine wpAnyH_ready (rs:=[17]) oA oe ?_;refine AllReadyH.cons rfl (λK hK=>?_) AllReadyH.nil;go_simp;refine hK _ _ D (λ_=>?_);clear hK K
  rotate_left
  focus
   go_simp;refine hK _ _ D (λ_=>?_);clear hK K;refine wpAnyH_ready (rs:=[8]) oA oe ?_;refine AllReadyH.cons rfl (λK hK=>?_) AllReadyH.nil;go_simp;refine hK _ _ D (λ_=>?_);clear hK K;refine fG 9 98 ?_;refine fG 15 104 ?_
  rotate_left
 rotate_left 2
 focus
  go_simp;refine hK _ _ F (λ_=>?_);clear hK K;refine fG 9 98 ?_;refine fG 15 104 ?_;refine wpAnyH_ready (rs:=[4,17]) oA oe ?_;refine AllReadyH.cons rfl (λK hK=>?_) (AllReadyH.cons rfl (λK hK=>?_) AllReadyH.nil)
  focus
   go_simp;refine hK _ _ F (λ_=>?_);clear hK K;refine wpAnyH_ready (rs:=[17]) oA oe ?_;refine AllReadyH.cons rfl (λK hK=>?_) AllReadyH.nil;go_simp;refine hK _ _ D (λ_=>?_);clear hK K
  rotate_left
  focus
   go_simp;refine hK _ _ D (λ_=>?_);clear hK K;refine wpAnyH_ready (rs:=[4]) oA oe ?_;refine AllReadyH.cons rfl (λK hK=>?_) AllReadyH.nil;go_simp;refine hK _ _ D (λ_=>?_);clear hK K
  rotate_left
 rotate_left 2
 focus
  go_simp;refine hK _ _ D (λ_=>?_);clear hK K;refine wpAnyH_ready (rs:=[4,8]) oA oe ?_;refine AllReadyH.cons rfl (λK hK=>?_) (AllReadyH.cons rfl (λK hK=>?_) AllReadyH.nil)
  focus
   go_simp;refine hK _ _ D (λ_=>?_);clear hK K;refine wpAnyH_ready (rs:=[8]) oA oe ?_;refine AllReadyH.cons rfl (λK hK=>?_) AllReadyH.nil;go_simp;refine hK _ _ D (λ_=>?_);clear hK K;refine fG 9 98 ?_;refine fG 15 104 ?_
  rotate_left
  focus
   go_simp;refine hK _ _ D (λ_=>?_);clear hK K;refine fG 9 98 ?_;refine fG 15 104 ?_;refine wpAnyH_ready (rs:=[4]) oA oe ?_;refine AllReadyH.cons rfl (λK hK=>?_) AllReadyH.nil;go_simp;refine hK _ _ D (λ_=>?_);clear hK K
  rotate_left
 rotate_left 2
 all_goals
  refine wpAnyH_ready (rs:=[18]) oA oe ?_;refine AllReadyH.cons rfl (λK hK=>?_) AllReadyH.nil;go_simp;refine bn.mono ?_;rintro e Y ⟨a5,c5,rfl,cp,R⟩;have ad:SN w.heap.size b (kI nk T 44 ns (some ⟨b,o,none⟩) t.args0.length E) y Y/\Y.heap[U.heap.size]?=some (.cells #[.i J,.i n1,.i I,.string M,.slice c f d,.slice A fE C,.slice j r l] 29):=⟨⟨kb D.1.1 R.1 N.2.1,kb D.1.2 R.1 N.2.2.1⟩,kb D.2 R.1 N.2.2.2.1⟩;have cJ:=iM (kb H.blk R.1 (aD H.jL.own H.blk ov));have⟨O6,cc,ch⟩:=bl.out Y _ cp R;have P:cq Y (Y.setCell ⟨mb,14,none⟩ (.slice a5 (L+1) c5)) (some mb):=eF (bf _ _) _ _ _;have cF:SN w.heap.size b (kI nk T 44 ns (some ⟨b,o,none⟩) t.args0.length E) y (Y.setCell ⟨mb,14,none⟩ (.slice a5 (L+1) c5))/\(Y.setCell ⟨mb,14,none⟩ (.slice a5 (L+1) c5)).heap[U.heap.size]?=some (.cells #[.i J,.i n1,.i I,.string M,.slice c f d,.slice A fE C,.slice j r l] 29):=⟨⟨kb ad.1.1 P N.2.2.2.2.1,kb ad.1.2 P N.2.2.2.2.2.1⟩,kb ad.2 P N.2.2.2.2.2.2⟩;have HE:Hid (jK B O w mb en aC (.go { m with st:=p++v::q }) (.returned (.i 0)) (Y.setCell ⟨mb,14,none⟩ (.slice a5 (L+1) c5))):=⟨O6,(bm.trans (dB.grow an)).trans cc,rfl,ch.G5⟩;clear cc ch P cp R;refine hK _ _ ad (λ_=>?_);clear hK K;refine fG 19 108 ?_;refine fG 20 109 ?_;refine wpAnyH_ready (rs:=[21]) oA oe ?_;refine AllReadyH.cons rfl (λK hK=>?_) AllReadyH.nil;go_simp;refine hK _ _ cF (λ_=>?_);clear hK K;refine wpAnyH_done oA ?_ _;go_wp2_with fail;rw[<-HQ.out];exact HE
end
section
variable {B:Nat}{O O1:br}{w w1:cg}{mb:Nat}{en:En}{aC:Int}{m m1:Ma}{k n a:Int}{s:bp}{aa:bj}{al ac:Nat}{ta:bj}{tl tc:Nat}{na:bj}{nl nc:Nat}
def Fg{x:Va}{W:cg}(h:dm B O w mb en aC m)(e:cq w W none)(g:aA (λb=>¬O b) W x (bg k n a s aa al ac ta tl tc na nl nc))(d:bz m [x] ≠ .stuck)(c:m.st.length<=50000000) :
 Calls prog 209 #[.po mb,.o (W.heap.size) 1 1] (W.alloc (.cells #[.i k,.i n,.i a,.string s,.slice aa al ac,.slice ta tl tc,.slice na nl nc] 29)) (jK B O w mb en aC (bz m [x])) :=
 (sG (h.grow e) g d c).mono λ_ _ f=>f.trans (dB.grow e)
def yZ{r:Int} : bD (kF r).1:=by
 unfold kF;split
 .rename_i h;have:=aX h;unfold bD;omega
 .unfold bD;omega
def H9{p a b:Int} : bD (iU p a b).1:=by
 unfold iU addN Iu mulN;split
 .split
  .exact yZ
  .unfold bD;omega
 .split
  .split
   .exact yZ
   .unfold bD;omega
  .split
   .exact yZ
   .unfold bD;omega
end
