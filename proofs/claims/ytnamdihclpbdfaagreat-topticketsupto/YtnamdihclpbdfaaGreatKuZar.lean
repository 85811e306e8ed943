import Derived.Test.YtnamdihclpbdfaaGreatKuZaq
import Derived.Test.YtnamdihclpbdfaaGreatKuZap
namespace Go.Proofs.YtnamdihclpbdfaaGreat
set_option linter.all false
open Go.Proofs.Tryz
open Go.ChangeShapes Go.WideShapes Go.ChangeAt Go.RowKit
set_option maxRecDepth 100000
set_option maxHeartbeats 4000000
section
variable {B:Nat}{O O':br}{w w':cg}{mb:Nat}{en:En}{aC:Int}{m:Ma}{k n a:Int}{s:bp}{aa:bj}{al ac:Nat}{ta:bj}{tl tc:Nat}{na:bj}{nl nc:Nat}{sv fv:cm}{us fs:bo}
def QK{t:Tr}{nk nn:Int}{ns:bp}{aq:bj}{ar G:Nat}{v:Va}{p q:ao}(hT:bI (λb=>¬O b) w t (af nk nn 43 ns aq ar G))(ha:0<t.args0.length)(hN:(dK t 0).n0=(p.length:Int))(h:dm B O w mb en aC m)(F:m.st=p++v::q)(r:m.st.length<=50000000) :
 Calls prog 197 #[.po mb,af nk nn 43 ns aq ar G] w (jK B O w mb en aC (.go { m with st:=v::(p++q) })):=by
 have⟨k,n,a,s,aa,al,ac,ta,tl,tc,na,nl,nc,sv,fv,us,fs,h⟩:=h;have hS:=h.jL;rw[F,qg5,qd1,qa3,jb1]at hS;obtain⟨g,E,u1,u2,k1,n1,Z,s1,f,l,j,A,fE,C,x,z,y,rfl,hc,rfl,Q,ak,hx,hC,M,N,ab⟩:=hS.mid;obtain⟨b,o,k2,n2,p2,s2,a2,l2,c2,rfl,rfl,hb,I,hA⟩:=BI hT 0 ha;have⟨_,an,_⟩:=vo hA;rw[hN]at an;subst an;simp only[qb3,jh3,qf3]at hc hC I h Q ak M N;have u:p.length+q.length<=49999999:=by rw[F]at r;simp only[jx,js]at r;omega
 have⟨L,hL⟩:∃L,L=p.length+q.length:=⟨_,rfl⟩;rw[show q.length+1+p.length=L+1 by omega]at h hc;have V:Hid ((p++q).length+[v].length<=100000000):=(by simp only[js,qa1,jx];omega:(p++q).length+[v].length<=100000000);have q1:(q.length:Int)<(L:Int)+1:=od
 have q3:(0:Int)<(t.args0.length:Int):=od
 have bc:=Lf.gb (w:=w) (.cells #[.i nk,.i nn,.i 43,.string ns,.slice (some ⟨b,o,none⟩) t.args0.length G] 62);have az:=jh (xF w (.cells #[.i nk,.i nn,.i 43,.string ns,.slice (some ⟨b,o,none⟩) t.args0.length G] 62));have R:=jh (λ(W:cg) (hg:cq w W none)=>Js (B:=B) (w:=W) (g:=g) (L:=L) (cap:=E) (i:=q.length) (J:=q.length+1) (xs:=flat u1) (ys:=nodeCells (bg k1 n1 Z s1 f l j A fE C x z y)) (zs:=flat u2) rfl (by have:=(h.grow hg).jL.own;unfold dF at this;rw[show (u1++bg k1 n1 Z s1 f l j A fE C x z y::u2).length=L+1 by simp only[jx,js];omega,bV]at this;rw[qa3];exact this) M rfl (by rw[N];congr 1;omega) od ab hc)
 have S:=jh (λ(W W':cg) (hg:cq w W none)=>(h.grow hg).ZE (w':=W') F Q hL);have hw:IntKind.i64.wrap ((L:Int) - (p.length:Int))=(q.length:Int)/\IntKind.i64.wrap (L:Int)=(L:Int):=by rw[yb,yb];omega
 have⟨hw,bl⟩:=hw;have bm:wrap64 ((q.length:Int)+1)=((q.length+1:Nat):Int):=(vL rfl ZS).1;have⟨HM,HC,aO,c,HX,bh⟩:=wg h hC I bc hx u;clear h hS hx hC I hb hA r F hN hL hT Q ak hc M N ab u;unfold af;generalize hQ:jK B O w mb en aC (.go { m with st:=v::(p++q) })=Q0;have HQ:=jh hQ;clear hQ;go_enter func197,ntmps197;go_wp2_with fail;generalize w.alloc _=d at *;have K:=λ(w':cg) (h:cq d w' none)=>And.intro (bE (dh az.out h)) (And.intro (iM (dh HM.out.blk (Lf.Zt c.out h))) (And.intro (HC.out.keep (Lf.Zt c.out h) oe) (aO.out.keep (Lf.Zt c.out h) oe)));unfold C7 C5 at K;have bk:cq d d none:=au _ _;go_region_held3 (λw'=>cq d w' none) (first|with_reducible assumption|with_reducible exact aK oR) (fail);have hA1:=λ(w':cg) (o:Obj) (h:cq d w' none)=>Lf.Zt h (Lf.gb o);have hA2:=λ(w':cg) (h:cq d w' none)=>aK h;have Y:Hid (some d.heap.size≠some g/\some d.heap.size≠some mb):=by have h1:=HM.out.high g (HM.out.jL.mine g rfl);have h2:=HM.out.high _ HM.out.mine.1;have h3:=c.out.size;exact⟨λe=>by rw[qq]at e;rw[<-e]at h1;exact jg4 _ (kh h1 h3),λe=>by rw[qq]at e;rw[<-e]at h2;exact jg4 _ (kh h2 h3)⟩
 have ax:Hid ((d.alloc (.cells #[.i k1,.i n1,.i Z,.string s1,.slice f l j,.slice A fE C,.slice x z y] 29)).drew.heap[d.heap.size]?=some (.cells #[.i k1,.i n1,.i Z,.string s1,.slice f l j,.slice A fE C,.slice x z y] 29)):=xF d _;have D:=jh (aK (Lf.gb (w:=d) (.cells #[.i k1,.i n1,.i Z,.string s1,.slice f l j,.slice A fE C,.slice x z y] 29)));go_wp2_with (first
  | (go_at_call 208;(refine (R _ (Lf.Zt c D)).mono ?_);rintro e w3 ⟨rfl,H,P⟩;have⟨O4,ad,ah⟩:=S.out _ w3 (Lf.Zt c D) H P;have z3:=iM (kb (dh HM.blk (Lf.Zt c D)) P (aD HM.jL.own HM.blk ot));have ba:=jh ah;have U:=jh ((dB.grow (Lf.Zt c D)).trans ad);have bn:=cO (kb (kb ax P Y.1) (aX (au _ _) 14 none (.o g L E)) Y.2);have X:=jh (Ha (ba.G5.grow (Lf.gb _)) (Src.one (T:=29) (U.lies HX)) V);have bb:(w3.setCell ⟨mb,14,none⟩ (.o g L E)).heap.size=w3.heap.size:=(by simp[World.setCell]);rw[bb]at X;clear ad ah H)
  | (go_at_call 193;(with_reducible refine X.out.mono ?_);rintro e w5 ⟨rfl,O5,ae,aj⟩;have HE:Hid (jK B O w mb en aC (.go { m with st:=v::(p++q) }) (.returned (.i 0)) w5):=⟨O5,(U.out.trans (dB.grow (Lf.gb _))).trans ae,rfl,aj⟩;clear ae aj))
 rw[<-HQ.out];exact HE
end
section
variable {B:Nat}{O O':br}{w w':cg}{mb:Nat}{en:En}{aC:Int}{m:Ma}{k n a:Int}{s:bp}{aa:bj}{al ac:Nat}{ta:bj}{tl tc:Nat}{na:bj}{nl nc:Nat}{sv fv:cm}{us fs:bo}
def bU.ZF{v:Va}{p q:ao}{g L cap:Nat}{u:cm}{u1 u2:bo}(h:bU B O w mb en aC m k n a s aa al ac ta tl tc na nl nc (.o g L cap) fv (u1++u2) fs)(f:m.st=p++q)(d:u1.length=q.length)(r:L=p.length+q.length)(o:aA (λb=>¬O b) w v u){sv':cm}(l:w'.ownsRow B 29 7 sv' (L+1) (flat u1++(nodeCells u++flat u2)))(i:Gr w (.o g L cap) w' sv') :
 ∃O',dB O w O' (w'.setCell ⟨mb,14,none⟩ sv')/\bU B O' (w'.setCell ⟨mb,14,none⟩ sv') mb en aC { m with st:=p++v::q } k n a s aa al ac ta tl tc na nl nc sv' fv (u1++u::u2) fs:=by
 have c:=h.jL;rw[f,qg5]at c;have j:=c.len;simp only[jx,qb3]at j;have hF:=dB.gr i h.jL.mine;refine⟨_,h.Fv (st:=p++v::q) (us':=u1++u::u2) ?_ i hF⟩;rw[qg5,qd1,qa3,jb1];refine c.ins (by simpa using d) o hF ?_ (λq e=>.inr e);unfold dF;rw[bV,show (u1++u::u2).length=L+1 by simp only[jx,js];omega];exact l
def sU.parts{a l2:ao}{v:cm}(h:sU B O w (a++l2) v us):∃u1 u2,us=u1++u2/\u1.length=a.length/\u2.length=l2.length/\(flat u1).length=a.length*7/\(flat u2).length=l2.length*7/\(∀y∈flat u2,y.oneCell'):=by
 have i:=h.len;simp only[jx]at i;have b:=mO h.len h.lies;rw[<-qc6 a.length us]at b;have g:=lL (λu c=>b u (jb6 _ c));have f:=lL (λu c=>b u (ka2 _ c));have d:(us.take a.length).length=a.length:=ov
 have e:(us.drop a.length).length=l2.length:=ov
 exact⟨us.take a.length,us.drop a.length,(qc6 _ _).symm,d,e,by rw[g.1,d],by rw[f.1,e],f.2⟩
def WK (B:Nat) (w:cg) (sv:cm) (n:Nat) (xs:bo) (e:Ending) (w':cg):Prop:=∃a c,e =.returned (.slice a n c)/\w'.ownsRow B 29 7 (.slice a n c) n xs/\Gr w sv w' (.slice a n c)
def JF{g L cap v:Nat}{xs vs:bo}(h:w.ownsRow B 29 7 (.o g L cap) L xs)(c:L<=100000000)(b:B<=w.heap.size)
 (hv:w.heap[v]?=some (.cells vs.toArray 29)) (hvs:vs.length=7) (h2:∀u∈vs,u.oneCell') :
 Calls prog 209 #[.o g L cap,.i (L:Int),.o v 1 1] w (WK B w (.o g L cap) (L+1) (xs++vs)):=by
 have f:Hid (gZ w (.o v 1 1) 1 vs):=.inr ⟨⟨v,0,none⟩,1,rfl,λj u n=>by rw[gI];simp[World.cell?,hv,n]⟩;have HO:=jh h;have HB:=jh b;have m:=BH h;have o:(L:Int)<=cap:=od
 have HL:=jh c;clear h b hv m c;go_enter func209,ntmps209;go_wp2_with (at_builtin;refine ed rfl _ _ 27 rfl B 29 underlying27 mr rfl ot _ L xs rfl HO _ 1 vs rfl (by rw[hvs]) f h2 (by have:=HL.out;unfold maxLen;omega) (by have:=HL.out;omega) HB ?_;intro p w' a d _;obtain⟨k,l,rfl⟩:=nX a;have e:Hid (WK B w (.o g L cap) (L+1) (xs++vs) (.returned (.slice k (L+1) l)) w'):=⟨_,_,rfl,a,d⟩;clear a d)
 all_goals
  go_ret;exact e
def JE{g L cap i v:Nat}{xs zs vs:bo}(h:w.ownsRow B 29 7 (.o g L cap) L (xs++zs))(l:xs.length=i*7)(c:zs.length=(L - i)*7)(hi:i<=L)(d:∀u∈zs,u.oneCell')(hc:L+1<=cap/\cap<=maxLen)(j:L<=100000000)(f:B<=w.heap.size)
 (hv:w.heap[v]?=some (.cells vs.toArray 29)) (hvs:vs.length=7) (h2:∀u∈vs,u.oneCell') (hne:v≠g) :
 Calls prog 209 #[.o g L cap,.i (i:Int),.o v 1 1] w (WK B w (.o g L cap) (L+1) (xs++(vs++zs))):=by
 by_cases e:i=L
 .subst e;have a:zs=[]:=jz (by rw[c,Nat.sub_self,jh3]);subst a;rw[qc4]at h|-;exact JF h j f hv hvs h2
 .refine (JG rfl rfl h l c od d hc hv hvs h2 hne).mono ?_;rintro e w' ⟨rfl,b,k⟩;rw[qa3]at b;exact⟨_,_,rfl,b,k,.inl rfl⟩
def QL{t:Tr}{nk T:Int}{ns:bp}{cr:bj}{ct E:Nat}{v:Va}{p q:ao}(hT:bI (λb=>¬O b) w t (af nk T 44 ns cr ct E))(ha:0<t.args0.length)(hN:(dK t 0).n0=(p.length:Int))(h:dm B O w mb en aC m)(bc:m.st=v::(p++q))(V:m.st.length<=50000000) :
 Calls prog 197 #[.po mb,af nk T 44 ns cr ct E] w (jK B O w mb en aC (.go { m with st:=p++v::q })):=by
 have⟨k,n,a,s,aa,al,ac,ta,tl,tc,na,nl,nc,sv,fv,us,fs,h⟩:=h;obtain⟨b,o,k2,n2,p2,s2,a2,l2,c2,rfl,rfl,hb,ar,hA⟩:=BI hT 0 ha;have⟨_,cn,_⟩:=vo hA;rw[hN]at cn;subst cn;simp only[jh3,qf3]at ar;have W:p.length+q.length<=49999999:=by rw[bc]at V;simp only[jx,js]at V;omega
 have q3:(0:Int)<(t.args0.length:Int):=od
 have ba:=Lf.gb (w:=w) (.cells #[.i nk,.i T,.i 44,.string ns,.slice (some ⟨b,o,none⟩) t.args0.length E] 62);have⟨bh,HT,aj,bq,aq,cy,cC⟩:=wk (xF w (.cells #[.i nk,.i T,.i 44,.string ns,.slice (some ⟨b,o,none⟩) t.args0.length E] 62)) (Cv (h.grow ba) bc) (ar.keep ba oe) (h.G5.qb (jj _)) hb ba W;have cA:Hid (B<=w.heap.size):=(by have:=h.low _ h.mine.1;have:=h.high _ h.mine.1;omega:B<=w.heap.size);have⟨L,hL⟩:∃L,L=p.length+q.length:=⟨_,rfl⟩;have HL:=jh hL;have cd:(p++q).length=L:=by rw[jx,hL]
 rw[cd]at HT;have hw:IntKind.i64.wrap ((L:Int) - (p.length:Int))=(q.length:Int):=vl
 clear h ar hb hA V bc hN hT W hL cd;unfold af;generalize hQ:jK B O w mb en aC (.go { m with st:=p++v::q })=Q0;have HQ:=jh hQ;clear hQ;go_enter func197,ntmps197;go_wp2_with (first
  | (go_at_call 196;(with_reducible refine HT.out.mono ?_);clear HT;rintro e U ⟨v2,rfl,ax,cb,g,bx,cI,ah,cf⟩;obtain⟨J,n1,I,M,c,f,d,A,fE,C,j,r,l,rfl⟩:=ax.bg;have cz:=jh ax;have ak:=jh cb;have G:=jh cf;have cx:=jh ah;clear ax cb cf ah;unfold bg))
 have cw:=jh (xF U (.cells #[.i J,.i n1,.i I,.string M,.slice c f d,.slice A fE C,.slice j r l] 29));have Q:=jh (Lf.gb (w:=U) (.cells #[.i J,.i n1,.i I,.string M,.slice c f d,.slice A fE C,.slice j r l] 29));have cE:Hid (∃y,SN w.heap.size b (kI nk T 44 ns (some ⟨b,o,none⟩) t.args0.length E) y U):=by have⟨y,hy⟩:=SN.of (x:=(kI nk T 44 ns (some ⟨b,o,none⟩) t.args0.length E)) bh aj.2.1;exact⟨y,hy.YS ak bq aq⟩
 have bk:=jh (aj.YS ak aq);have bm:=jh ((dB.grow cy).trans ak);clear bh aj;generalize U.alloc (.cells #[.i J,.i n1,.i I,.string M,.slice c f d,.slice A fE C,.slice j r l] 29)=Z at *;have⟨y,cl⟩:=cE.out;have ab:SN w.heap.size b (kI nk T 44 ns (some ⟨b,o,none⟩) t.args0.length E) y Z.drew/\Z.drew.heap[U.heap.size]?=some (.cells #[.i J,.i n1,.i I,.string M,.slice c f d,.slice A fE C,.slice j r l] 29):=⟨(cl.grow Q).grow (aK (au _ _)),cw⟩;have cD:=jh ab;have z5:=bk.out.keep (Lf.Zt Q (aK (au _ _))) oe;have z:=iM ((G.grow (Lf.Zt Q (aK (au _ _)))).blk);unfold C5 at z5;have K:=λ(w':cg) (h:SN w.heap.size b (kI nk T 44 ns (some ⟨b,o,none⟩) t.args0.length E) y w'/\w'.heap[U.heap.size]?=some (.cells #[.i J,.i n1,.i I,.string M,.slice c f d,.slice A fE C,.slice j r l] 29))=>And.intro (bE h.1.1) (And.intro (cD.1.cell h.1 z5.2.1) (cO h.2));have H:=jh (G.grow (Lf.Zt Q (Lf.Zt (aK (au _ _)) (Lf.gb (.cells #[.i J,.i n1,.i I,.string M,.slice c f d,.slice A fE C,.slice j r l] 29)))));have an:=jh (Lf.Zt Q (Lf.Zt (aK (au _ _)) (Lf.gb (.cells #[.i J,.i n1,.i I,.string M,.slice c f d,.slice A fE C,.slice j r l] 29))));have D:SN w.heap.size b (kI nk T 44 ns (some ⟨b,o,none⟩) t.args0.length E) y (Z.drew.alloc (.cells #[.i J,.i n1,.i I,.string M,.slice c f d,.slice A fE C,.slice j r l] 29))/\(Z.drew.alloc (.cells #[.i J,.i n1,.i I,.string M,.slice c f d,.slice A fE C,.slice j r l] 29)).heap[U.heap.size]?=some (.cells #[.i J,.i n1,.i I,.string M,.slice c f d,.slice A fE C,.slice j r l] 29):=⟨ab.1.alloc,aB ab.2⟩;have z2:=iM (show (Z.alloc (.cells #[.i J,.i n1,.i I,.string M,.slice c f d,.slice A fE C,.slice j r l] 29)).drew.heap[mb]?=_ from H.out.blk);have X:=H.out.jL;rw[show (p++q).reverse=q.reverse++p.reverse from qg5]at X;obtain⟨u1,u2,rfl,ae,bb,az,aO,ca⟩:=X.parts;rw[qb3]at ae bb az aO;have cG:=jh (H.high);have N:Hid (Z.heap.size≠g/\some w.heap.size≠some g/\some b≠some g/\some U.heap.size≠some g/\some w.heap.size≠some mb/\some b≠some mb/\some U.heap.size≠some mb):=by
  have hg:=G.out.high g (G.jL.mine g rfl);have hm:=G.out.high _ G.mine.1;have h3:=Q.out.size;have cj:=G.out.jL.mine g rfl;have ck:=G.out.mine.1;have n1:=bq.out;have n2:=aq.out;refine⟨λe=>?_,λe=>?_,λe=>?_,λe=>?_,λe=>?_,λe=>?_,λe=>?_⟩
  .rw[e]at h3;exact jg4 _ (kh hg h3)
  .rw[qq]at e;exact n1 (e ▸ cj)
  .rw[qq]at e;exact n2 (e ▸ cj)
  .rw[qq]at e;rw[<-e]at hg;exact jg4 _ hg
  .rw[qq]at e;exact n1 (e ▸ ck)
  .rw[qq]at e;exact n2 (e ▸ ck)
  .rw[qq]at e;rw[<-e]at hm;exact jg4 _ hm
 have bn:=jh (JE (B:=B) (w:=Z.drew.alloc (.cells #[.i J,.i n1,.i I,.string M,.slice c f d,.slice A fE C,.slice j r l] 29)) (g:=g) (L:=L) (cap:=bx) (i:=q.length) (v:=Z.heap.size) (xs:=flat u1) (zs:=flat u2) (vs:=nodeCells (bg J n1 I M c f d A fE C j r l)) (by have h:=H.out.jL.own;unfold dF at h;rw[bV,show (u1++u2).length=L by rw[jx,ae,bb,HL.out,Nat.add_comm]]at h;exact h) az (by rw[aO,show L - q.length=p.length from (by rw[HL.out];exact Nat.add_sub_cancel _ _)]) (by rw[HL.out];exact Nat.le_add_left _ _) ca cx (by rw[HL.out];exact xo cC ot) (xo cA (xo bm.size an.size)) (xF Z.drew _) rfl (by intro u hu;simp[nodeCells,bg]at hu;rcases hu with rfl|rfl|rfl|rfl|rfl|rfl|rfl<;>rfl) N.1)
 have bl:=jh (λ(Y:cg) (cv:cm) ho hG=>H.ZF (v:=v) (w':=Y) (sv':=cv) (u:=(bg J n1 I M c f d A fE C j r l)) rfl ae HL ((dB.grow an).lies cz) ho hG);clear X ae bb az aO ca;clear cl;refine wp_region_held_drew (S:=(λw'=>SN w.heap.size b (kI nk T 44 ns (some ⟨b,o,none⟩) t.args0.length E) y w'/\w'.heap[U.heap.size]?=some (.cells #[.i J,.i n1,.i I,.string M,.slice c f d,.slice A fE C,.slice j r l] 29))) oA ab (λF=>?_);refine bu 0 89 ?_;simp only[Act.put,pS];refine bu 1 90 ?_;simp only[Act.put,pS];refine bu 2 91 ?_;simp only[Act.put,pS];refine bu 3 92 ?_;simp only[Act.put,pS];refine bu 5 94 ?_;simp only[Act.put,pS];refine bu 6 95 ?_;simp only[Act.put,pS];refine bu 7 96 ?_;simp only[Act.put,pS];refine bu 10 99 ?_;simp only[Act.put,pS];refine bu 11 100 ?_;simp only[Act.put,pS];refine bu 12 101 ?_;simp only[Act.put,pS];refine bu 13 102 ?_;simp only[Act.put,pS];refine bu 14 103 ?_;simp only[Act.put,pS];refine bu 16 105 ?_;simp only[Act.put,pS];refine qd4 (rs:=[4,8,17]) oA oe ?_;refine qa4 rfl (λK hK=>?_) (qa4 rfl (λK hK=>?_) (qa4 rfl (λK hK=>?_) qd0))
 focus
  go_simp;refine hK _ _ F (λ_=>?_);clear hK K;refine qd4 (rs:=[8,17]) oA oe ?_;refine qa4 rfl (λK hK=>?_) (qa4 rfl (λK hK=>?_) qd0)
  focus
   go_simp;refine hK _ _ F (λ_=>?_);clear hK K;refine bu 9 98 ?_;simp only[Act.put,pS];refine bu 15 104 ?_;simp only[Act.put,pS];refine qd4 (rs:=[17]) oA oe ?_;refine qa4 rfl (λK hK=>?_) qd0;go_simp;refine hK _ _ D (λ_=>?_);clear hK K
  rotate_left
  focus
   go_simp;refine hK _ _ D (λ_=>?_);clear hK K;refine qd4 (rs:=[8]) oA oe ?_;refine qa4 rfl (λK hK=>?_) qd0;go_simp;refine hK _ _ D (λ_=>?_);clear hK K;refine bu 9 98 ?_;simp only[Act.put,pS];refine bu 15 104 ?_;simp only[Act.put,pS]
  rotate_left
 rotate_left 2
 focus
  go_simp;refine hK _ _ F (λ_=>?_);clear hK K;refine bu 9 98 ?_;simp only[Act.put,pS];refine bu 15 104 ?_;simp only[Act.put,pS];refine qd4 (rs:=[4,17]) oA oe ?_;refine qa4 rfl (λK hK=>?_) (qa4 rfl (λK hK=>?_) qd0)
  focus
   go_simp;refine hK _ _ F (λ_=>?_);clear hK K;refine qd4 (rs:=[17]) oA oe ?_;refine qa4 rfl (λK hK=>?_) qd0;go_simp;refine hK _ _ D (λ_=>?_);clear hK K
  rotate_left
  focus
   go_simp;refine hK _ _ D (λ_=>?_);clear hK K;refine qd4 (rs:=[4]) oA oe ?_;refine qa4 rfl (λK hK=>?_) qd0;go_simp;refine hK _ _ D (λ_=>?_);clear hK K
  rotate_left
 rotate_left 2
 focus
  go_simp;refine hK _ _ D (λ_=>?_);clear hK K;refine qd4 (rs:=[4,8]) oA oe ?_;refine qa4 rfl (λK hK=>?_) (qa4 rfl (λK hK=>?_) qd0)
  focus
   go_simp;refine hK _ _ D (λ_=>?_);clear hK K;refine qd4 (rs:=[8]) oA oe ?_;refine qa4 rfl (λK hK=>?_) qd0;go_simp;refine hK _ _ D (λ_=>?_);clear hK K;refine bu 9 98 ?_;simp only[Act.put,pS];refine bu 15 104 ?_;simp only[Act.put,pS]
  rotate_left
  focus
   go_simp;refine hK _ _ D (λ_=>?_);clear hK K;refine bu 9 98 ?_;simp only[Act.put,pS];refine bu 15 104 ?_;simp only[Act.put,pS];refine qd4 (rs:=[4]) oA oe ?_;refine qa4 rfl (λK hK=>?_) qd0;go_simp;refine hK _ _ D (λ_=>?_);clear hK K
  rotate_left
 rotate_left 2
 all_goals
  refine qd4 (rs:=[18]) oA oe ?_;refine qa4 rfl (λK hK=>?_) qd0;go_simp;refine bn.mono ?_;rintro e Y ⟨a5,c5,rfl,cp,R⟩;have ad:SN w.heap.size b (kI nk T 44 ns (some ⟨b,o,none⟩) t.args0.length E) y Y/\Y.heap[U.heap.size]?=some (.cells #[.i J,.i n1,.i I,.string M,.slice c f d,.slice A fE C,.slice j r l] 29):=⟨⟨kb D.1.1 R.1 N.2.1,kb D.1.2 R.1 N.2.2.1⟩,kb D.2 R.1 N.2.2.2.1⟩;have cJ:=iM (kb H.blk R.1 (aD H.jL.own H.blk ot));have⟨O6,cc,ch⟩:=bl.out Y _ cp R;have P:cq Y (Y.setCell ⟨mb,14,none⟩ (.slice a5 (L+1) c5)) (some mb):=aX (au _ _) _ _ _;have cF:SN w.heap.size b (kI nk T 44 ns (some ⟨b,o,none⟩) t.args0.length E) y (Y.setCell ⟨mb,14,none⟩ (.slice a5 (L+1) c5))/\(Y.setCell ⟨mb,14,none⟩ (.slice a5 (L+1) c5)).heap[U.heap.size]?=some (.cells #[.i J,.i n1,.i I,.string M,.slice c f d,.slice A fE C,.slice j r l] 29):=⟨⟨kb ad.1.1 P N.2.2.2.2.1,kb ad.1.2 P N.2.2.2.2.2.1⟩,kb ad.2 P N.2.2.2.2.2.2⟩;have HE:Hid (jK B O w mb en aC (.go { m with st:=p++v::q }) (.returned (.i 0)) (Y.setCell ⟨mb,14,none⟩ (.slice a5 (L+1) c5))):=⟨O6,(bm.trans (dB.grow an)).trans cc,rfl,ch.G5⟩;clear cc ch P cp R;refine hK _ _ ad (λ_=>?_);clear hK K;refine bu 19 108 ?_;simp only[Act.put,pS];refine bu 20 109 ?_;simp only[Act.put,pS];refine qd4 (rs:=[21]) oA oe ?_;refine qa4 rfl (λK hK=>?_) qd0;go_simp;refine hK _ _ cF (λ_=>?_);clear hK K;refine wpAnyH_done oA ?_ _;go_wp2_with fail;rw[<-HQ.out];exact HE
end
section
variable {B:Nat}{O O1:br}{w w1:cg}{mb:Nat}{en:En}{aC:Int}{m m1:Ma}{k n a:Int}{s:bp}{aa:bj}{al ac:Nat}{ta:bj}{tl tc:Nat}{na:bj}{nl nc:Nat}
def Fg{x:Va}{W:cg}(h:dm B O w mb en aC m)(e:cq w W none)(g:aA (λb=>¬O b) W x (bg k n a s aa al ac ta tl tc na nl nc))(d:bz m [x] ≠ .stuck)(c:m.st.length<=50000000) :
 Calls prog 207 #[.po mb,.o (W.heap.size) 1 1] (W.alloc (.cells #[.i k,.i n,.i a,.string s,.slice aa al ac,.slice ta tl tc,.slice na nl nc] 29)) (jK B O w mb en aC (bz m [x])) :=
 (sG (h.grow e) g d c).mono λ_ _ f=>f.trans (dB.grow e)
def yZ{r:Int} : bD (kF r).1:=by
 unfold kF;split
 .rename_i h;have:=jr h;unfold bD;omega
 .unfold bD;omega
def H9{p a b:Int} : bD (iU p a b).1:=by
 unfold iU addN Iu mulN;split
 .split
  .exact yZ
  .unfold bD;omega
 .split
  .split
   .exact yZ
   .unfold bD;omega
  .split
   .exact yZ
   .unfold bD;omega
end
section
variable {B:Nat}{O O1:br}{w w1:cg}{mb:Nat}{en:En}{aC:Int}{m m1:Ma}
end
section
variable {B:Nat}{O O':br}{w w':cg}{mb:Nat}{en:En}{aC:Int}{m:Ma}{t:Tr}{nk nn:Int}{ns:bp}{nap:bj}{nlp ncp:Nat}
def tZ(w:cg)(d a c2 b c e f:cm):(Instr.field 29 (.agg #[d,a,c2,b,c,e,f]) 4).run prog w =.ok c w/\(Instr.field 29 (.agg #[d,a,c2,b,c,e,f]) 3).run prog w =.ok b w/\(Instr.field 29 (.agg #[d,a,c2,b,c,e,f]) 1).run prog w =.ok a w:=by simp[Instr.field,qa2 underlying29,asAgg,go_sem]
attribute [local go_sem] tZ
def dB.node{v:cm}(f:dB O w O' w')(h:bI (λb=>¬O b) w t v):bI (λb=>¬O' b) w' t v :=
 ((h.ae (ok':=λb=>¬O b/\¬O' b) (λb a e=>⟨e,λg=>by rcases f.new b g with d|d;exact e d;omega⟩)).same (λb o a c=>f.same b o a.1 c)).ae (λb _ a=>a.2)
end
attribute [local go_sem] tZ
section
variable {B:Nat}{O O':br}{w w':cg}{mb:Nat}{en:En}{aC:Int}{m:Ma}
def dm.Ze(h:dm B O w mb en aC m)(q:Int)(r:bD q):dm B O (w.setCell ⟨mb,6,none⟩ (.i q)) mb en aC { m with aO:=q }/\dB O w O (w.setCell ⟨mb,6,none⟩ (.i q)):=by
 have⟨k,n,a,s,aa,al,ac,ta,tl,tc,na,nl,nc,sv,fv,us,fs,h⟩:=h;have o:cq w (w.setCell ⟨mb,6,none⟩ (.i q)) (some mb):=aX (au _ _) _ _ _;have f:dB O w O (w.setCell ⟨mb,6,none⟩ (.i q)):=dB.ofRow o (λg e=>by cases e;exact h.mine.1);have j:=h.apart;have d:∀g,O g->g≠mb->(w.setCell ⟨mb,6,none⟩ (.i q)).heap[g]?=w.heap[g]?:=λg c l=>o.block g (h.high g c) (by simpa using l);refine⟨⟨_,_,_,_,_,_,_,_,_,_,_,_,_,_,_,_,_,(nG h.blk sv).2.2.2 q,f.lies h.said,h.jL.kept f λg e=>⟨h.jL.mine g e,d g (h.jL.mine g e) (j.1 g e).1⟩,iT h.own λg e=>d g (h.mine.2 g e) (λp=>j.2.2 (by rw[<-p];exact e)),h.sZ.kept f λg e=>⟨(h.sZ.mine g e).1,d g (h.sZ.mine g e).1 (j.2.1 g e).1⟩,h.nodup,h.mine,h.low,λb c=>?_,⟨h.num.1,r,h.num.2.2⟩⟩,f⟩
 by_cases e:b=mb
 .subst e;exact⟨_,_,(nG h.blk sv).2.2.2 q⟩
 .rw[d b c e];exact h.cells b c
def dm.seen(h:dm B O w mb en aC m):w.cell? ⟨mb,0,none⟩=some (.i en.self)/\w.cell? ⟨mb,6,none⟩=some (.i m.aO)/\(∀o,w.frozen? ⟨mb,o,none⟩=false)/\mb<w.heap.size/\O mb:=by have⟨k,n,a,s,aa,al,ac,ta,tl,tc,na,nl,nc,sv,fv,us,fs,h⟩:=h;have⟨b,_,_,_,_,_,c,_,_,d⟩:=iM h.blk;exact⟨b,c,d,h.high _ h.mine.1,h.mine.1⟩
def jK.seen{o:Out}{e:Ending}(h:jK B O w mb en aC o e w'):w'.cell? ⟨mb,0,none⟩=some (.i en.self):=by
 have⟨O',_,h⟩:=h
 cases o with
 | stuck=>exact h.elim
 | no a m=>have⟨_,_,b,_,_,h⟩:=h;exact h.seen.1
 | go m=>exact h.2.seen.1
def SB (p mb:Nat) (x:Obj) (v:cm) (w:cg):Prop:=w.heap[p]?=some x/\w.cell? ⟨mb,0,none⟩=some v
def SB.grow{p:Nat}{x:Obj}{v:cm}(h:SB p mb x v w)(a:cq w w' none):SB p mb x v w':=⟨dh h.1 a,oG a h.2⟩
def aer{x:Va}{N:Int}{l:bj}{al ac:Nat}{ta:bj}{tl tc:Nat}{na:bj}{q nc:Nat}(hN:bD N)(hs:bD en.self)(h:dm B O w mb en aC m)(Z:aA (λb=>¬O b) w x (bg x.k x.n x.a x.s l al ac ta tl tc na q nc))(c:(if N=0 then bz m [noneV]else if (addN m.aO N).2=0 then bz { m with aO:=(addN m.aO N).1 } [aV (aM en.self N x)]else .no (addN m.aO N).2 m) ≠ .stuck)(f:m.st.length<=50000000) :
 Calls prog 229 #[.po mb,.agg #[.i x.k,.i x.n,.i x.a,.string x.s,.slice l al ac,.slice ta tl tc,.slice na q nc],.i N] w (jK B O w mb en aC (if N=0 then bz m [noneV]else if (addN m.aO N).2=0 then bz { m with aO:=(addN m.aO N).1 } [aV (aM en.self N x)]else .no (addN m.aO N).2 m)):=by
 have P:=jh f;have HM:=jh h;have d:=Lf.gb (w:=w) (.cells #[.i x.k,.i x.n,.i x.a,.string x.s,.slice l al ac,.slice ta tl tc,.slice na q nc] 29);obtain⟨G,I,HX⟩:=JT (xF w (.cells #[.i x.k,.i x.n,.i x.a,.string x.s,.slice l al ac,.slice ta tl tc,.slice na q nc] 29)) d Z
 by_cases h0:N=0
 .subst h0;simp only[↓reduceIte]at c|-;have u:=jh c;clear h c f Z d;generalize V:jK B O w mb en aC (bz m [noneV])=Q;have HQ:=jh V;clear V;go_enter func229,ntmps229;go_wp2_with (first
   | (go_at_call 210;(with_reducible refine (QV _).mono ?_);rintro e w5 ⟨rfl,j⟩;have S:=jh (Fg (x:=noneV) HM.out (Lf.Zt I.out j) (qJ On On On (yv _)) u.out P.out);unfold bg at S;clear j;unfold bg)
   | (go_at_call 207;(with_reducible refine S.out.mono ?_);rintro e w9 F;obtain⟨er,rfl,o⟩:=F.ret;have HE:=jh o;clear F o))
  rw[<-HQ.out];exact HE
 .have n1:(N==0)=false:=qh7.2 h0;simp only[h0,↓reduceIte]at c|-;have r:=jh (Lc m.aO N);have v:bD (addN m.aO N).1:=H9 (p:=69);obtain⟨M,E,y⟩:∃M E,addN m.aO N=(M,E):=⟨_,_,rfl⟩;rw[y]at r c v|-;simp only at c v|-;have e1:=(h.grow d).seen
  by_cases U:E=0
  .subst U;simp only[↓reduceIte]at c|-;have u:=jh c;have D:=(h.grow d).Ze M v;have e2:=D.1.seen;have R:=jh D;have Y:w.heap.size≠mb:=by have:=h.seen.2.2.2.1;omega
   obtain⟨ab,aj,ad⟩:=JT ((World.grownBy.block (aX (au _ _) 6 none (.i M)) w.heap.size (kj.1 G).1 (by simpa using Y)).trans G) (h.qb (jj _)) e2;clear h c f Z d D y e2;generalize V:jK B O w mb en aC (bz { m with aO:=M } [aV (aM en.self N x)])=Q;have HQ:=jh V;clear V;go_enter func229,ntmps229;go_wp2_with (first
    | (go_at_call 157;(with_reducible refine (r.out _).mono ?_);rintro e w' ⟨rfl,rfl⟩))
   have C:=aK (au ((w.alloc (.cells #[.i x.k,.i x.n,.i x.a,.string x.s,.slice l al ac,.slice ta tl tc,.slice na q nc] 29)).setCell ⟨mb,6,none⟩ (.i M)) none);generalize ((w.alloc (.cells #[.i x.k,.i x.n,.i x.a,.string x.s,.slice l al ac,.slice ta tl tc,.slice na q nc] 29)).setCell ⟨mb,6,none⟩ (.i M))=W2 at *;have W:SB w.heap.size mb (.cells #[.i x.k,.i x.n,.i x.a,.string x.s,.slice l al ac,.slice ta tl tc,.slice na q nc] 29) (.i en.self) W2.drew:=⟨ab.out,ad.out.1⟩;have K:=λ(w':cg) (h:SB w.heap.size mb (.cells #[.i x.k,.i x.n,.i x.a,.string x.s,.slice l al ac,.slice ta tl tc,.slice na q nc] 29) (.i en.self) w')=>And.intro (cO h.1) h.2;have t:=jh (R.out.1.grow C);have H:=jh (((dB.grow I.out).trans R.out.2).trans (dB.grow C));clear C;go_region_held3 (SB w.heap.size mb (.cells #[.i x.k,.i x.n,.i x.a,.string x.s,.slice l al ac,.slice ta tl tc,.slice na q nc] 29) (.i en.self)) (first|with_reducible assumption|exact W|exact z.grow (Lf.gb _)) (first
    | (go_at_call 245;(with_reducible refine (KG _ _ _).mono ?_);rintro e w5 ⟨g,X,rfl,j,T⟩;have ak:=W.grow j;have J:=jh j;have ah:=jh (GY (ok:=λb=>¬O b) (K:=15) (N:=N) (A:=en.self) T (t.out.qb X) ((dB.grow j).lies (H.out.lies HX.out)) On hN hs);clear X j T;unfold bg)
    | (go_at_call 212;(with_reducible refine (RN _).mono ?_);rintro e w6 ⟨g,X,rfl,j,T⟩;have z:=ak.grow j;have L:=jh (Lf.Zt J.out j);have S:=jh (sG (x:=aV (aM en.self N x)) (t.out.grow L.out) (GY T (t.out.qb (xo J.out.size X)) ((dB.grow j).lies ah.out) On On On) u.out P.out);unfold bg at S;clear X j T;unfold bg)
    | (go_at_call 207;(with_reducible refine S.out.mono ?_);rintro e w9 F;have an:SB w.heap.size mb (.cells #[.i x.k,.i x.n,.i x.a,.string x.s,.slice l al ac,.slice ta tl tc,.slice na q nc] 29) (.i en.self) w9:=⟨F.kept (kj.1 z.1).1 aj.out z.1,F.seen⟩;obtain⟨er,rfl,o⟩:=(F.trans (H.out.trans (dB.grow L.out))).ret;have HE:=jh o;clear F o))
   go_wp2_with fail;rw[<-HQ.out];exact HE
  .have e2:(E==0)=false:=qh7.2 U;have e3:(E != 0):=by rw[bne_iff_ne];exact U
   simp only[U,↓reduceIte]at c|-;have ae:Hid (jK B O w mb en aC (.no E m) (.returned (.i E)) (w.alloc (.cells #[.i x.k,.i x.n,.i x.a,.string x.s,.slice l al ac,.slice ta tl tc,.slice na q nc] 29))):=⟨O,dB.grow d,U,rfl,m,rfl,rfl,h.grow d⟩;clear h c f Z d y;go_enter func229,ntmps229;go_wp2_with (first
    | (go_at_call 157;(with_reducible refine (r.out _).mono ?_);rintro e w' ⟨rfl,rfl⟩))
   go_ret;exact ae
def KO{x y:Va}{st:ao}(V:bD en.self)(h:dm B O w mb en aC m)(f:m.st=x::y::st)(b:iB en 84 m ≠ .stuck)(c:m.st.length<=50000000):Calls prog 205 #[.po mb,.i 84] w (jK B O w mb en aC (iB en 84 m)):=by
 have⟨o,S,F⟩:∃o,((if y.n=0 then bz { m with st:=st } [noneV]else if (addN m.aO y.n).2=0 then bz { m with st:=st,aO:=(addN m.aO y.n).1 } [aV (aM en.self y.n x)]else .no (addN m.aO y.n).2 { m with st:=st }))=o/\(o ≠ .stuck)/\∀e w',jK B O w mb en aC o e w'->jK B O w mb en aC (iB en 84 m) e w':=by
  refine⟨_,rfl,?_,?_⟩
  .simp only[iB,f,↓reduceIte]at b;split
   .rename_i h0;rw[if_pos h0]at b;exact b
   .rename_i h0;rw[if_neg h0]at b;split
    .rename_i t;rw[if_pos t]at b;exact b
    .exact λe=>by cases e
  .intro e w' d;simp only[iB,f,↓reduceIte];split
   .rename_i h0;rw[if_pos h0]at d;exact d
   .rename_i h0;rw[if_neg h0]at d;split
    .rename_i t;rw[if_pos t]at d;exact d
    .rename_i t;rw[if_neg t]at d;exact d
 refine Calls.mono ?_ F.2;replace b:=F.1;clear F;subst S;have H:=jh (yB h f);have D:Hid (st.length<=50000000):=by rw[f]at c;exact (by simp only[js]at c;omega:st.length<=50000000)
 have E:=jh b;clear h f b c;generalize I:jK B O w mb en aC (if y.n=0 then bz { m with st:=st } [noneV]else if (addN m.aO y.n).2=0 then bz { m with st:=st,aO:=(addN m.aO y.n).1 } [aV (aM en.self y.n x)]else .no (addN m.aO y.n).2 { m with st:=st })=Q;have L:=jh I;clear I;go_enter func205,ntmps205;go_wp2_with (first
  | (go_at_call 196;(with_reducible refine H.out.mono ?_);clear H;rintro e w1 ⟨v,rfl,g,hF,q⟩;obtain⟨k,n,a,s,aa,al,ac,ta,tl,tc,na,nl,nc,rfl⟩:=g.bg;obtain⟨rfl,rfl,rfl,rfl⟩:=qK g;have HL:=jh g;have A:=jh hF;have r:=jh (λw' (U:cq w1 w' none)=>yB (q.grow U) rfl);have G:=jh (q.qb (jj _));clear g hF q;unfold bg))
 have l:(w1.alloc (.cells #[.i x.k,.i x.n,.i x.a,.string x.s,.slice aa al ac,.slice ta tl tc,.slice na nl nc] 29)).heap[w1.heap.size]?=some (.cells #[.i x.k,.i x.n,.i x.a,.string x.s,.slice aa al ac,.slice ta tl tc,.slice na nl nc] 29):=xF _ _;have u:=Lf.gb (w:=w1) (.cells #[.i x.k,.i x.n,.i x.a,.string x.s,.slice aa al ac,.slice ta tl tc,.slice na nl nc] 29);generalize w1.alloc (.cells #[.i x.k,.i x.n,.i x.a,.string x.s,.slice aa al ac,.slice ta tl tc,.slice na nl nc] 29)=W1 at *;have j:=jh u;clear u;have K:=λ(w':cg) (h:w'.heap[w1.heap.size]?=some (.cells #[.i x.k,.i x.n,.i x.a,.string x.s,.slice aa al ac,.slice ta tl tc,.slice na nl nc] 29))=>cO h;go_region_held3 (λw'=>w'.heap[w1.heap.size]?=some (.cells #[.i x.k,.i x.n,.i x.a,.string x.s,.slice aa al ac,.slice ta tl tc,.slice na nl nc] 29)) (first|with_reducible assumption|exact l|exact aB p|exact aB hS5) (first
  | (go_at_call 196;(with_reducible refine (r.out _ (aK j.out)).mono ?_);clear r;rintro e w2 ⟨v,rfl,g,hF,q⟩;obtain⟨k1,n1,a1,s1,M,R,P,Z,fE,ab,W,Y,X,rfl⟩:=g.bg;obtain⟨rfl,rfl,rfl,rfl⟩:=qK g;have p:=(hF.block _ (kj.1 l).1 G.out).trans l;replace HL:=jh (hF.lies ((dB.grow (aK j.out)).lies HL.out));have C:=jh g;replace A:=jh ((A.out.trans (dB.grow (aK j.out))).trans hF);have HM:=jh q;clear g hF q;unfold bg)
  | (go_at_call 229;(with_reducible refine (aer (N:=y.n) (QF C.out) V HM.out HL.out E.out D.out).mono ?_);rintro e w9 d;have T:=d.kept (kj.1 p).1 G.out p;obtain⟨er,rfl,z⟩:=(d.trans A.out).ret;have J:=jh z;clear d z))
 go_wp2_with fail;rw[<-L.out];exact J
end
attribute [local go_sem] tZ
section
variable {B:Nat}{O O':br}{w w':cg}{mb:Nat}{en:En}{aC:Int}{m:Ma}{t:Tr}{nk nn:Int}{ns:bp}{nap:bj}{nlp ncp:Nat}
end
attribute [local go_sem] tZ
section
variable {B:Nat}{O O':br}{w w':cg}{mb:Nat}{en:En}{aC:Int}{m:Ma}{t:Tr}{nk nn:Int}{ns:bp}{nap:bj}{nlp ncp:Nat}
def wh (w:cg) (mb:Nat) (k n a:Int) (s:bp) (aa:bj) (al ac:Nat) (ta:bj) (tl tc:Nat) (na:bj) (nl nc:Nat):cg:=((((((w.setCell ⟨mb,7,none⟩ (.i k)).setCell ⟨mb,8,none⟩ (.i n)).setCell ⟨mb,9,none⟩ (.i a)).setCell ⟨mb,10,none⟩ (.string s)).setCell ⟨mb,11,none⟩ (.slice aa al ac)).setCell ⟨mb,12,none⟩ (.slice ta tl tc)).setCell ⟨mb,13,none⟩ (.slice na nl nc)
def dm.say{x:Va}{k n a:Int}{s:bp}{c:bj}{al ac:Nat}{ta:bj}{tl tc:Nat}{na:bj}{f nc:Nat}(h:dm B O w mb en aC m)(v:aA (λb=>¬O b) w x (bg k n a s c al ac ta tl tc na f nc)):dm B O (wh w mb k n a s c al ac ta tl tc na f nc) mb en aC { m with said:=x }/\dB O w O (wh w mb k n a s c al ac ta tl tc na f nc):=by
 have⟨G,n0,F,H,r,al0,t,C,E,D,y,A,z,sv,fv,us,fs,h⟩:=h;have q:cq w (wh w mb k n a s c al ac ta tl tc na f nc) (some mb):=by unfold wh;exact aX (aX (aX (aX (aX (aX (aX (au _ _) _ _ _) _ _ _) _ _ _) _ _ _) _ _ _) _ _ _) _ _ _
 have d:(wh w mb k n a s c al ac ta tl tc na f nc).heap[mb]?=some (.cells (yG en aC m.paid m.aO k n a s c al ac ta tl tc na f nc sv fv) 214):=by have i:=h.blk;unfold wh;unfold yG at i|-;simp[World.setCell,ja2,i]
 have l:dB O w O (wh w mb k n a s c al ac ta tl tc na f nc):=dB.ofRow q (λg e=>by cases e;exact h.mine.1);have o:=h.apart;generalize wh w mb k n a s c al ac ta tl tc na f nc=W at *;have i:∀g,O g->g≠mb->W.heap[g]?=w.heap[g]?:=λg j p=>q.block g (h.high g j) (by simpa using p);refine⟨⟨_,_,_,_,_,_,_,_,_,_,_,_,_,_,_,_,_,d,l.lies v,h.jL.kept l λg e=>⟨h.jL.mine g e,i g (h.jL.mine g e) (o.1 g e).1⟩,iT h.own λg e=>i g (h.mine.2 g e) (λu=>o.2.2 (by rw[<-u];exact e)),h.sZ.kept l λg e=>⟨(h.sZ.mine g e).1,i g (h.sZ.mine g e).1 (o.2.1 g e).1⟩,h.nodup,h.mine,h.low,λb j=>?_,h.num⟩,l⟩
 by_cases e:b=mb
 .subst e;exact⟨_,_,d⟩
 .rw[i b j e];exact h.cells b j
def dm.wh(h:dm B O w mb en aC m):∃k n a s aa al ac ta tl tc na nl nc,w.cell? ⟨mb,7,none⟩=some (.i k)/\w.cell? ⟨mb,8,none⟩=some (.i n)/\w.cell? ⟨mb,9,none⟩=some (.i a)/\w.cell? ⟨mb,10,none⟩=some (.string s)/\w.cell? ⟨mb,11,none⟩=some (.slice aa al ac)/\w.cell? ⟨mb,12,none⟩=some (.slice ta tl tc)/\w.cell? ⟨mb,13,none⟩=some (.slice na nl nc):=by have⟨k,n,a,s,aa,al,ac,ta,tl,tc,na,nl,nc,sv,fv,us,fs,h⟩:=h;have b:=h.blk;refine⟨k,n,a,s,aa,al,ac,ta,tl,tc,na,nl,nc,?_⟩;simp[World.cell?,b,yG]
def R9{x:Va}{st:ao}(h:dm B O w mb en aC m)(p:m.st=x::st) :
 Calls prog 204 #[.po mb,af nk nn 83 ns nap nlp ncp] w (jK B O w mb en aC (.no 10 { m with said:=x })):=by
 have r:=jh (h.qb (jj _));have c:=Lf.gb (w:=w) (kI nk nn 83 ns nap nlp ncp);have⟨b,f,t⟩:=JT (xF w (kI nk nn 83 ns nap nlp ncp)) c (yB (h.grow c) p);clear h p c;generalize u:jK B O w mb en aC (.no 10 { m with said:=x })=N;have z:=jh u;clear u;unfold af;go_enter func204,ntmps204;unfold kI at b f t;go_wp2_with (first
  | (go_at_call 196;(with_reducible refine t.out.mono ?_);clear t;rintro e w1 ⟨v,rfl,j,hF,d⟩;obtain⟨k,n,a,s,aa,al,ac,ta,tl,tc,na,nl,nc,rfl⟩:=j.bg;obtain⟨rfl,rfl,rfl,rfl⟩:=qK j;have y:=jh ((dB.grow f.out).trans hF);have l:=(hF.block _ (kj.1 b.out).1 r.out).trans b.out;have T:=bE (aB (o:=(.cells #[.i x.k,.i x.n,.i x.a,.string x.s,.slice aa al ac,.slice ta tl tc,.slice na nl nc] 29)) l);have HL:=jh j;have HM:=jh d;have F:=d.seen;have⟨Q,R,P,S,A,D,C,K,M,L,H,J,I,G⟩:=d.wh;have q:=d.say j;have g:=jh q;have E:=d.seen.2.2.2.1;clear q;clear j hF d l;unfold bg))
 rw[<-z.out];exact⟨O,y.trans (g.2.trans (dB.grow (Lf.gb _))),ot,rfl,{ m with st:=st,said:=x },rfl,rfl,g.1.grow (Lf.gb _)⟩
end
attribute [local go_sem] tZ
section
variable {B:Nat}{O O':br}{w w':cg}{mb:Nat}{en:En}{aC:Int}{m:Ma}{k n a:Int}{s:bp}{aa:bj}{al ac:Nat}{ta:bj}{tl tc:Nat}{na:bj}{nl nc:Nat}{sv fv:cm}{us fs:bo}
def dB.WS{row:Option Nat}(a:cq w w' row)(g:∀r,row=some r->O r){N:Nat}(d:w.heap.size<=N):dB O w (λb=>O b\/b=N) w' :=
 ⟨a.os,a.tape,a.output,a.size,λb c f=>a.block b c (λe=>f (g b e.symm)),λb c=>by rcases c with h|rfl;exact .inl h;exact .inr d⟩
def Vk{x:Va}{N:Nat}{k n a:Int}{s:bp}{c:bj}{al ac:Nat}{ta:bj}{tl tc:Nat}{na:bj}{f nc:Nat}(hb:w.heap[N]?=some (.cells #[.i k,.i n,.i a,.string s,.slice c al ac,.slice ta tl tc,.slice na f nc] 29))(l:B<=N)(m:O N)(h:aA (λb=>¬O b) w x (bg k n a s c al ac ta tl tc na f nc)):sU B O w [x] (.o N 1 1) [bg k n a s c al ac ta tl tc na f nc]:=by
 refine⟨⟨rfl,.inr ⟨N,1,_,rfl,l,hb,jj _,by unfold maxLen;decide,rfl,rfl⟩⟩,rfl,λi y u d j=>?_,λg e=>by cases e;exact m⟩
 cases i with
 | zero=>simp at d j;subst d;subst j;exact h
 | succ i=>simp at d
def bU.exec{f:Fr}{x:Va}{ra:bj}{rc:Nat}{j:cg}{VR:bt}{ba:bj}{bl bc:Nat}{k1 n1 a1:Int}{s1:bp}{A:bj}{D C:Nat}{K:bj}{fE L:Nat}{H:bj}{J I:Nat}{e:Ending}
 (h:bU B O w mb en aC m k n a s aa al ac ta tl tc na nl nc (.slice ba bl bc) fv us fs) (hf:f.op=67/\f.row=[]/\f.aside=m.st.reverse) (hr:cK (λb=>¬O b) w f.rest ra VR) (hrc:f.rest.length<=rc) (hE:IW B w mb fv (fs++[yF ra f.rest.length rc 67 none 0 0 ba bl bc]) e j) (hx:aA (λb=>¬O b) w x (bg k1 n1 a1 s1 A D C K fE L H J I)) :
 ∀w',w'=(j.alloc (.cells #[.i k1,.i n1,.i a1,.string s1,.slice A D C,.slice K fE L,.slice H J I] 29)).setCell ⟨mb,14,none⟩ (.o (j.heap.size) 1 1)->jK B O w mb en aC (.go { m with st:=[x],fr:=f::m.fr }) (.returned (.i 0)) w':=by
 rintro w' rfl;obtain⟨rfl,c,w1,U,ho,rfl⟩:=hE;have⟨G,v,t⟩:=hf;have M:=h.apart;have P:=h.jL.len;have E:bl=m.st.length:=by have⟨a',c',e⟩:=nX h.jL.own;cases e;rw[P,qb3]
 have d:cq w1 (w1.setCell ⟨mb,15,none⟩ c) (some mb):=aX (au _ _) _ _ _;have ad:qx O fv c mb:=.inl ⟨h.mine.1,M.2.2⟩;have an:=(dB.gr U h.mine.2).trans (dB.ofRow d (λq e=>by cases e;exact ad));have ax:=(nG ((U.block (h.high _ h.mine.1) M.2.2.symm).trans h.blk) c).2.1;have Z:∀g,c.ownBlock=some g->g≠mb:=λg e V=>by
  subst V;rcases U.2 with e3|⟨g',e3,hg⟩
  .exact M.2.2 (by rw[<-e3,e])
  .rw[e]at e3;cases e3;have:=h.high _ h.mine.1;omega
 have T:∀g,O g->g≠mb->fv.ownBlock≠some g->(w1.setCell ⟨mb,15,none⟩ c).heap[g]?=w.heap[g]?:=λg Q h1 h2=>(d.block g (kh (h.high g Q) U.1.size) (by simpa using h1)).trans (U.block (h.high g Q) h2.symm);have S:kU B (w1.setCell ⟨mb,15,none⟩ c) c (fs++[yF ra f.rest.length rc 67 none 0 0 ba bl bc]):=iT ho λg e=>d.block g (qb5 ho g e).2 (by simpa using Z g e);have ah:w.heap.size<=(w1.setCell ⟨mb,15,none⟩ c).heap.size:=xo U.1.size d.size;generalize bn:w1.setCell ⟨mb,15,none⟩ c=j at *;have ab:=Lf.gb (w:=j) (.cells #[.i k1,.i n1,.i a1,.string s1,.slice A D C,.slice K fE L,.slice H J I] 29);have Y:=xF j (.cells #[.i k1,.i n1,.i a1,.string s1,.slice A D C,.slice K fE L,.slice H J I] 29);generalize j.alloc _=X at *;have y:cq X (X.setCell ⟨mb,14,none⟩ (.o (j.heap.size) 1 1)) (some mb):=aX (au _ _) _ _ _;have F:=bZ (ma (r:=some mb) ab) y;have aq:dB (qx O fv c) j (λb=>qx O fv c b\/b=j.heap.size) _:=dB.WS F (λr e=>by cases e;exact ad) (jj j.heap.size);have hF:=an.trans aq;have bk:=h.high _ h.mine.1;have ar:j.heap.size≠mb:=od
 have N:=(nG (dh ax ab) (.o (j.heap.size) 1 1)).1;have W:=(y.block j.heap.size (kj.1 Y).1 (by simpa using ar)).trans Y;have o:∀g,O g->g≠mb->fv.ownBlock≠some g->(X.setCell ⟨mb,14,none⟩ (.o (j.heap.size) 1 1)).heap[g]?=w.heap[g]?:=λg Q h1 h2=>(F.block g (kh (h.high g Q) ah) (by simpa using h1)).trans (T g Q h1 h2);have bm:=h.low _ h.mine.1;have aO:=h.nodup;refine⟨_,hF,rfl,_,_,_,_,_,_,_,_,_,_,_,_,_,_,_,_,_,h.push (st:=[x]) (f:=f) (u:=yF ra f.rest.length rc 67 none 0 0 ba bl bc) hF N (Vk W od (.inr rfl) (hF.lies hx)) (iT S λg e=>F.block g (qb5 S g e).2 (by simpa using Z g e)) ?_ ?_ (λg Q bb=>.inl (.inl ⟨Q,bb⟩)) (λg hg=>o g (h.sZ.mine g hg).1 (M.2.1 g hg).1 (M.2.1 g hg).2.1) (λg e=>.inl (.inr e)) (λb l=>?_)⟩
 .refine⟨ra,rc,none,0,ba,bc,VR,VR,?_,by rw[G];unfold bD;decide,⟨hrc,by rw[v];exact yv _,?_⟩,hF.Kl hr,by rw[v];exact cK.nil _ _ _ _,λ_=>⟨us,?_⟩,λe=>absurd G e⟩
  .rw[v,t,G,E,qb3];rfl
  .rw[t,qb3,<-E];rcases h.jL.own.2 with⟨e,_⟩|⟨g,aj,ak,e,_,_,ae,_⟩
   .cases e;exact yv _
   .cases e;rw[P,qb3,<-E]at ae;exact ae
  .rw[t,qb3,<-E];exact h.jL.kept hF λg e=>⟨.inl (.inl ⟨h.jL.mine g e,(M.1 g e).2⟩),o g (h.jL.mine g e) (M.1 g e).1 (M.1 g e).2⟩
 .have az:lM f (yF ra f.rest.length rc 67 none 0 0 ba bl bc)=(Value.slice ba bl bc).ownBlock.toList:=by unfold lM;rw[if_pos G];rfl
  rw[az];have R:=qe0.1 aO;refine qe0.2 ⟨Of,qe0.2 ⟨R.2.1,R.1,λp hp q z e=>R.2.2 q z p hp e.symm⟩,λp hp q z e=>?_⟩;have hp:p=j.heap.size:=by simpa[Value.ownBlock]using hp
  have bh:O q:=by
   rcases ki.1 z with z|z
   .exact (h.sZ.mine q z).1
   .exact h.jL.mine q (Option.mem_toList.1 z)
  have:=h.high q bh;omega
 .rcases l with l|rfl
  .by_cases e:b=mb
   .subst e;exact⟨_,_,N⟩
   .rcases l with l|l
    .rw[o b l.1 e l.2];exact h.cells b l.1
    .rcases S.2 with⟨V,_⟩|⟨g,aj,ak,V,_,z,_⟩
     .rw[V]at l;cases l
     .rw[V]at l;cases l;rw[F.block _ (kj.1 z).1 (by simpa using e)];exact⟨_,_,z⟩
  .exact⟨_,_,W⟩
def aA.EN{ok:br}{w:cg}{x:Va}{v:cm}(h:aA ok w x v):∃aa ac ta tc na nc VT VN,v=Go.Proofs.YtnamdihclpbdfaaGreat.bg x.k x.n x.a x.s aa x.args.length ac ta x.types.length tc na x.code.length nc/\(x.code.length<=nc/\x.types.length<=tc)/\dw ok w x.types ta VT/\cK ok w x.code na VN:=by
 cases h with
 | mk V VT VN f d i m j l c b e g=>exact⟨_,_,_,_,_,_,VT,VN,rfl,oR,c,b⟩
def aA.Yr{ok:br}{x:Va}{k n a:Int}{s:bp}{b ta na:bj}{al d tl tc l nc:Nat}(h:aA ok w x (Go.Proofs.YtnamdihclpbdfaaGreat.bg k n a s b al d ta tl tc na l nc)):x.code.length<=nc:=by have⟨c,f,m,o,i,j,q,p,e,g,_⟩:=h.EN;unfold Go.Proofs.YtnamdihclpbdfaaGreat.bg at e;simp only[ja5,jc3,qa5,ye,and_true]at e;obtain⟨_,_,_,_,_,_,rfl,rfl,rfl⟩:=e;exact g.1
def Nj{u:bo}{e:Ending}(h:bU B O w mb en aC m k n a s aa al ac ta tl tc na nl nc sv fv us fs)(l:IW B w mb fv u e w'):(∀(b:Nat) (x:Obj),w.heap[b]?=some x->¬O b->w'.heap[b]?=some x)/\∃c,w'.heap[mb]?=some (.cells (yG en aC m.paid m.aO k n a s aa al ac ta tl tc na nl nc sv c) 214):=by obtain⟨rfl,c,w1,g,o,rfl⟩:=l;have d:cq w1 (w1.setCell ⟨mb,15,none⟩ c) (some mb):=aX (au _ _) _ _ _;refine⟨λb x j i=>?_,c,(nG ((g.block (h.high _ h.mine.1) h.apart.2.2.symm).trans h.blk) c).2.1⟩;have f:=(kj.1 j).1;exact (d.block b (kh f g.1.size) (by intro e;cases e;exact i h.mine.1)).trans ((g.1.block b f (λe=>i (h.mine.2 b e.symm))).trans j)
def YQ (p q mb:Nat) (x y:Obj) (v:cm) (w:cg):Prop:=w.heap[p]?=some x/\w.heap[q]?=some y/\w.cell? ⟨mb,14,none⟩=some v
def Nk{t:Tr}{nk V:Int}{ns:bp}{l:bj}{q p:Nat}{x y:Va}{st:ao}(h:dm B O w mb en aC m)(aO:m.st=x::y::st)(az:m.fr.length<=50000000) :
 Calls prog 201 #[.po mb,af nk V 67 ns l q p] w (jK B O w mb en aC (.go { m with st:=[x],fr:=⟨y.code,67,[],st.reverse⟩::m.fr })):=by
 have I:=jh (h.qb (jj _));have⟨k,n,a,s,aa,al,ac,ta,tl,tc,na,nl,nc,sv,fv,us,fs,h⟩:=h;have Q:=Lf.gb (w:=w) (kI nk V 67 ns l q p);have⟨C,ae,HT,bn⟩:=we (xF w (kI nk V 67 ns l q p)) Q (yA (h.grow Q) aO) az;clear h aO az Q;generalize hQ:jK B O w mb en aC (.go { m with st:=[x],fr:=⟨y.code,67,[],st.reverse⟩::m.fr })=Q0;have HQ:=jh hQ;clear hQ;unfold af;go_enter func201,ntmps201;unfold kI at C ae HT;go_wp2_with (first
  | (go_at_call 196;(with_reducible refine HT.out.mono ?_);clear HT;rintro e w1 ⟨v1,rfl,N,hF,ck,cl,hM⟩;obtain⟨k1,n1,a1,s1,J,M,L,W,fE,X,S,U,T,rfl⟩:=N.bg;have bx:=jh N;have G:=jh hF;have an:=jh (Cv hM (x:=y) (st:=st) rfl);clear N hF hM;unfold bg)
  | (go_at_call 196;(with_reducible refine an.out.mono ?_);clear an;rintro e A ⟨v2,rfl,N,hF,g,z,cn,ar,hM⟩;obtain⟨d,j,r,u,b,c,VA,VT,VN,rfl,hI,cd,_,aq⟩:=N.inv;have ax:=N.Yr;have ah:=jh (hF.lies bx.out);have cb:=jh aq;have bk:=jh ax;have bb:=jh ((hF.block _ (by have:=G.out.size;have:=(kj.1 C.out).1;omega) I.out).trans ((G.out.block _ (kj.1 C.out).1 I.out).trans C.out));have bm:=jh (((dB.grow ae.out).trans G.out).trans hF);have H:=jh hM;clear N hF hM hI cd aq ar ax;unfold bg))
 have⟨bq,bh,Z⟩:=JT (Lf.Zt (Lf.gb (w:=A) (.cells #[.i k1,.i n1,.i a1,.string s1,.slice J M L,.slice W fE X,.slice S U T] 29)) (Lf.gb (.cells #[.i y.k,.i y.n,.i y.a,.string y.s,.slice d y.args.length j,.slice r y.types.length u,.slice b y.code.length c] 29))) (aB (o:=(.cells #[.i y.k,.i y.n,.i y.a,.string y.s,.slice d y.args.length j,.slice r y.types.length u,.slice b y.code.length c] 29)) (xF A (.cells #[.i k1,.i n1,.i a1,.string s1,.slice J M L,.slice W fE X,.slice S U T] 29))) (xF (A.alloc (.cells #[.i k1,.i n1,.i a1,.string s1,.slice J M L,.slice W fE X,.slice S U T] 29)) (.cells #[.i y.k,.i y.n,.i y.a,.string y.s,.slice d y.args.length j,.slice r y.types.length u,.slice b y.code.length c] 29));simp only[qh0]at Z;generalize (A.alloc _).alloc _=W4 at *;have v:cq A W4.drew none:=Lf.Zt bq.out (aK (au _ _));have D:=jh (H.out.grow v);have⟨ab,ad,cc,ca⟩:=we (Dm (ra:=b) (rl:=y.code.length) (rc:=c) (op:=67) (wa:=none) (wl:=0) (wc:=0) (ba:=some ⟨g,0,none⟩) (bl:=st.length) (bc:=z) D.out (xo bn.out ot)) (bm.out.trans (dB.grow v)) ((dB.grow v).lies ah.out) ((dB.grow v).Kl cb.out);have P:YQ w.heap.size (A.heap.size+1) mb (kI nk V 67 ns l q p) (.cells #[.i y.k,.i y.n,.i y.a,.string y.s,.slice d y.args.length j,.slice r y.types.length u,.slice b y.code.length c] 29) (.o g st.length z) W4.drew:=⟨dh bb.out v,Z.out,(iM D.out.blk).2.2.2.2.2.2.2.1⟩;have K:=λ(w':cg) (h:YQ w.heap.size (A.heap.size+1) mb (kI nk V 67 ns l q p) (.cells #[.i y.k,.i y.n,.i y.a,.string y.s,.slice d y.args.length j,.slice r y.types.length u,.slice b y.code.length c] 29) (.o g st.length z) w')=>And.intro (bE h.1) (And.intro (cO h.2.1) h.2.2);have ak:Hid (¬O A.heap.size/\¬O (A.heap.size+1)):=⟨H.out.G5.qb (jj _),H.out.G5.qb (ka5 _)⟩;clear v;go_region_held3 (YQ w.heap.size (A.heap.size+1) mb (kI nk V 67 ns l q p) (.cells #[.i y.k,.i y.n,.i y.a,.string y.s,.slice d y.args.length j,.slice r y.types.length u,.slice b y.code.length c] 29) (.o g st.length z)) (first|with_reducible assumption|exact P)
  ((go_at_call 172;(refine ab.mono ?_);rintro e w5 hE;have⟨E,ch,R⟩:=Nj D hE;have cj:YQ w.heap.size (A.heap.size+1) mb (kI nk V 67 ns l q p) (.cells #[.i y.k,.i y.n,.i y.a,.string y.s,.slice d y.args.length j,.slice r y.types.length u,.slice b y.code.length c] 29) (.o g st.length z) w5:=⟨E _ _ P.1 I,E _ _ P.2.1 ak.2,(iM R).2.2.2.2.2.2.2.1⟩;have Y:=jh (E _ _ bh ak.1);have aj:=jh R;have F:=jh (D.exec (f:=⟨y.code,67,[],st.reverse⟩) ⟨rfl,rfl,rfl⟩ ca bk hE cc);obtain⟨rfl,_⟩:=hE;clear E R))
 have z5:=cO Y;have z6:=iM aj;have cf:mb<w5.heap.size:=(kj.1 aj).1;go_wp2_with fail;rw[<-HQ.out]
 first
  | exact (F _ rfl).trans ad
  | exact (F _ (by rw[World.setCell_alloc_past _ _ _ _ cf])).trans ad
end
open Pe Go.RowKit
section
variable {c:Mc}{m:Ma}{ps:Nat->Ma->Prop}
abbrev fm (m:Ma) (f:Fr):Ma:={ m with fr:=f::m.fr }
def YT (m:Ma) (s:ao) (f:Fr) (x y z:Nat) (i:Nat) (hop:f.op≠67/\bD f.op) (h1:okNs f.rest) (e1:x=5\/f.rest=[]) (h2:okNs f.row) (e2:y=5\/f.row=[]) (h3:okVs f.aside) (e3:z=7\/f.aside=[]) (hlen:m.fr.length<=50000000) (hi:∀u,ps i u->EM (sm m s) u:=by exact λ_ h=>h) (hj:∀u,EM (sm (fm m f) s) u->ps (i+1) u:=by exact λ_ h=>h):{ s:Sp // @Holds (c.res ps) prog s }:=pu (OZ (m:=sm m s) f x y z hop h1 e1 h2 e2 h3 e3 hlen) i hi hj
def YU{k:Int}(h:decide (k=67)=false:=by rfl):k≠67:=of_decide_eq_false h
abbrev Ef (l:aE):Fr:=⟨l,0,[],[]⟩
def TY (m:Ma) (s:ao) (l:aE) (i:Nat) (h:okNs l) (hlen:m.fr.length<=50000000) (hi:∀u,ps i u->EM (sm m s) u:=by exact λ_ h=>h) (hj:∀u,EM (sm (fm m (Ef l)) s) u->ps (i+1) u:=by exact λ_ h=>h):{ s:Sp // @Holds (c.res ps) prog s }:=YT m s (Ef l) 5 0 0 i ⟨YU,i64⟩ h (.inl rfl) trivial (.inr rfl) trivial (.inr rfl) hlen hi hj
def Ml{t:Tr}(P:t.p0=52\/t.p0=55\/t.p0=58\/t.p0=64)(E:okN t)(N:∃a b,t.args0=[a,b])(O:Fn m)(f:gJ t m ≠ .stuck):HO c m 200 [ndA t] (gJ t m):=by
 obtain⟨m,s,rfl⟩:∃M s,m=sm M s:=⟨m,m.st,rfl⟩;have⟨K,L,q⟩:=O;rcases s with _|⟨a,s⟩
 .exact absurd rfl f
 have⟨x,q2⟩:=K;have⟨k,n,i,z,r,y,d⟩:=a;have⟨C,R,A,S,ta⟩:=t;obtain⟨⟨T,U,V,W,l⟩,⟨X,Y,Z,yz,g⟩,rfl⟩:=N;have o:okNs l:=E.2.1.2;have p:okNs g:=E.2.2.1.2;have w:=GZ L;rcases (P:A=52\/A=55\/A=58\/A=64)with rfl|rfl|rfl|rfl
 .have Q:n=0\/n=1:=by
   by_cases h:n<0
   .exfalso;apply f;simp[gJ,ru,Tr.p0,Tr.args0,Va.n,Int.toNat_of_nonpos (Int.le_of_lt h),h]
   .obtain⟨j,rfl⟩:=Int.eq_ofNat_of_zero_le (Int.not_lt.1 h);rcases j with _|_|j
    .exact .inl rfl
    .exact .inr rfl
    .exact absurd rfl f
  rcases Q with rfl|rfl
  .simp only[gJ,ru,Tr.p0,Tr.args0,Va.n,Va.args,Int.reduceLT,and_false,↓reduceIte,Int.toNat_zero,kO]at f|-;exact eH [sm m s,sm (fm m (Ef l)) s] func200 [tk m (.mk k 0 i z r y d) s 0,TY m s l 1 o q,pt (fm m (Ef l)) s r 2 x.2.1 f w]
  .simp only[gJ,ru,Tr.p0,Tr.args0,Va.n,Va.args,Int.reduceLT,and_false,↓reduceIte,Int.toNat_one,kO,ub]at f|-;exact eH [sm m s,sm (fm m (Ef g)) s] func200 [tk m (.mk k 1 i z r y d) s 0,TY m s g 1 p q,pt (fm m (Ef g)) s r 2 x.2.1 f w]
 .rcases r with _|⟨u,_|⟨v,r⟩⟩
  .simp only[gJ,ru,Tr.p0,Tr.args0,Va.n,Va.args,Int.reduceEq,jd4,↓reduceIte,qa1,kO]at f|-;exact eH [sm m s,sm (fm m (Ef l)) s] func200 [tk m (.mk k n i z [] y d) s 0,TY m s l 1 o q,pt (fm m (Ef l)) s [] 2 trivial f w]
  .simp only[gJ,ru,Tr.p0,Tr.args0,Va.n,Va.args,Int.reduceEq,jd4,↓reduceIte,js,qa1,kO,ub,qb1]at f|-;exact eH [sm m s,sm (fm m (Ef g)) s] func200 [tk m (.mk k n i z [u] y d) s 0,TY m s g 1 p q,pt (fm m (Ef g)) s [u] 2 x.2.1 f w]
  .exact absurd rfl f
 .rcases r with _|⟨⟨G,n1,F,J,H,I,D⟩,r⟩
  .simp only[gJ,ru,Tr.p0,Tr.args0,Va.n,Va.args,Int.reduceEq,jd4,↓reduceIte,kO,ub]at f|-;exact eH [sm m s,sm (fm m (Ef g)) s] func200 [tk m (.mk k n i z [] y d) s 0,TY m s g 1 p q,pt (fm m (Ef g)) s [] 2 trivial f w]
  .simp only[gJ,ru,Tr.p0,Tr.args0,Va.n,Va.args,Int.reduceEq,jd4,↓reduceIte,kO]at f|-;exact eH [sm m s,sm (fm m (Ef l)) s] func200 [tk m (.mk k n i z (.mk G n1 F J H I D::r) y d) s 0,up (EA 10 r),TY m s l 1 o q,pt (fm m (Ef l)) s [.mk G n1 F J H I D,mkV 10 r] 2 ⟨x.2.1.1,BK i64 x.2.1.2,trivial⟩ f w]
 .have B:=wX (.mk k n i z r y d)
  by_cases h:n=1
  .subst h;simp only[gJ,ru,Tr.p0,Tr.args0,Va.n,Va.args,Int.reduceEq,Int.reduceLT,and_false,↓reduceIte,kO]at f|-;exact eH [sm m s,sm (fm m (Ef l)) s] func200 [tk m (.mk k 1 i z r y d) s 0,up B,TY m s l 1 o q,pt (fm m (Ef l)) s r 2 x.2.1 f w]
  .have e:gJ (.nd C R 64 S [.nd T U V W l,.nd X Y Z yz g]) (sm m (.mk k n i z r y d::s))=bz (sm (fm m (Ef g)) s) r:=by simp[gJ,ru,Tr.p0,Tr.args0,Va.n,Va.args,h]
   rw[e]at f|-;rw[show kJ (.mk k n i z r y d)=false from zE h]at B;exact eH [sm m s,sm (fm m (Ef g)) s] func200 [tk m (.mk k n i z r y d) s 0,up B,TY m s g 1 p q,pt (fm m (Ef g)) s r 2 x.2.1 f w]
def uE{t:Tr}(h:fu t):okT (kreadT t):=oM (by unfold fu at h;rw[qt]at h;exact h.2)
def Pf{t:Tr}(W:t.p0=60\/t.p0=65\/t.p0=66\/t.p0=68)(h:okN t)(w:t.p0≠66->∃a,t.args0=[a])(x:t.p0=66->∃a b d,t.args0=[a,b,d]/\fu a/\fu b)(V:Fn m)(f:mq t m ≠ .stuck):HO c m 201 [ndA t] (mq t m):=by
 obtain⟨m,s,rfl⟩:∃M s,m=sm M s:=⟨m,m.st,rfl⟩;have⟨I,U,v⟩:=V;have⟨C,Z,q,tz,ta⟩:=t;rcases (W:q=60\/q=65\/q=66\/q=68)with rfl|rfl|rfl|rfl
 .obtain⟨⟨j,l,o,p,g⟩,rfl⟩:=w (by show (60:Int)≠66;decide);rcases s with _|⟨⟨k,n,i,z,r,y,d⟩,s⟩
  .exact absurd rfl f
  simp only[mq,Tr.p0,↓reduceIte]at f|-;exact eH [sm m s] func201 [tk m (.mk k n i z r y d) s 0,YT m s ⟨[],60,g,r⟩ 0 5 7 1 ⟨YU,i64⟩ trivial (.inr rfl) h.2.1.2 (.inl rfl) I.1.2.1 (.inl rfl) v]
 .obtain⟨⟨j,l,o,p,g⟩,rfl⟩:=w (by show (65:Int)≠66;decide);simp only[mq,Tr.p0,Int.reduceEq,↓reduceIte]at f|-;exact eH [] func201 [YT m s ⟨[],65,g,[]⟩ 0 5 0 0 ⟨YU,i64⟩ trivial (.inr rfl) h.2.1.2 (.inl rfl) trivial (.inr rfl) v]
 .have⟨⟨j,l,o,p,g⟩,⟨E,F,G,H,D⟩,⟨Q,R,S,T,u⟩,e,A,B⟩:=x rfl;have e:ta=_:=e;subst e;have J:=tK h.2.1 A;have K:=tK h.2.2.1 B;have L:=uE A;have N:=uE B;have e:mq (.nd C Z 66 tz [.nd j l o p g,.nd E F G H D,.nd Q R S T u]) (sm m s)=bz (sm m s) [.mk 14 0 0 ⟨#[]⟩ [] [kreadT (.nd j l o p g),kreadT (.nd E F G H D)] u]:=rfl;rw[e]at f|-;clear e A B;generalize kreadT (.nd j l o p g)=X at J f L|-;generalize kreadT (.nd E F G H D)=Y at K f N|-;have⟨X,O⟩:=X;have⟨Y,P⟩:=Y;exact eH [] func201 [up J,up K,YV m s 14 0 0 ⟨#[]⟩ 0 2 5 [] [.nd X O,.nd Y P] u 0 ⟨⟨i64,i64,i64,ot⟩,trivial,⟨L,N,trivial⟩,h.2.2.2.1.2⟩ (.inr rfl) (.inl rfl) (.inl rfl) f U]
 .obtain⟨⟨j,l,o,p,g⟩,rfl⟩:=w (by show (68:Int)≠66;decide);rcases s with _|⟨⟨k,n,i,z,r,y,d⟩,s⟩
  .exact absurd rfl f
  simp only[mq,Tr.p0,Int.reduceEq,↓reduceIte]at f|-;exact eH [sm m s] func201 [tk m (.mk k n i z r y d) s 0,YT m s ⟨g,68,[],[.mk k n i z r y d]⟩ 5 0 7 1 ⟨YU,i64⟩ h.2.1.2 (.inl rfl) trivial (.inr rfl) ⟨I.1,trivial⟩ (.inl rfl) v]
def Cn (m:Ma) (a b:Va):Go.Proofs.YtnamdihclpbdfaaGreat.Out:=match a.args,b.args with
 | x::_,y::z::_=>if y.n=0\/z.n=0\/wrap64 (y.n+z.n)≠a.n then bz m [noneV]else bz m [aV (aY (aM a.a y.n x) (aM a.a z.n x))]
 | _,_=>.stuck
def zg{a n:Int}{x:Va}(b:bD a)(hn:bD n)(h:okV x):okV (aM a n x):=⟨⟨i64,hn,b,ot⟩,⟨h,trivial⟩,trivial,trivial⟩
def Pp{a b:Va}(A:okV a)(hb:okV b)(f:Cn m a b ≠ .stuck)(j:m.st.length<=50000000):HO c m 230 [pF a,pF b] (Cn m a b):=by
 have⟨k,n,i,z,r,t,d⟩:=a;have⟨J,n1,G,R,B,O,D⟩:=b;rcases r with _|⟨⟨p,q,o,v,s,u,l⟩,r⟩
 .exact absurd rfl f
 rcases B with _|⟨⟨K,g,H,S,M,P,E⟩,_|⟨⟨L,h,I,T,N,Q,F⟩,B⟩⟩
 .exact absurd rfl f
 .exact absurd rfl f
 have e:Cn m (.mk k n i z (.mk p q o v s u l::r) t d) (.mk J n1 G R (.mk K g H S M P E :: .mk L h I T N Q F::B) O D)=if g=0\/h=0\/wrap64 (g+h)≠n then bz m [noneV]else bz m [aV (aY (aM i g (.mk p q o v s u l)) (aM i h (.mk p q o v s u l)))]:=rfl
 rw[e]at f|-;clear e;have C:IntKind.i64.wrap (g+h)=wrap64 (g+h):=by unfold wrap64;exact yb _
 by_cases w:g=0
 .subst w;simp only[true_or,↓reduceIte]at f|-;exact eH [] func230 [up H_none,pt m m.st [noneV] 0 ⟨ok_none,trivial⟩ f j]
 by_cases x:h=0
 .subst x;simp only[true_or,or_true,↓reduceIte]at f|-;exact sI [] [(20,bA false)] func230 [up H_none,pt m m.st [noneV] 0 ⟨ok_none,trivial⟩ f j] (ob:=[tl (decide (g=0)) false]) (fE (df w))
 by_cases y:wrap64 (g+h)=n
 .simp only[w,x,y,ne_eq,not_true_eq_false,or_self,↓reduceIte]at f|-;exact sI [] [(20,bA false),(23,bA false),(31,bA false)] func230 [up (AQ i g (.mk p q o v s u l)),up (AQ i h (.mk p q o v s u l)),up (pX (aM i g (.mk p q o v s u l)) (aM i h (.mk p q o v s u l))),up (mU (aY (aM i g (.mk p q o v s u l)) (aM i h (.mk p q o v s u l)))),
   pt m m.st [aV (aY (aM i g (.mk p q o v s u l)) (aM i h (.mk p q o v s u l)))] 0 ⟨pO (si (zg A.1.2.2.1 hb.2.1.1.1.2.1 A.2.1.1) (zg A.1.2.2.1 hb.2.1.2.1.1.2.1 A.2.1.1)),trivial⟩ f j] (ob:=[tl (decide (g=0)) false,tl (decide (h=0)) false,tl (!decide (IntKind.i64.wrap (g+h)=n)) false]) (IC (df w) (df x) (by rw[C,y];simp))
 .simp only[w,x,y,ne_eq,not_false_eq_true,or_true,↓reduceIte]at f|-;exact sI [] [(20,bA false),(23,bA false),(31,bA true)] func230 [up H_none,pt m m.st [noneV] 0 ⟨ok_none,trivial⟩ f j] (ob:=[tl (decide (g=0)) false,tl (decide (h=0)) false,tl (!decide (IntKind.i64.wrap (g+h)=n)) true]) (IC (df w) (df x) (by rw[C];exact nt y))
def adJ (m M:Ma) (y z:Va):Go.Proofs.YtnamdihclpbdfaaGreat.Out:=match y.args,z.args with
 | u::_,v::_=>if y.a≠z.a\/Ij u v=false then bz m [noneV]else if (addN y.n z.n).2=0 then bz m [aV (aM y.a (addN y.n z.n).1 u)]else .no (addN y.n z.n).2 M
 | _,_=>.stuck
def Yl{a b:Int} : bD (addN a b).1:=by
 unfold addN;split
 .exact QB
 .exact i64
def SS{a b:Va}(N:okV a)(hb:okV b)(S:a.size<=20000000){M:Ma}(P:m.paid=M.paid/\m.said=M.said)(f:adJ m M a b ≠ .stuck)(h:m.st.length<=50000000):HO c m 231 [pF a,pF b] (adJ m M a b):=by
 have⟨k,n,i,z,r,t,d⟩:=a;have⟨T,n1,D,V,O,U,Q⟩:=b;rcases r with _|⟨⟨o,p,l,v,s,u,j⟩,r⟩
 .exact absurd rfl f
 rcases O with _|⟨⟨F,G,E,J,H,I,A⟩,O⟩
 .exact absurd rfl f
 have e:adJ m M (.mk k n i z (.mk o p l v s u j::r) t d) (.mk T n1 D V (.mk F G E J H I A::O) U Q)=if i≠D\/Ij (.mk o p l v s u j) (.mk F G E J H I A)=false then bz m [noneV]else if (addN n n1).2=0 then bz m [aV (aM i (addN n n1).1 (.mk o p l v s u j))]else .no (addN n n1).2 M:=rfl
 rw[e]at f|-;clear e
 by_cases K:i=D
 .subst K;have C:=aae (x:=.mk o p l v s u j) (y:=.mk F G E J H I A) N.2.1.1 hb.2.1.1 (by simp only[Va.size,vsizes]at S|-;omega);generalize Ij (.mk o p l v s u j) (.mk F G E J H I A)=q at C f|-
  cases q with
  | false =>
   simp only[or_true,↓reduceIte]at f|-;exact sI [] [(13,bA false)] func231 [up C,up H_none,pt m m.st [noneV] 0 ⟨ok_none,trivial⟩ f h] (ob:=[tl (!decide (i=i)) false]) (fE oe)
  | true =>
   simp only[ne_eq,not_true_eq_false,Bool.true_eq_false,or_self,↓reduceIte]at f|-;have L:=VI n n1;have w:=Yl (a:=n) (b:=n1);generalize addN n n1=g at L f w|-;have⟨g1,g2⟩:=g
   by_cases B:g2=0
   .subst B;simp only[↓reduceIte]at f|-;exact sI [] [(13,bA false)] func231 [up C,up L,up (AQ i g1 (.mk o p l v s u j)),up (mU (aM i g1 (.mk o p l v s u j))),pt m m.st [aV (aM i g1 (.mk o p l v s u j))] 0 ⟨pO (zg N.1.2.2.1 w N.2.1.1),trivial⟩ f h] (ob:=[tl (!decide (i=i)) false]) (fE oe)
   .simp only[B,↓reduceIte];exact Ol [] [(13,bA false),(39,bA true)] func231 [up C,up L] (ob:=[tl (!decide (i=i)) false,tl (!decide (g2=0)) true]) (sM oe (nt B)) (λx R=>by cases R;exact⟨B,P.1,P.2⟩)
 .simp only[K,ne_eq,not_false_eq_true,true_or,↓reduceIte]at f|-;exact sI [] [(13,bA true)] func231 [up H_none,pt m m.st [noneV] 0 ⟨ok_none,trivial⟩ f h] (ob:=[tl (!decide (i=D)) true]) (fE (nt K))
def Mw{p:Int}(N:p=84\/p=85\/p=86\/p=87)(P:bD c.en.self)(L:Fn m)(Q:∀x∈m.st,x.size<=20000000)(f:iB c.en p m ≠ .stuck):HO c m 205 [iA p] (iB c.en p m):=by
 obtain⟨m,s,rfl⟩:∃M s,m=sm M s:=⟨m,m.st,rfl⟩;have⟨J,H,U⟩:=L;rcases s with _|⟨a,s⟩
 .exact absurd rfl f
 have T:=Q a (.head _);have⟨A,R⟩:=J;have⟨k,n,i,z,r,t,d⟩:=a;rcases N with rfl|rfl|rfl|rfl
 .rcases s with _|⟨b,s⟩
  .exact absurd rfl f
  exact HO.of (bK func205) λO w S K I=>by
   match S,I with
   | [v],⟨I,_⟩=>rw[bW I];exact KO P K rfl f H
 .rcases r with _|⟨⟨l,n1,j,q,g,o,h⟩,r⟩
  .exact absurd rfl f
  simp only[iB,Int.reduceEq,↓reduceIte]at f|-;exact eH [sm m s] func205 [tk m (.mk k n i z (.mk l n1 j q g o h::r) t d) s 0,up (eU 7 i),up (eU 4 n),up (pX (.mk l n1 j q g o h) (aW 4 n)),up (pX (aW 7 i) (aY (.mk l n1 j q g o h) (aW 4 n))),pt m s [aY (aW 7 i) (aY (.mk l n1 j q g o h) (aW 4 n)),.mk k n i z (.mk l n1 j q g o h::r) t d] 1 ⟨si (oN i64 A.1.2.2.1) (si A.2.1.1 (oN i64 A.1.2.1)),A,trivial⟩ f (GZ H)]
 .rcases s with _|⟨b,s⟩
  .exact absurd rfl f
  have⟨l,n1,j,q,g,o,h⟩:=b;have e:iB c.en 86 (sm m (.mk k n i z r t d :: .mk l n1 j q g o h::s))=Cn (sm m s) (.mk k n i z r t d) (.mk l n1 j q g o h):=by
   rcases r with _|⟨x,r⟩
   .rfl
   .rcases g with _|⟨y,_|⟨w,g⟩⟩<;>simp only[iB,Cn,Va.args,Va.n,Va.a,Int.reduceEq,↓reduceIte]<;>rfl
  rw[e]at f|-;exact eH [sm m (.mk l n1 j q g o h::s),sm m s] func205 [tk m (.mk k n i z r t d) (.mk l n1 j q g o h::s) 0,tk m (.mk l n1 j q g o h) s 1,pu (Pp (m:=sm m s) A R.1 f (OU H)) 2]
 .rcases r with _|⟨⟨l,n1,j,q,g,o,h⟩,_|⟨⟨D,E,C,G,u,F,B⟩,r⟩⟩
  .exact absurd rfl f
  .exact absurd rfl f
  have e:iB c.en 87 (sm m (.mk k n i z (.mk l n1 j q g o h :: .mk D E C G u F B::r) t d::s))=adJ (sm m s) (sm m (.mk k n i z (.mk l n1 j q g o h :: .mk D E C G u F B::r) t d::s)) (.mk l n1 j q g o h) (.mk D E C G u F B):=by
   rcases g with _|⟨x,g⟩
   .rfl
   .rcases u with _|⟨y,u⟩<;>simp only[iB,adJ,Va.args,Va.n,Va.a,Int.reduceEq,↓reduceIte]<;>rfl
  rw[e]at f|-;exact eH [sm m s] func205 [tk m (.mk k n i z (.mk l n1 j q g o h :: .mk D E C G u F B::r) t d) s 0,pu (SS (m:=sm m s) (M:=sm m (.mk k n i z (.mk l n1 j q g o h :: .mk D E C G u F B::r) t d::s)) (a:=.mk l n1 j q g o h) (b:=.mk D E C G u F B) A.2.1.1 A.2.1.2.1 (by simp only[Va.size,vsizes]at T|-;omega) ⟨rfl,rfl⟩ f (GZ H)) 1]
end
