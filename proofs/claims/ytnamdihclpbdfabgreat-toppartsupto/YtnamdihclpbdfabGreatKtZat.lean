import Derived.Test.YtnamdihclpbdfabGreatKtZas
import Derived.Test.YtnamdihclpbdfabGreatKtZar
namespace Go.Proofs.YtnamdihclpbdfabGreat
set_option linter.all false
open Go.Proofs.Tryz
open Go.ChangeShapes Go.WideShapes Go.ChangeAt Go.RowKit
set_option maxRecDepth 100000
set_option maxHeartbeats 1000000
def Tu (W:cg) (l:ao) (e:Ending) (w':cg):Prop:=∃a c V,e =.returned (.slice a l.length c)/\l.length<=c/\aT (W.heap.size <= ·) w' l a V/\cq W w' none
def Sz (l:ao):Prop:=∀x∈l,x.size<=10000000
def WM (W:cg) (l:ao) (a0:bj) (k:Nat) (tv:cm) (wr:cg):Prop:=∃M P tb cap vs ts,tv =.o tb ts.length cap/\nK W wr M P tb cap vs ts/\Fin l a0 M/\tsz ts<=k/\k<=vsizes l+1/\(∀p∈ts,Sz p.2)/\Dn M P λq=>∃ys,(q,ys)∈ts/\ys≠[]
def Tt (W:cg) (l:ao) (a0:bj) (k g:Nat) (xs:ao) (a:bj) (tv iv:cm) (wr:cg):Prop:=∃(j:Nat) (M:Nat->Option ao) (P:Nat->Nat) (tb cap:Nat) (vs:bo) (ts:List (Nat×ao)),j<=xs.length/\iv =.i j/\tv =.o tb ts.length cap/\nK W wr M P tb cap vs ts/\Fin l a0 M/\YN M P g xs j a/\g ∉ ts.map Prod.fst/\tsz ts+vsizes (xs.drop j)+1<=k/\(∀p∈ts,Sz p.2)/\Dn M P λq=>(∃ys,(q,ys)∈ts/\ys≠[])\/q=g/\xs≠[]
def zi{w:cg}{B e g n c j k:Nat}{L:bo}(h:w.ownsRow B e 7 (.o g n c) n L)(a:j<n)(hk:k<7):∃v,w.cell? ⟨g,j*7+k,none⟩=some v:=by have b:=h.1;have:=qd4 h (g:=g) rfl (j*7+k) _ (qt od);rw[gI,qb4]at this;exact⟨_,this⟩
def IK{x y:Va}(h:y∈x.args):y.size<=x.size:=by have:=fO h;have:=eP x;omega
def Yo{d:Array Oper}{b:List Oper}{o:Oper}{a:Act}{Q:Exit->Act->cg->Prop}(B:Nat)(us:bo)(f:bj)(i g:Nat)(c:cg)(v:cm)(e:o.guard=none)(s x:Operand)
 (ho:o.op =.call { callee:=.builtin .append,args:=#[s,x],argTypes:=#[76,76] }) (hs:a.eval s=v) {H:Nat} (hx:a.eval x =.o H 1 1) (hH:c.heap.size=H)
 (hown:kD B c v us) (hB:B<=c.heap.size) (hlen:us.length<=8000000000)
 (h:∀v' w',kD B w' v' (us++[.slice f i g])->Gr c v w' v'->wpList prog d Q b (a.put o.dst v') w') :
 wpList prog d Q (o::b) a (c.alloc (.cells #[.slice f i g] 26)):=by
 subst hH;refine ed e s x 76 ho B 26 underlying76 Qw rfl ov v us.length us hs (qg4 hown _) _ 1 [.slice f i g] hx rfl (gZ.new _ _ _ _ _) ?_ ?_ ?_ ?_ ?_
 .intro u j;simp at j;subst j;rfl
 .unfold maxLen;omega
 .omega
 .simp;omega
 .intro v' w' k l _;exact h v' w' (by unfold kD;rw[ju];exact k) (Gr.trans (Gr.alloc (Gr.refl c v) _) l)
def zT{ok:br}{W:cg}{l:ao}{a:bj}{c:Nat}{V:bt}(h:aT ok W l a V)(hn:vsizes l<=4000000000)(hs:Sz l)(C:l.length<=20000000):Calls prog 130 #[.slice a l.length c] W (Tu W l):=by
 classical
 have HR:=jh (jZ.none ok W);have dv:l.length<=vsizes l:=kS l;have HC:=jh (wB (O:=λb=>(if ok b\/W.heap.size<=b then Option.none else some ([]:ao))≠none) (Src.row (c:=c) (h.ae λb _ F=>by simp[F])) C);have cW:Hid (l.length<=maxLen):=h.1;have HN:=jh hn;have dc:=jh hs;clear h dv hn hs C;go_enter func130,ntmps130;go_wp2_with ((go_at_call 149;(with_reducible refine HC.out.mono ?_);rintro e w1 ⟨v,us,rfl,hK,hg⟩;obtain⟨a0,c0,rfl,cx⟩:=hK.slice;have HK:=jh hK;have HG:=jh hg;have cP:=jh cx;clear hg hK cx));have cb:Hid (WM W l a0 (vsizes l+1) (.o (w1.heap.size) 1 1) (w1.alloc (.cells #[.slice a0 l.length c0] 26))):=by have⟨M,P,g,h1,C,h3⟩:=KH (λb q e G=>by split at e;cases e;cases e;exact absurd rfl G) HR.out HK.out HG.out cW.out;exact⟨M,P,_,1,_,_,rfl,h1,C,by simp[tsz],jn _,λp X=>by simp at X;subst X;exact dc.out,λb q e G=>(h3 b q e G).imp (λ⟨e,hl⟩=>⟨l,by simp[e],hl⟩) id⟩
 generalize w1.alloc (.cells #[.slice a0 l.length c0] 26)=w2 at *;clear HK HC HR;go_loopg [3] (vsizes l+1) (λk tv wr=>WM W l a0 k tv wr)
 case atStart=>exact cb
 case round =>
  obtain⟨M,P,Y,r,Z,t,rfl,T,hF,hz,hk,B,A⟩:=hrel;rcases jf2 t with rfl|⟨t,⟨g,q⟩,rfl⟩
  .have⟨V',hV⟩:=Oe T.ren (λb q e G=>(A b q e G).imp (λ⟨_,h,_⟩=>by simp at h) id) hF;have HE:Hid (Tu W l (.returned (.slice a0 l.length c0)) wr):=⟨_,c0,V',rfl,cP,hV,T.ren.gr⟩;clear T hF hz hk hV B A;go_wp2;go_ret;exact HE
  .rw [jf3]at *;have⟨ee,a2,c2,U,bc,hE,I⟩:=T.pop;rw[Cw]at hz;have bl:t.length<=8000000000:=by have h1:=len_tsz t;have C:=HN.out;omega
   have cc:Hid (Tt W l a0 gk g q a2 (.o Y t.length r) (.i 0) wr):=⟨0,M,P,Y,r,ee,t,yb _,rfl,rfl,U,hF,hE,I,by simpa using (by omega:tsz t+vsizes q+1<=gk),λp X=>B p (by simp[X]),λb ys e G=>(A b ys e G).imp (λ⟨zs,h,J⟩=>by
    rcases ka.1 h with h|h
    .exact .inl ⟨zs,h,J⟩
    .simp at h;exact .inr ⟨h.1,h.2 ▸ J⟩) id⟩
   have dk:Hid (Sz q):=B (g,q) oe;have HK:=jh hk;have eg:t.length<=r:=by
    rcases U.own.2 with⟨e,_⟩|⟨_,_,_,e,_,_,m,_⟩
    .cases e
    .simp only[ye]at e;omega
   clear T U hF hE I hz hk cb B A;simp only[ju,jj,qa0,qb4];go_wp2_with fail;go_loopw [3,27] (λtv iv wr=>Tt W l a0 gk g q a2 tv iv wr) (λ_ iv _=>q.length - (intOf iv).toNat)
   case atStart=>exact cc
   case round =>
    obtain⟨j,M,P,Y,r,Z,t,hj,rfl,rfl,T,hF,hE,I,hz,B,A⟩:=hrel
    by_cases f:j<q.length
    .have d1:(j:Int)<(q.length:Int):=by omega
     rcases hE with rfl|⟨rfl,hM,hP⟩
     .simp at f
     have D:=qt f;generalize q[j]=x at D;have⟨et,ea,us,cp,N,bm,he⟩:=T.ren.rows g q hM (by rintro rfl;simp at f);have bk:j<us.length:=by rw[bm];exact f
     have hL:=(he j x us[j] D (qt bk)).2 od;have⟨aa,ac,ta,tc,na,nc,VA,VT,VN,eu,_,hA,cw,cn⟩:=hL.inv;have cI:us[j]?=some (bg x.k x.n x.a x.s aa x.args.length ac ta x.types.length tc na x.code.length nc):=by rw[qt bk,eu]
     have h7:∀u∈us,(nodeCells u).length=7:=λu hu=>by obtain⟨k,hk,rfl⟩:=qc3 hu;have⟨_,_,_,_,_,_,_,_,e,_⟩:=(he k q[k] us[k] (qt od) (qt hk)).1;rw[e];rfl
     have ak:∀(k:Nat) (v:cm),(nodeCells (bg x.k x.n x.a x.s aa x.args.length ac ta x.types.length tc na x.code.length nc))[k]?=some v->k<7->wr.cell? ⟨g,j*7+k,none⟩=some v:=λk v hv hk=>by have:=qd4 N (g:=g) rfl (j*7+k) v (by rw[flatV_get us h7 j k _ cI hk];exact hv);rw[gI,qb4]at this;exact this
     have c4:=ak 4 _ rfl od;have c5:=ak 5 _ rfl od;have c6:=ak 6 _ rfl od;have cC:vsizes (q.drop j)=x.size+vsizes (q.drop (j+1)):=by rw[kB f];rw[qt f]at D;simp only[qq]at D;simp only[vsizes,D]
     have cL:=eP x;have du:=HK.out;have dz:=HN.out;have L:∀z,cq wr z (some g)->Same (λb=>M b=none) wr z:=λz C b o F f=>kd (C.block b f (λe=>by cases e;rw[hM]at F;cases F));have dr:=kS x.args;have cJ:=dk.out x (jz D);have⟨dg,cd,cT⟩:=JT cJ B A;have cQ:Hid (∀z,cq wr z none->Calls prog 149 #[.slice aa x.args.length ac] z (IV (λb=>M b≠none) z x.args)):=λz C=>wB (Src.row ((hA.same (λb o F f=>kd (C.block b f oe))).ae λb _ F=>by simpa using F)) od;have cR:Hid (∀z,cq wr z (some g)->Calls prog 152 #[.slice ta x.types.length tc] z (Sw z x.types)):=λz C=>copiedT_any 20000000 od (jn _) ((cw.same (L z C)).ae λ_ _ _=>trivial);have cS:Hid (∀z,cq wr z (some g)->Calls prog 153 #[.slice na x.code.length nc] z (Sv z x.code)):=λz C=>copiedN_any 20000000 od (jn _) ((cn.same (L z C)).ae λ_ _ _=>trivial);have⟨HT,HF,HM,HP,dj,aq,HO⟩:=wk T hF hM hP D I N;have ar:Hid (tsz t+(x.size+vsizes (q.drop (j+1)))+1<=gk):=by rw[cC]at hz;exact hz
     have cM:Hid (x.args.length<=maxLen):=hA.1;have dd:=jh bm;clear T hF hM hP D I N hz hL ak cI h7 eu hA cw cn he cL cC du dz L dr bm bk cc bc cJ B A;unfold maxLen at ea
     go_upto_region 11 with (fail)
     go_cut [] (λwx=>Put W M P Y r Z t g j x wx)
     case first =>
      have d:Hid (∀c∈[((7:Nat),λw:cg=>w.cell? ⟨g,j*7+4,none⟩=some (.slice aa x.args.length ac)),(12,λw=>w.cell? ⟨g,j*7+5,none⟩=some (.slice ta x.types.length tc)),(17,λw=>w.cell? ⟨g,j*7+6,none⟩=some (.slice na x.code.length nc))],c.2 wr.drew):=by
       intro c m;simp only[ke,qd7,or_false]at m;rcases m with rfl|rfl|rfl
       .exact c4
       .exact c5
       .exact c6
      refine wR (cs:=[((7:Nat),λw:cg=>w.cell? ⟨g,j*7+4,none⟩=some (.slice aa x.args.length ac)),(12,λw=>w.cell? ⟨g,j*7+5,none⟩=some (.slice ta x.types.length tc)),(17,λw=>w.cell? ⟨g,j*7+6,none⟩=some (.slice na x.code.length nc))]) 27 oA oA ?_;refine dN (i:=0) (some 33) (λc m _=>d.out c m) ?_;simp only[Act.put,zd,yy,xT];refine dN (i:=1) (some 34) (λc m _=>d.out c m) ?_;simp only[Act.put,zd,yy,xT];refine dN (i:=2) (some 35) (λc m _=>d.out c m) ?_;simp only[Act.put,zd,yy,xT];refine dN (i:=3) (some 36) (λc m _=>d.out c m) ?_;simp only[Act.put,zd,yy,xT];refine dN (i:=4) (some 37) (λc m _=>d.out c m) ?_;simp only[Act.put,zd,yy,xT];refine dN (i:=5) (some 38) (λc m _=>d.out c m) ?_;simp only[Act.put,zd,yy,xT];refine ry (i:=6) (k:=7) (some 39) (λc m _=>d.out c m) (.head _) (Or.inl ⟨by rfl,λw hw=>by dsimp only at hw;go_simp;with_reducible rfl⟩) ?_ (hi:=rfl);simp only[Act.put,zd,yy,xT];refine dN (i:=8) (some 41) (λc m _=>d.out c m) ?_;simp only[Act.put,zd,yy,xT];refine dN (i:=9) (some 42) (λc m _=>d.out c m) ?_;simp only[Act.put,zd,yy,xT];refine dN (i:=10) (some 43) (λc m _=>d.out c m) ?_;simp only[Act.put,zd,yy,xT];refine ry (i:=11) (k:=12) (some 44) (λc m _=>d.out c m) (.tail _ (.head _)) (Or.inl ⟨by rfl,λw hw=>by dsimp only at hw;go_simp;with_reducible rfl⟩) ?_ (hi:=rfl);simp only[Act.put,zd,yy,xT];refine dN (i:=13) (some 46) (λc m _=>d.out c m) ?_;simp only[Act.put,zd,yy,xT];refine dN (i:=14) (some 47) (λc m _=>d.out c m) ?_;simp only[Act.put,zd,yy,xT];refine dN (i:=15) (some 48) (λc m _=>d.out c m) ?_;simp only[Act.put,zd,yy,xT];refine ry (i:=16) (k:=17) (some 49) (λc m _=>d.out c m) (.tail _ (.tail _ (.head _))) (Or.inl ⟨by rfl,λw hw=>by dsimp only at hw;go_simp;with_reducible rfl⟩) ?_ (hi:=rfl);simp only[Act.put,zd,yy,xT];refine gU (rs:=[7]) oA rfl (iE.cons rfl (λK hK=>?_) iE.nil);go_simp;refine (cQ.out wr.drew (kY (bf _ _))).mono ?_;rintro e w3 ⟨v,ez,rfl,bb,an⟩;obtain⟨a3,c3,rfl,cy⟩:=bb.slice;have dn:=kNq an (show wr.drew.cell? ⟨g,j*7+5,none⟩=_ from c5);have cf:=kNq an (show wr.drew.cell? ⟨g,j*7+6,none⟩=_ from c6);have⟨cU,Q,bq⟩:=JT bb an cy;clear bb an cy;refine hK.out _ _ (bL (.inl rfl) (bL (.inr dn) (bL (.inr cf) fP))) ?_;clear hK K;refine gU (rs:=[12]) oA rfl (iE.cons rfl (λK hK=>?_) iE.nil);go_simp;refine (cR.out w3 (gAq (aJ (kY (bf _ _)) Q.out))).mono ?_;rintro e w4 ⟨a4,S,V4,rfl,cz,ct,bh⟩;have dp:=kNq bh cf;have⟨da,R,bx⟩:=JT ct bh cz;clear ct bh cz;refine hK.out _ _ (bL (.inl rfl) (bL (.inl rfl) (bL (.inr dp) fP))) ?_;clear hK K;refine gU (rs:=[17]) oA rfl (iE.cons rfl (λK hK=>?_) iE.nil);go_simp;refine (cS.out w4 (gAq (aJ (aJ (kY (bf _ _)) Q.out) R.out))).mono ?_;rintro e w5 ⟨a5,ad,V5,rfl,cA,cv,cD⟩;have⟨db,ab,ca⟩:=JT cv cD cA;clear cv cD cA;refine hK.out _ _ (bL (.inl rfl) (bL (.inl rfl) (bL (.inl rfl) fP))) ?_;clear hK K;have ax:Hid (w5.ownsRow W.heap.size 29 7 (.o g q.length cp) q.length (flat us)):=by have h:=qd3 HO.out (aJ (aJ (aJ (kY (bf _ _)) Q.out) R.out) ab.out) (.inr Of);rw[dd.out]at h;exact h
      have az:=jh (ax.stored (j*7+4) (.slice a3 x.args.length c3)).1;have aC:=jh (az.stored (j*7+5) (.slice a4 x.types.length S)).1;have eh:=jh (aC.stored (j*7+6) (.slice a5 x.code.length ad)).1;refine dN (i:=18) (some 51) (bL (.inl rfl) (bL (.inl rfl) (bL (.inl rfl) fP))) ?_;simp only[Act.put,zd,yy,xT];refine dN (i:=19) (some 52) (bL (.inl rfl) (bL (.inl rfl) (bL (.inl rfl) fP))) ?_;simp only[Act.put,zd,yy,xT];have eo:=ax.out.frozenAt (j*7+4);have⟨o4,ej⟩:=zi (k:=4) ax f ov;refine gU (rs:=[20]) oA rfl (iE.cons rfl (λK hK=>?_) iE.nil);go_simp;refine hK _ _ (bL (.inl rfl) (bL (.inl rfl) (bL (.inl rfl) fP))) ?_;clear hK K;refine dN (i:=21) (some 53) (bL (.inl rfl) (bL (.inl rfl) (bL (.inl rfl) fP))) ?_;simp only[Act.put,zd,yy,xT];refine dN (i:=22) (some 54) (bL (.inl rfl) (bL (.inl rfl) (bL (.inl rfl) fP))) ?_;simp only[Act.put,zd,yy,xT];have ep:=az.out.frozenAt (j*7+5);have⟨o5,ek⟩:=zi (k:=5) az f ov;refine gU (rs:=[23]) oA rfl (iE.cons rfl (λK hK=>?_) iE.nil);go_simp;refine hK _ _ (bL (.inl rfl) (bL (.inl rfl) (bL (.inl rfl) fP))) ?_;clear hK K;refine dN (i:=24) (some 55) (bL (.inl rfl) (bL (.inl rfl) (bL (.inl rfl) fP))) ?_;simp only[Act.put,zd,yy,xT];refine dN (i:=25) (some 56) (bL (.inl rfl) (bL (.inl rfl) (bL (.inl rfl) fP))) ?_;simp only[Act.put,zd,yy,xT];have er:=aC.out.frozenAt (j*7+6);have⟨o6,en⟩:=zi (k:=6) aC f ov;refine gU (rs:=[26]) oA rfl (iE.cons rfl (λK hK=>?_) iE.nil);go_simp;refine hK _ _ (bL (.inl rfl) (bL (.inl rfl) (bL (.inl rfl) fP))) ?_;clear hK K;refine uP oA ?_ _;have cY:Hid (Put W M P Y r Z t g j x (((w5.setCell ⟨g,j*7+4,none⟩ (.slice a3 x.args.length c3)).setCell ⟨g,j*7+5,none⟩ (.slice a4 x.types.length S)).setCell ⟨g,j*7+6,none⟩ (.slice a5 x.code.length ad))):=by have hd:=kY (bf wr none);have ev:=kh (HT.ren.lt g q HM) (aJ hd Q).size;have s4:=R.out.size;have cF:cq w5 (((w5.setCell ⟨g,j*7+4,none⟩ (.slice a3 x.args.length c3)).setCell ⟨g,j*7+5,none⟩ (.slice a4 x.types.length S)).setCell ⟨g,j*7+6,none⟩ (.slice a5 x.code.length ad)) (some g):=eF (eF (eF (bf _ _) _ _ _) _ _ _) _ _ _;have L:∀b,w3.heap.size<=b->b<w5.heap.size->∀o,(((w5.setCell ⟨g,j*7+4,none⟩ (.slice a3 x.args.length c3)).setCell ⟨g,j*7+5,none⟩ (.slice a4 x.types.length S)).setCell ⟨g,j*7+6,none⟩ (.slice a5 x.code.length ad)).cell? ⟨b,o,none⟩=w5.cell? ⟨b,o,none⟩:=λb F f o=>kd (cF.block b f (λe=>by cases e;omega));refine UK (HT.grow hd) HM HP dj aq cM cU Q ⟨bq,bx,ca⟩ ((da.same (λb o _ f=>sAl ab b o trivial f)).same (λb o F f=>L b F f o)) ((db.ae (λb _ F=>xo s4 F)).same (λb o F f=>L b F f o)) ⟨K6 (gAq (aJ R ab)) cF,λey ef N hl=>?_⟩;have h:=qd3 N (aJ R ab) (.inr Of);rw[hl]at h;exact (((h.stored _ _).1.stored _ _).1.stored _ _).1
      go_wp2_with fail;go_meet;exact cY
     case rest =>
      have⟨M',P',ei,aO,E,H,aj,S,cj,ba⟩:=hcut;have ah:=ba _ cT
      by_cases h0:x.args=[]
      .have ew:x.args.length=0:=by rw[h0];rfl
       have d2:¬(0:Int)<(x.args.length:Int):=od
       have HE:Hid (Tt W l a0 gk g q (some ⟨g,0,none⟩) (.o Y t.length r) (.i ((j+1:Nat):Int)) wc):=⟨j+1,M',P',Y,r,Z,t,f,rfl,rfl,E,HF.mono H,.inr ⟨rfl,H _ _ HM,aj⟩,aq,by have h:=ar.out;omega,cd,λb ys e G=>(ah b ys e G).imp (λh=>h.resolve_right λh=>h.1 h0) id⟩;clear ba ah E H aj cj;go_wp2;go_roundw
       case rel=>exact HE
       case measure=>simp[intOf];omega
      .rcases cj with h|⟨g',rfl,cl,cr,cG,cE⟩
       .exact absurd h h0
       have dy:=List.length_pos_iff.2 h0;have d2:(0:Int)<(x.args.length:Int):=od
       have bn:Z.length=t.length:=by have:=E.own.1;simpa using this
       have bl:Z.length<=8000000000:=by have h1:=len_tsz t;have C:=ar.out;have h3:=HK.out;have h4:=HN.out;omega
       have cX:Hid (kD W.heap.size wc (.o Y t.length r) Z):=by have h:=E.own;unfold kD;rw[bn];exact h
       have cN:Hid (W.heap.size<=wc.heap.size):=E.ren.gr.size;have de:=jh bn;have cV:=jh bl;have HE:Hid (∀v' w',kD W.heap.size w' v' (Z++[.o g' x.args.length aO])->Gr wc (.o Y t.length r) w' v'->Tt W l a0 gk g q (some ⟨g,0,none⟩) v' (.i ((j+1:Nat):Int)) w'):=λv' w' N hg=>by
        have dT:w'.ownsRow W.heap.size 26 1 v' (t.length+1) (Z++[.o g' x.args.length aO]):=by unfold kD at N;rw[ju,de.out]at N;exact N
        obtain⟨M2,eb,ch,rfl,U,ck,dq⟩:=E.push cl cr cG dT hg;have h:=ar.out;have cL:=eP x;exact⟨j+1,M2,P',eb,ch,_,_,f,rfl,oe,U,(HF.mono H).mono ck,.inr ⟨rfl,ck _ _ (H _ _ HM),aj⟩,by simp only[ux,qb2,qg6,ka,qu,not_or];exact⟨aq,λe=>cE e.symm⟩,by rw[Cw];omega,λp X=>by
         rcases ka.1 X with X|X
         .exact cd p X
         .simp at X;subst X;exact λy hy=>by have h1:=IK hy;have C:=dg.out;simp only at *;omega,λb ys e G=>(ah b ys (dq b ys e G) G).imp (λh=>by
         rcases h with (⟨zs,h,J⟩|h)|⟨h,e2⟩
         .exact .inl ⟨zs,by simp[h],J⟩
         .exact .inr h
         .simp at e2;subst e2;exact .inl ⟨x.args,oe,h⟩) id⟩
       clear ba ah E H aj cl cr cG cE dy bn bl;go_wp2_with (at_builtin;refine Yo W.heap.size Z (some ⟨g',0,none⟩) x.args.length aO wc _ rfl _ _ rfl rfl rfl rfl cX cN cV ?_;intro v' w' N hg;have HQ:=jh (HE v' w' N hg);clear N hg);go_roundw
       case rel=>exact HQ
       case measure=>simp[intOf];omega
    .have ds:j=q.length:=by omega
     subst ds;have d1:¬(q.length:Int)<(q.length:Int):=od
     have HE:Hid (WM W l a0 (tsz t) (.o Y t.length r) wr/\tsz t<gk):=by
      have hk:=HK.out;exact⟨⟨M,P,Y,r,Z,t,rfl,T,hF,jn _,od,B,λb ys e G=>by
       rcases A b ys e G with (h|⟨rfl,J⟩)|h
       .exact .inl h
       .rcases hE with h|⟨_,C,h3⟩
        .exact absurd h J
        .rw[C]at e;cases e;exact .inr od
       .exact .inr h⟩,od⟩
     clear T hF hE I hz B A;go_wp2_with fail
     go_roundg (tsz t)
     case measure=>exact HE.2
     case rel=>exact HE.1
set_option maxHeartbeats 4000000
def WQ (ok:br) (w:cg) (r:Rs) (v:cm):Prop:=∃sa sc V k n a s aa al ac ta tl tc na nl nc,v =.agg #[.i r.code,.slice sa r.stack.length sc,.i k,.i n,.i a,.string s,.slice aa al ac,.slice ta tl tc,.slice na nl nc,.i r.aC,.i r.aO]/\r.stack.length<=sc/\aT ok w r.stack sa V/\aA ok w r.said (bg k n a s aa al ac ta tl tc na nl nc)
def PN (W:cg) (r:Rs) (e:Ending) (w':cg):Prop:=∃v,e =.returned v/\WQ (W.heap.size <= ·) w' r v/\cq W w' none
def Wp{ok:br}{w:cg}(e p:Int):WQ ok w ⟨e,[],zeroVa,p,0⟩ (.agg #[.i e,.n0,.i 0,.i 0,.i 0,.string ⟨#[]⟩,.n0,.n0,.n0,.i p,.i 0]) :=
 ⟨none,0,λ_=>.i 0,_,_,_,_,_,_,_,_,_,_,_,_,_,rfl,jn _,aT.nil _ _ _ _,rV _ _⟩
def I64_0:bD 0:=⟨ov,ov⟩
section
variable {ok:br}{W:cg}{en:En}{nk nn np:Int}{nz:bp}{az:aE}{na sa la:bj}{nc sc lc:Nat}{s:aw}{l:ao}{aC:Int}
abbrev ma0:Array cm:=#[.i 0,.i 0,.i 0,.i 0,.i 0,.i 0,.i 0,.i 0,.i 0,.i 0,.string ⟨#[]⟩,.n0,.n0,.n0,.n0,.n0]
def JP{B mb:Nat}{j w:cg}{d:cm}{us:bo}{n:br}(hm:B<=mb)(hb:w.heap[mb]?=some (.cells (yG en aC 0 0 0 0 0 ⟨#[]⟩ none 0 0 none 0 0 none 0 0 d (.n0)) 197))(p:B<=j.heap.size)
 (hK:nI n j w d l.reverse us) (hg:∀b o,b<j.heap.size->b≠mb->w.cell? ⟨b,o,none⟩=j.cell? ⟨b,o,none⟩) (hO:∀b,¬n b->b≠mb) (hgas:bD aC) :
 dm B (λb=>b=mb\/d.ownBlock=some b) w mb en aC ⟨0,0,zeroVa,l,[]⟩:=by
 refine⟨_,_,_,_,_,_,_,_,_,_,_,_,_,d,_,us,[],hb,rV _ _,⟨?_,hK.len,λi x u t s=>?_,λg e=>.inr e⟩,jd4 _ _ _ _,trivial,?_,⟨.inl rfl,λg e=>by cases e⟩,?_,?_,I64_0,I64_0,hgas⟩
 .have⟨k,a⟩:=hK.own;exact⟨k,a.imp id λ⟨g,c,f,e,q,r⟩=>⟨g,c,f,e,xo p q,r⟩⟩
 .have k:=(hK.lies i x u t s).ae (ok':=λb=>¬(b=mb\/d.ownBlock=some b)/\b≠mb) λb hb h=>⟨λa=>by
   rcases a with a|a
   .exact hO b h a
   .have:=(qb5 hK.own b a).1;omega,hO b h⟩
  exact (k.same λb o hb m=>hg b o m hb.2).ae λb _ h=>h.1
 .cases d.ownBlock<;>simp[keptBs]
 .rintro b (rfl|e)
  .exact hm
  .exact xo p (qb5 hK.own b e).1
 .rintro b (rfl|e)
  .exact⟨_,_,hb⟩
  .rcases hK.own.2 with⟨rfl,_⟩|⟨g,c,f,rfl,_,h,_⟩
   .cases e
   .simp only[Value.ownBlock,qq]at e;subst e;exact⟨_,_,h⟩
def Fx{o:Oper}{a:Act}{w:cg}{K:Act->cg->Prop}{Q:Exit->Act->cg->Prop}{b:Nat}{cs z:Array cm}{t:TypeId}(T:TypeId)(x y:Operand)(d:o.op =.store T x y)(e:a.eval x =.po b)(f:a.eval y =.agg cs)(hb:w.heap[b]?=some (.cells z t (0,0)))(g:z.size=cs.size)(hi:(prog.info? T).map (·.size)=some cs.size)(c:cs.all (·.oneCell'))
 (h:K (a.put o.dst undef) (w.setRow b cs)):o.wp prog a w K Q:=wp_store_row T x y d b cs e f t z hb hi g c h
def nZ{w:cg}{b:Nat}{z cs:Array cm}{t:TypeId}(hb:w.heap[b]?=some (.cells z t (0,0))):(w.setRow b cs).heap[b]?=some (.cells cs t (0,0)):=by simp[World.setRow,ja1,hb]
def mQ(w:cg)(b:Nat)(cs:Array cm):cq w (w.setRow b cs) (some b) :=
 ⟨rfl,rfl,rfl,by simp[World.setRow],λk c a=>by simp[World.setRow,ja1];intro e;exact absurd (by rw[e]) a⟩
def DW{B a:Nat}{d m u f:cg}{z:Array cm}{c:cm}{us:bo}(v:B<=d.heap.size)(n:cq d m none)(p:cq m u none)(i:cq u f none)(hm:d.heap.size<=a)(hb:f.heap[a]?=some (.cells z 197 (0,0)))(hK:nI (d.heap.size <= ·) m u c l.reverse us)(t:c.ownBlock≠some a)(j:bD aC) :
 ∃O,dm B O (f.setRow a (yG en aC 0 0 0 0 0 ⟨#[]⟩ none 0 0 none 0 0 none 0 0 c (.n0))) a en aC ⟨0,0,zeroVa,l,[]⟩/\cq d (f.setRow a (yG en aC 0 0 0 0 0 ⟨#[]⟩ none 0 0 none 0 0 none 0 0 c (.n0))) none/\∀b,O b->d.heap.size<=b:=by
 have s:=mQ f a (yG en aC 0 0 0 0 0 ⟨#[]⟩ none 0 0 none 0 0 none 0 0 c (.n0));have q:nI (d.heap.size <= ·) m (f.setRow a (yG en aC 0 0 0 0 0 ⟨#[]⟩ none 0 0 none 0 0 none 0 0 c (.n0))) c l.reverse us:=⟨iT hK.own λg e=>(s.block g (kh (qb5 hK.own g e).2 i.size) (λw=>t (e.trans w))).trans (i.block g (qb5 hK.own g e).2 oe),hK.len,hK.lies⟩;refine⟨_,JP (xo v hm) (nZ hb) (xo v n.size) q (λb o k r=>?_) (λb h e=>h od) j,aG (aJ (aJ n p) i) s hm,?_⟩
 .exact kd ((s.block b (kh k (aJ p i).size) (λe=>by cases e;exact r rfl)).trans ((aJ p i).block b k oe))
 .rintro b (rfl|e)
  .exact hm
  .exact xo n.size (qb5 hK.own b e).1
def PS(w:cg)(x y z:Obj):cq w (((w.alloc x).alloc y).alloc z) none/\(((w.alloc x).alloc y).alloc z).heap[w.heap.size]?=some x/\(((w.alloc x).alloc y).alloc z).heap[w.heap.size+1]?=some y/\(((w.alloc x).alloc y).alloc z).heap[w.heap.size+1+1]?=some z:=by
 refine⟨aJ (aJ (aK _) (aK _)) (aK _),mH (rNw _ _ _) (aK _),?_,?_⟩
 .have h:=rNw (w.alloc x) y z;rw[qh0]at h;exact h
 .have h:=xF ((w.alloc x).alloc y) z;rw[qh0,qh0]at h;exact h
def sH{o:Oper}{a:Act}{w:cg}{Q:Exit->Act->cg->Prop}{b:Nat}{cs z:Array cm}{t:TypeId}{d:Array Oper}{c:List Oper}(e:o.guard=none)(T:TypeId)(x y:Operand)(g:o.op =.store T x y)(i:a.eval x =.po b)(j:a.eval y =.agg cs)(hb:w.heap[b]?=some (.cells z t (0,0)))(k:z.size=cs.size)(hi:(prog.info? T).map (·.size)=some cs.size)(f:cs.all (·.oneCell'))
 (h:wpList prog d Q c (a.put o.dst undef) (w.setRow b cs)):wpList prog d Q (o::c) a w:=wpList_plain e λ_ hK=>Fx T x y g i j hb k hi f (hK _ _ h)
abbrev rs0:Array cm:=#[.i 0,.n0,.i 0,.i 0,.i 0,.string ⟨#[]⟩,.n0,.n0,.n0,.i 0,.i 0]
def Ca(w:cg)(cs:Array cm):cq w ((w.alloc (.cells rs0 176)).setRow w.heap.size cs) none/\((w.alloc (.cells rs0 176)).setRow w.heap.size cs).heap[w.heap.size]?=some (.cells cs 176) :=
 ⟨aG (aK _) (mQ _ _ _) (jn _),nZ (xF _ _)⟩
def zQ{w:cg}{g:Nat}{T:TypeId}{x0 b c d e f i j k l a:cm}(h:w.heap[g]?=some (.cells #[x0,b,c,d,e,f,i,j,k,l,a] T (0,0))) :
 w.cell? ⟨g,0,none⟩=some x0/\w.cell? ⟨g,1,none⟩=some b/\w.cell? ⟨g,2,none⟩=some c/\w.cell? ⟨g,3,none⟩=some d/\w.cell? ⟨g,4,none⟩=some e/\w.cell? ⟨g,5,none⟩=some f/\w.cell? ⟨g,6,none⟩=some i/\w.cell? ⟨g,7,none⟩=some j/\w.cell? ⟨g,8,none⟩=some k/\w.cell? ⟨g,9,none⟩=some l/\w.cell? ⟨g,10,none⟩=some a/\∀o,w.frozen? ⟨g,o,none⟩=false:=by
 simp[World.cell?,World.frozen?,h]
def Eu{k:Nat} : ∀{l:ao},(∀x∈l,x.size<=k)->vsizes l<=l.length*k
 | [],_=>by simp[vsizes]
 | x::l,h=>by have b:=h x oe;have c:=Eu (l:=l) λy a=>h y (by simp[a]);simp only[vsizes,jj,qf7];omega
def Xz{O:br}{h b:cg}{a:bj}{c:Nat}{st:ao}{us:bo}(d:nI O h b (.slice a st.length c) st us)(k:cq h b none)(g:Sm st)(o:st.length<=342):Calls prog 130 #[.slice a st.length c] b (Tu b st):=by have⟨m,n,V,e,_,j⟩:=uG (ok:=λ_=>True) d.own d.len (λi x u f l=>((d.lies i x u f l).ae λ_ _ _=>trivial).same (sAl k)) (λ_ _=>trivial) XS;simp only[ye]at e;obtain⟨rfl,_,rfl⟩:=e;exact zT j (by have:=Eu g;omega) (λx f=>by have:=g x f;omega) od
def Wq{w:cg}{g:Nat}{T:TypeId}{x0 l b c d e f i j k a:cm}(h:w.heap[g]?=some (.cells #[x0,l,b,c,d,e,f,i,j,k,a] T (0,0)))(v:cm) :
 (w.setCell ⟨g,1,none⟩ v).heap[g]?=some (.cells #[x0,v,b,c,d,e,f,i,j,k,a] T (0,0))/\(w.setCell ⟨g,10,none⟩ v).heap[g]?=some (.cells #[x0,l,b,c,d,e,f,i,j,k,v] T (0,0)):=by
 simp[World.setCell,ja1,h]
def Ny{W wc c:cg}{O d:br}(h:cq W wc none)(hF:dB O wc d c)(f:∀b,O b->W.heap.size<=b):cq W c none :=
 ⟨hF.os.trans h.os,hF.tape.trans h.tape,hF.output.trans h.output,xo h.size hF.size,λb a g=>(hF.block b (kh a h.size) (λe=>by have:=f b e;omega)).trans (h.block b a g)⟩
def WW{c g:Int}{w:cg}{b:Nat}{T:TypeId}{k n a:Int}{s:bp}{d:bj}{al e:Nat}{ta:bj}{tl tc:Nat}{na:bj}{f nc:Nat}{l j:cm}(h:w.heap[b]?=some (.cells (yG en aC c g k n a s d al e ta tl tc na f nc l j) T)) :
 w.cell? ⟨b,7,none⟩=some (.i k)/\w.cell? ⟨b,8,none⟩=some (.i n)/\w.cell? ⟨b,9,none⟩=some (.i a)/\w.cell? ⟨b,10,none⟩=some (.string s)/\w.cell? ⟨b,11,none⟩=some (.slice d al e)/\w.cell? ⟨b,12,none⟩=some (.slice ta tl tc)/\w.cell? ⟨b,13,none⟩=some (.slice na f nc):=by
 simp[World.cell?,h,yG]
def XD{w:cg}{g:Nat}{T:TypeId}{x0 k m n o p q r s l a:cm}(h:w.heap[g]?=some (.cells #[x0,k,m,n,o,p,q,r,s,l,a] T (0,0)))(b c d e f i j:cm) :
 (((((((w.setCell ⟨g,2,none⟩ b).setCell ⟨g,3,none⟩ c).setCell ⟨g,4,none⟩ d).setCell ⟨g,5,none⟩ e).setCell ⟨g,6,none⟩ f).setCell ⟨g,7,none⟩ i).setCell ⟨g,8,none⟩ j).heap[g]?=some (.cells #[x0,k,b,c,d,e,f,i,j,l,a] T (0,0)) /\
 cq w (((((((w.setCell ⟨g,2,none⟩ b).setCell ⟨g,3,none⟩ c).setCell ⟨g,4,none⟩ d).setCell ⟨g,5,none⟩ e).setCell ⟨g,6,none⟩ f).setCell ⟨g,7,none⟩ i).setCell ⟨g,8,none⟩ j) (some g):=by
 refine⟨by simp[World.setCell,ja1,h],?_⟩;exact eF (eF (eF (eF (eF (eF (eF (bf _ _) _ _ _) _ _ _) _ _ _) _ _ _) _ _ _) _ _ _) _ _ _
def RA{z:aw}{N:Nat}{VR:bt}(hset:Ah en)(hen:yH en)(hrow:cK ok W az na VR)(hnc:az.length<=nc)(hZ:z.length<=342)(hg5:aC<=50000)(hw:WT aC z (jO l az))(hD:Done aC z (fq en aC N (jO l az)))(hN:∀w2,cq W w2 none->Calls prog 126 #[af nk nn np nz na az.length nc,.slice sa s.length sc,.slice la l.length lc] w2 λe w'=>e =.returned (.bool true)/\cq w2 w' none)
 (hT:∀w2,cq W w2 none->∀O:br,(∀b,O b->W.heap.size<=b)->Calls prog 127 #[.slice la l.length lc] w2 (IV O w2 l.reverse)) (hgas:bD aC):Calls prog 112 #[.agg #[.i en.self,.i en.sender,.i en.amount,.i en.balance],af nk nn np nz na az.length nc,.slice sa s.length sc,.slice la l.length lc,.i aC] W (PN W (rsO (fq en aC N (jO l az)))):=by
 have HS:=jh (DD en);rw[hset]at HS;have⟨HN,HT,HGS,HRW⟩:=we hN hT hgas hrow;have HWK:Hid (∀O5 w5 mb,dm W.heap.size O5 w5 mb en aC (jO l az)->Calls prog 129 #[.po mb] w5 (jK W.heap.size O5 w5 mb en aC (fq en aC N (jO l az)))):=λO5 w5 mb hM=>VF hen hw hZ hg5 hM N (uW hD);have HD:=jh hD;have HNC:=jh hnc;clear hset hN hT hgas hrow hw hZ hen hg5 hD hnc;unfold af at HN|-;generalize hQ:PN W (rsO (fq en aC N (jO l az)))=Q;have HQ:=jh hQ;clear hQ;have HX:=jh (PS W (.cells #[.i en.self,.i en.sender,.i en.amount,.i en.balance] 156) (.cells #[.i nk,.i nn,.i np,.string nz,.slice na az.length nc] 51) (.cells #[.i 0,.n0,.i 0,.i 0,.i 0,.string ⟨#[]⟩,.n0,.n0,.n0,.i 0,.i 0] 176));go_enter func112,ntmps112
 go_upto_region 1 with (fail)
 generalize ((W.alloc _).alloc _).alloc _=W3 at *;have hS0:cq W3 W3 none:=bf _ _;have K5:=λ(w':cg) (h:cq W3 w' none)=>And.intro (WY (mH HX.2.1 h)) (bE (mH HX.2.2.1 h))
 go_upto_region 3 with (first
  | (go_at_call 125;(with_reducible refine (HS.out _).mono ?_);rintro e w1 ⟨rfl,hg1⟩;have hS1:=aJ hS0 hg1;clear hg1)
  | (go_at_call 126;(with_reducible refine (HN.out _ (aJ HX.out.1 hS1)).mono ?_);rintro e w1 ⟨rfl,hg1⟩;have hS2:=aJ hS1 hg1;clear hg1))
 go_cut [11] (λpv wx=>∃mb O,pv =.po mb/\dm W.heap.size O wx mb en aC ⟨0,0,zeroVa,l,[]⟩/\cq w1 wx none/\∀b,O b->w1.heap.size<=b)
 case first =>
  have hW1:W.heap.size<=w1.heap.size:=xo HX.out.1.size hS2.size;have hd:cq w1 w1.drew none:=kY (bf _ _);refine wR (cs:=[((4:Nat),λw:cg=>cq W3 w none)]) 7 oA oA ?_;refine ry (i:=0) (k:=4) (some 25) (bL (.inr (kY hS2)) fP) (.head _) (Or.inl ⟨by rfl,λw hw=>by have hk:=K5 w hw;go_simp;with_reducible rfl⟩) ?_ (hi:=rfl);simp only[Act.put,zd,yy,xT];refine dN (i:=1) (some 26) (bL (.inr (kY hS2)) fP) ?_;simp only[Act.put,zd,yy,xT];refine dN (i:=2) (some 27) (bL (.inr (kY hS2)) fP) ?_;simp only[Act.put,zd,yy,xT];refine gU (rs:=[3,5]) oA rfl (iE.cons rfl (λK hK=>?_) (iE.cons rfl (λK hK=>?_) iE.nil))
  .go_simp;refine (HT w1.drew (aJ (aJ HX.1 hS2) hd) (w1.heap.size <= ·) (λb hb=>od)).mono ?_;rintro e w2 ⟨sv,us,rfl,hC,hg⟩;obtain⟨ta,tc,rfl,htc⟩:=hC.slice;rw[qb3]at hC;have hS3:cq W3 w2 none:=aJ (aJ hS2 hd) hg;have hsv:(Value.slice ta l.length tc).ownBlock≠some w2.heap.size:=λe=>by have:=(qb5 hC.own _ e).2;omega
   have hnb:=xF w2 (.cells ma0 197);have⟨O,hM,hg4,hO⟩:=DW (en:=en) hW1 hd hg (aK _) (xo hd.size hg.size) hnb hC hsv HGS;refine hK _ _ (bL (.inr hS3) fP) ?_;clear hK K;refine gU (rs:=[4,5]) oA rfl (iE.cons rfl (λK hK=>?_) (iE.cons rfl (λK hK=>?_) iE.nil))
   .go_simp;refine hK _ _ (bL (.inl rfl) fP) ?_;clear hK K;refine gU (rs:=[5]) oA rfl (iE.cons rfl (λK hK=>?_) iE.nil);go_simp;refine hK _ _ (bL (.inl rfl) fP) ?_;clear hK K;refine gU (rs:=[6]) oA rfl (iE.cons rfl (λK hK=>?_) iE.nil);rw[if_pos (show Region.wanted _ _ from rfl)];refine Fx 197 _ _ rfl rfl rfl hnb rfl oA oA ?_;refine hK _ _ (bL (.inl rfl) fP) ?_;clear hK K;refine uP oA ?_ _;go_wp2_with fail;go_meet;exact⟨_,O,rfl,hM,hg4,hO⟩
   .go_simp;refine hK _ _ (bL (.inr (aJ hS3 (aK _))) fP) ?_;clear hK K;refine gU (rs:=[4]) oA rfl (iE.cons rfl (λK hK=>?_) iE.nil);go_simp;refine hK _ _ (bL (.inl rfl) fP) ?_;clear hK K;refine gU (rs:=[6]) oA rfl (iE.cons rfl (λK hK=>?_) iE.nil);rw[if_pos (show Region.wanted _ _ from rfl)];refine Fx 197 _ _ rfl rfl rfl hnb rfl oA oA ?_;refine hK _ _ (bL (.inl rfl) fP) ?_;clear hK K;refine uP oA ?_ _;go_wp2_with fail;go_meet;exact⟨_,O,rfl,hM,hg4,hO⟩
  .go_simp;refine hK _ _ (bL (.inr (aJ (kY hS2) (aK _))) fP) ?_;clear hK K;refine gU (rs:=[3]) oA rfl (iE.cons rfl (λK hK=>?_) iE.nil);go_simp;have hd2:cq w1 (w1.drew.alloc (.cells ma0 197)) none:=aJ hd (aK _);have hnb0:=xF w1.drew (.cells ma0 197);refine (HT (w1.drew.alloc (.cells ma0 197)) (aJ (aJ HX.1 hS2) hd2) (w1.heap.size <= ·) (λb hb=>od)).mono ?_;rintro e w2 ⟨sv,us,rfl,hC,hg⟩;obtain⟨ta,tc,rfl,htc⟩:=hC.slice;rw[qb3]at hC;have hnb:=mH hnb0 hg;have hsv:(Value.slice ta l.length tc).ownBlock≠some w1.drew.heap.size:=λe=>by have:=(qb5 hC.own _ e).1;rw[qh0]at this;omega
   have⟨O,hM,hg4,hO⟩:=DW (en:=en) hW1 hd2 hg (bf _ _) hd.size hnb hC hsv HGS;refine hK _ _ (bL (.inr (aJ (aJ hS2 hd2) hg)) fP) ?_;clear hK K;refine gU (rs:=[4]) oA rfl (iE.cons rfl (λK hK=>?_) iE.nil);go_simp;refine hK _ _ (bL (.inl rfl) fP) ?_;clear hK K;refine gU (rs:=[6]) oA rfl (iE.cons rfl (λK hK=>?_) iE.nil);rw[if_pos (show Region.wanted _ _ from rfl)];refine Fx 197 _ _ rfl rfl rfl hnb rfl oA oA ?_;refine hK _ _ (bL (.inl rfl) fP) ?_;clear hK K;refine uP oA ?_ _;go_wp2_with fail;go_meet;exact⟨_,O,rfl,hM,hg4,hO⟩
 case rest =>
  obtain⟨mb,O,rfl,hM,hg4,hO⟩:=hcut;have hk:=K5 wc (aJ hS2 hg4);have HEN:Hid (Calls prog 128 #[.po mb,.agg #[.slice na az.length nc,.i 0,.n0,.n0]] wc (K8 W.heap.size O wc mb en aC (jO l az))):=Dp (f:=⟨az,0,[],[]⟩) (VW:=λ_=>.i 0) (VA:=λ_=>.i 0) hM (yb _) ⟨show (0:Int)≠67 by decide,I64_0⟩ ((HRW.ae (ok':=λb=>¬O b) λb hb _ h=>by have:=hO b h;have:=hS2.size;have:=HX.out.1.size;omega).same (λb o _ hlt=>kd ((aJ (aJ HX.1 hS2) hg4).block b hlt oe))) (cK.nil _ _ _ _) (aT.nil _ _ _ _) ⟨HNC,jn _,jn _⟩
  have HO:=jh hO;have HG4:Hid (cq W wc none):=aJ (aJ HX.1 hS2) hg4;have HB10:=jh (mH HX.2.2.2 (aJ hS2 hg4));have HLT:Hid (W.heap.size+1+1<w1.heap.size):=kh (kj.1 HX.2.2.2).1 hS2.size;have HBF:Hid (∀O6 w6 wf,dB O wc O6 w6->cq w6 wf none->cq W wf none/\wf.heap[W.heap.size+1+1]?=some (.cells rs0 176)):=λO6 w6 wf hF hg=>by refine⟨aJ (Ny HG4 hF λb hb=>by have:=HO.out b hb;have:=HLT.out;omega) hg,mH ((hF.block _ (kj.1 HB10).1 λh=>?_).trans HB10) hg⟩;have:=HO.out _ h;have:=HLT.out;omega
  clear hM hg4 hO K5 HX HT HN HS hS0 hS1 hS2 HRW HNC
  cases ho:fq en aC N (jO l az)with
  | stuck=>exact absurd ho (uW HD)
  | no er m =>
   rw[ho]at HWK HD HQ;clear ho;have hE:=HD.out.2
   by_cases h10:er=10
   .subst h10;have hz:=(hE.resolve_right od).2.2
    go_upto_region 7 with (first
     | (go_at_call 128;(with_reducible refine HEN.out.mono ?_);rintro e w5 ⟨rfl,O5,hF5,hM5⟩;have HF5:=jh hF5;have HM5:=jh hM5;clear hF5 hM5)
     | (go_at_call 129;(with_reducible refine (HWK.out _ _ _ HM5.out).mono ?_);rintro e w6 ⟨O6,hF6,_,rfl,m',e1,e2,k,n,a,s',aa,al,ac,ta,tl,tc,na',nl,nc',sv,fv,us,fs,h6⟩;have z6:=iM h6.blk;rw[e1]at z6;have HL:=Ca w6 #[.i 10,.n0,.i 0,.i 0,.i 0,.string ⟨#[]⟩,.n0,.n0,.n0,.i m.paid,.i 0];have HF6:=jh (HF5.out.trans hF6);have H6:=jh h6;have HSD:=jh h6.said;rw[e2]at HSD;clear hF6 h6 e1 e2)
     | (refine sH rfl 176 _ _ rfl rfl rfl (xF _ _) rfl oA oA ?_))
    simp only[rs0]at HL;generalize World.setRow _ _ _=w7 at *;have z7:=zQ HL.2;have z8:=WW (mH H6.blk HL.1);have hnb:=xF w7 (.cells #[.i k,.i n,.i a,.string s',.slice aa al ac,.slice ta tl tc,.slice na' nl nc'] 29);have HRE:Hid (Calls prog 130 #[.o (w7.heap.size) 1 1] (w7.alloc (.cells #[.i k,.i n,.i a,.string s',.slice aa al ac,.slice ta tl tc,.slice na' nl nc'] 29)) (Tu (w7.alloc (.cells #[.i k,.i n,.i a,.string s',.slice aa al ac,.slice ta tl tc,.slice na' nl nc'] 29)) [m.said])):=by
     have hL:=((HSD.ae (ok':=λ_=>True) λ_ _ _=>trivial).same (sAl (aJ HL.1 (aK (.cells #[.i k,.i n,.i a,.string s',.slice aa al ac,.slice ta tl tc,.slice na' nl nc'] 29)))));refine zT (V:=λ_=>bg k n a s' aa al ac ta tl tc na' nl nc') (a:=some ⟨w7.heap.size,0,none⟩) (l:=[m.said]) (ok:=λ_=>True) ⟨by unfold maxLen;simp,λi hi=>?_,λi hi=>?_⟩ (by simp[vsizes];omega) (λx hx=>by simp at hx;subst hx;omega) oe
     .obtain rfl:i=0:=by simpa using hi
      exact⟨_,_,rfl,trivial,k,n,a,s',aa,al,ac,ta,tl,tc,na',nl,nc',rfl,oe⟩
     .obtain rfl:i=0:=by simpa using hi
      exact hL
    have HL7:=jh HL;clear HL z6 hk hE hnb;simp only[Act.put]
    go_upto_region 12 with ((go_at_call 130;(refine HRE.mono ?_);rintro e w9 ⟨a3,c3,V3,rfl,hc3,hR3,hg9⟩;obtain⟨b,o,rfl,hb,k2,n2,a2,s2,aa2,jX,ac2,ta2,sM,tc2,na2,nl2,nc2,hv,hc7⟩:=hR3.2.1 0 oe;have hl9:=hR3.2.2 0 oe;rw[hv]at hl9;simp only[jh2,qf6,List.getElem_cons_zero,qe1]at hc7 hl9 hc3;have hg9':=aJ (aK _) hg9;have hb9:=mH HL7.2 hg9';have z9:=zQ hb9;have HS9:=jh (XD hb9 (.i k2) (.i n2) (.i a2) (.string s2) (.slice aa2 jX ac2) (.slice ta2 sM tc2) (.slice na2 nl2 nc2));have HL9:=jh hl9;have HG9:=jh hg9';clear hR3 hg9 hl9 hg9' hb9))
    generalize World.setCell _ _ _=wf at *;have z11:=zQ HS9.1;have hw11:cq w6 wf none:=aG (aJ HL7.1 HG9) HS9.2 (jn _);have⟨hgf,hbf⟩:=HBF.out _ _ _ HF6 hw11;have HFI:Hid (Q (.returned (.agg #[.i 10,.n0,.i k2,.i n2,.i a2,.string s2,.slice aa2 jX ac2,.slice ta2 sM tc2,.slice na2 nl2 nc2,.i m.paid,.i 0])) (wf.setRow (W.heap.size+1+1) #[.i 10,.n0,.i k2,.i n2,.i a2,.string s2,.slice aa2 jX ac2,.slice ta2 sM tc2,.slice na2 nl2 nc2,.i m.paid,.i 0])):=by
     rw[<-HQ.out];have hsz:W.heap.size+1+1<w6.heap.size/\w6.heap.size<w7.heap.size:=⟨kh (kj.1 HB10).1 HF6.size,(kj.1 HL7.2).1⟩;refine⟨_,rfl,⟨none,0,λ_=>.i 0,k2,n2,a2,s2,aa2,jX,ac2,ta2,sM,tc2,na2,nl2,nc2,rfl,jn _,aT.nil _ _ _ _,?_⟩,aG hgf (mQ _ _ _) od⟩;refine (HL9.same (λb o hb hlt=>?_)).ae (λb _ hb=>?_)
     .rw[qh0]at hb;exact kd (((mQ _ _ _).block b (kh hlt HS9.2.size) (λe=>by cases e;omega)).trans (HS9.2.block b hlt (λe=>by cases e;omega)))
     .rw[qh0]at hb;omega
    clear z9 z7 z8 hc7 hgf hz hb hc3;go_wp2_with (refine sH rfl 176 _ _ rfl rfl rfl hbf rfl oA oA ?_);exact jb3 (results_cell_row results112 _ _ (W.heap.size+1+1) _ _ _ _ rfl (nZ hbf) underlying176 rfl oA) rfl HFI
   .have b0:(er==0)=false:=by simp;omega
    have b10:(er==10)=false:=by simpa using h10
    go_upto_region 7 with (first
     | (go_at_call 128;(with_reducible refine HEN.out.mono ?_);rintro e w5 ⟨rfl,O5,hF5,hM5⟩;have HF5:=jh hF5;have HM5:=jh hM5;clear hF5 hM5)
     | (go_at_call 129;(with_reducible refine (HWK.out _ _ _ HM5.out).mono ?_);rintro e w6 ⟨O6,hF6,_,rfl,m',e1,e2,k,n,a,s',aa,al,ac,ta,tl,tc,na',nl,nc',sv,fv,us,fs,h6⟩;have z6:=iM h6.blk;rw[e1]at z6;have HL:=Ca w6 #[.i er,.n0,.i 0,.i 0,.i 0,.string ⟨#[]⟩,.n0,.n0,.n0,.i m.paid,.i 0];have HF6:=jh (HF5.out.trans hF6);have H6:=jh h6;clear hF6 h6 e1)
     | (refine sH rfl 176 _ _ rfl rfl rfl (xF _ _) rfl oA oA ?_))
    simp only[rs0]at HL;generalize World.setRow _ _ _=w7 at *;have z7:=zQ HL.2;have⟨hgf,hbf⟩:=HBF.out _ _ _ HF6 HL.1;have HFI:Hid (Q (.returned (.agg #[.i er,.n0,.i 0,.i 0,.i 0,.string ⟨#[]⟩,.n0,.n0,.n0,.i m.paid,.i 0])) (w7.setRow (W.heap.size+1+1) #[.i er,.n0,.i 0,.i 0,.i 0,.string ⟨#[]⟩,.n0,.n0,.n0,.i m.paid,.i 0])):=by rw[<-HQ.out];refine⟨_,rfl,?_,aG hgf (mQ _ _ _) od⟩;rw[show rsO (.no er m)=⟨er,[],zeroVa,m.paid,0⟩ by simp only[rsO,if_neg h10]];exact Wp _ _
    clear HL z6 hk hgf hE h10;simp only[Act.put];go_wp2_with (refine sH rfl 176 _ _ rfl rfl rfl hbf rfl oA oA ?_);exact jb3 (results_cell_row results112 _ _ (W.heap.size+1+1) _ _ _ _ rfl (nZ hbf) underlying176 rfl oA) rfl HFI
  | go m =>
   rw[ho]at HWK HD;rw[ho]at HQ;clear ho
   go_upto_region 7 with (first
    | (go_at_call 128;(with_reducible refine HEN.out.mono ?_);rintro e w5 ⟨rfl,O5,hF5,hM5⟩;have HF5:=jh hF5;have HM5:=jh hM5;clear hF5 hM5)
    | (go_at_call 129;(with_reducible refine (HWK.out _ _ _ HM5.out).mono ?_);rintro e w6 ⟨O6,hF6,rfl,k,n,a,s',aa,al,ac,ta,tl,tc,na',nl,nc',sv,fv,us,fs,h6⟩;have z6:=iM h6.blk;have HL:=Ca w6 #[.i 0,.n0,.i 0,.i 0,.i 0,.string ⟨#[]⟩,.n0,.n0,.n0,.i m.paid,.i 0];have HF6:=jh (HF5.out.trans hF6);have H6:=jh h6;clear hF6 h6)
    | (refine sH rfl 176 _ _ rfl rfl rfl (xF _ _) rfl oA oA ?_))
   simp only[rs0]at HL;generalize World.setRow _ _ _=w7 at *;have z7:=zQ HL.2;have HL7:=jh HL;clear HL z6 hk;simp only[Act.put]
   go_upto_region 9 with (fail)
   have hw7:cq w6 w7.drew none:=kY HL7.1;have HTU:Hid (Calls prog 127 #[sv] w7.drew (IV O6 w7.drew m.st)):=by have h:=Cy (H6.grow hw7).jL.src (by have:=HD.out.2.2.2.2.2;simp;omega);rw[jf5]at h;exact h
   refine wR (cs:=[((2:Nat),λw:cg=>cq w6 w none),((9:Nat),λw:cg=>cq w6 w none)]) 10 oA oA ?_;refine dN (i:=0) (some 43) (bL (.inr hw7) (bL (.inr hw7) fP)) ?_;simp only[Act.put,zd,yy,xT];refine ry (i:=1) (k:=2) (some 44) (bL (.inr hw7) (bL (.inr hw7) fP)) (.head _) (Or.inl ⟨by rfl,λw hw=>by have hk:=iM (mH H6.out.blk hw);go_simp;with_reducible rfl⟩) ?_ (hi:=rfl);simp only[Act.put,zd,yy,xT];refine dN (i:=4) (some 47) (bL (.inr hw7) (bL (.inr hw7) fP)) ?_;simp only[Act.put,zd,yy,xT];refine ry (i:=5) (k:=9) (some 48) (bL (.inr hw7) (bL (.inr hw7) fP)) (.tail _ (.head _)) (Or.inl ⟨by rfl,λw hw=>by have hk:=iM (mH H6.out.blk hw);go_simp;with_reducible rfl⟩) ?_ (hi:=rfl);simp only[Act.put,zd,yy,xT];refine gU (rs:=[2]) oA rfl (iE.cons rfl (λK hK=>?_) iE.nil);go_simp;refine HTU.out.mono ?_;rintro e w8 ⟨v,us2,rfl,hC,hg8⟩;obtain⟨a2,c2,rfl,hc2⟩:=hC.slice;have hw8:cq w6 w8 none:=aJ hw7 hg8;refine hK.out _ _ (bL (.inl rfl) (bL (.inr hw8) fP)) ?_;clear hK K;refine gU (rs:=[3]) oA rfl (iE.cons rfl (λK hK=>?_) iE.nil);go_simp;refine (Xz hC hg8 HD.out.2.2.2.2.1.sm HD.out.2.2.2.2.2).mono ?_;rintro e w9 ⟨a3,c3,V3,rfl,hc3,hR3,hg9⟩;have hw9:cq w6 w9 none:=aJ hw8 hg9;refine hK.out _ _ (bL (.inl rfl) (bL (.inr hw9) fP)) ?_;clear hK K;have hb9:=mH HL7.out.2 (aJ (kY (bf w7 none)) (aJ hg8 hg9));have z9:=zQ hb9;have hs9:=(Wq hb9 (.slice a3 m.st.length c3)).1;have z10:=zQ hs9;have hs10:=(Wq hs9 (.i m.aO)).2;refine dN (i:=6) (some 49) (bL (.inl rfl) (bL (.inr hw9) fP)) ?_;simp only[Act.put,zd,yy,xT];have hw10:cq w6 (w9.setCell ⟨w6.heap.size,1,none⟩ (.slice a3 m.st.length c3)) none:=aG hw9 (eF (bf _ _) _ _ _) (jn _);refine gU (rs:=[7]) oA rfl (iE.cons rfl (λK hK=>?_) iE.nil);go_simp;refine hK.out _ _ (bL (.inl rfl) (bL (.inr hw10) fP)) ?_;clear hK K;refine dN (i:=8) (some 50) (bL (.inl rfl) (bL (.inr hw10) fP)) ?_;simp only[Act.put,zd,yy,xT];refine gU (rs:=[9]) oA rfl (iE.cons rfl (λK hK=>?_) iE.nil);go_simp;refine hK.out _ _ (bL (.inl rfl) (bL (.inl rfl) fP)) ?_;clear hK K;have hw11:cq w6 ((w9.setCell ⟨w6.heap.size,1,none⟩ (.slice a3 m.st.length c3)).setCell ⟨w6.heap.size,10,none⟩ (.i m.aO)) none:=aG hw10 (eF (bf _ _) _ _ _) (jn _);refine uP oA ?_ _;have z11:=zQ hs10;clear z7 z9 z10 hs9 hb9;have⟨hgf,hbf⟩:=HBF.out _ _ _ HF6.out hw11;have HFI:Hid (Q (.returned (.agg #[.i 0,.slice a3 m.st.length c3,.i 0,.i 0,.i 0,.string ⟨#[]⟩,.n0,.n0,.n0,.i m.paid,.i m.aO])) (((w9.setCell ⟨w6.heap.size,1,none⟩ (.slice a3 m.st.length c3)).setCell ⟨w6.heap.size,10,none⟩ (.i m.aO)).setRow (W.heap.size+1+1) #[.i 0,.slice a3 m.st.length c3,.i 0,.i 0,.i 0,.string ⟨#[]⟩,.n0,.n0,.n0,.i m.paid,.i m.aO])):=by
    rw[<-HQ.out];have hsz:W.heap.size+1+1<w6.heap.size/\w6.heap.size<w8.heap.size:=⟨kh (kj.1 HB10).1 HF6.size,kh (kj.1 HL7.2).1 hg8.size⟩;refine⟨_,rfl,⟨a3,c3,V3,_,_,_,_,_,_,_,_,_,_,_,_,_,rfl,hc3,?_,rV _ _⟩,aG hgf (mQ _ _ _) od⟩;refine (hR3.same (λb o hb hlt=>?_)).ae (λb _ hb=>?_)
    .exact kd (((mQ _ _ _).block b (by simpa using hlt) (λe=>by cases e;omega)).trans ((eF (eF (bf w9 (some w6.heap.size)) _ _ _) _ _ _).block b hlt (λe=>by cases e;omega)))
    .have:=hgf.size;omega
   clear hR3 hC hgf;go_wp2_with (refine sH rfl 176 _ _ rfl rfl rfl hbf rfl oA oA ?_);exact jb3 (results_cell_row results112 _ _ (W.heap.size+1+1) _ _ _ _ rfl (nZ hbf) underlying176 rfl oA) rfl HFI
def Vb{b:Bool}(d:Ah en=b)(o:b->∀g,cq W g none->Calls prog 126 #[af nk nn np nz na az.length nc,.slice sa s.length sc,.slice la l.length lc] g λe w'=>e =.returned (.bool false)/\cq g w' none) :
 Calls prog 112 #[.agg #[.i en.self,.i en.sender,.i en.amount,.i en.balance],af nk nn np nz na az.length nc,.slice sa s.length sc,.slice la l.length lc,.i aC] W (PN W (rsO .stuck)):=by
 have n:=jh (DD en);rw[d]at n;have f:=jh o;clear d o;unfold af at f|-;generalize p:PN W (rsO .stuck)=Q;have q:=jh p;clear p;have HX:=jh (PS W (.cells #[.i en.self,.i en.sender,.i en.amount,.i en.balance] 156) (.cells #[.i nk,.i nn,.i np,.string nz,.slice na az.length nc] 51) (.cells rs0 176));have j:Hid (∀w',cq W w' none->Q (.returned (.agg #[.i 14,.n0,.i 0,.i 0,.i 0,.string ⟨#[]⟩,.n0,.n0,.n0,.i 0,.i 0])) (w'.setRow (W.heap.size+1+1) #[.i 14,.n0,.i 0,.i 0,.i 0,.string ⟨#[]⟩,.n0,.n0,.n0,.i 0,.i 0])):=λw' r=>by rw[<-q.out];exact⟨_,rfl,Wp _ _,aG r (mQ _ _ _) od⟩
 cases b
 all_goals
  try replace f:=jh (f rfl)
  go_enter func112,ntmps112
  go_upto_region 1 with (fail)
  simp only[rs0]at HX;generalize ((W.alloc _).alloc _).alloc _=k at *;have m:cq k k none:=bf _ _;have t:=λ(w':cg) (h:cq k w' none)=>And.intro (WY (mH HX.2.1 h)) (bE (mH HX.2.2.1 h));go_wp2_with (first
   | (go_at_call 125;(with_reducible refine (n.out _).mono ?_);rintro e u ⟨rfl,c⟩;have a:=aJ m c;clear c)
   | (go_at_call 126;(with_reducible refine (f.out _ (aJ HX.out.1 a)).mono ?_);rintro e g ⟨rfl,c⟩;replace a:=aJ a c;clear c)
   | (refine sH rfl 176 _ _ rfl rfl rfl (mH HX.2.2.2 a) rfl oA oA ?_))
  exact jb3 (results_cell_row results112 _ _ (W.heap.size+1+1) _ _ _ _ rfl (nZ (mH HX.2.2.2 a)) underlying176 rfl oA) rfl (j _ (aJ HX.1 a))
end
open Pe
def Xc (en:En):A1:=.agg [.d (.v (.i en.self)),.d (.v (.i en.sender)),.d (.v (.i en.amount)),.d (.v (.i en.balance))]
def YW (r:Rs):A1:=.agg [.d (.v (.i r.code)),.d (.s 7 (vasD r.stack)),.d (.v (.i r.said.k)),.d (.v (.i r.said.n)),.d (.v (.i r.said.a)),.d (.v (.string r.said.s)),.d (.s 7 (vasD r.said.args)),.d (.s 2 (tysD r.said.types)),.d (.s 5 (ndsD r.said.code)),.d (.v (.i r.aC)),.d (.v (.i r.aO))]
def TZ{ok:br}{w:cg}{en:En}{v:cm}(h:gm (λ_=>none) ok w (Xc en) v):v =.agg #[.i en.self,.i en.sender,.i en.amount,.i en.balance]:=by
 obtain⟨k,rfl,h⟩:=h
 match k,h with
 | [a,b,c,d],⟨e,f,g,j,_⟩ =>
  rw[bW e,bW f,bW g,bW j]
def XC{ok:br}{w:cg}{r:Rs}{v:cm}(h:WQ ok w r v):iZ (λ_=>none) ok w (.of (YW r)) v:=by obtain⟨sa,sc,V,k,n,a,s,y,al,z,B,tl,C,na,A,nc,rfl,l,j,i⟩:=h;have⟨b,c,u,x,m,o,e,p,q,t⟩:=y9 i;simp only[bg,ja4,jc3,qb6,Value.int.injEq,Value.string.injEq,true_and,and_true]at e;obtain⟨rfl,rfl,rfl,rfl,d,f,g⟩:=e;rw[d,f,g];exact⟨_,rfl,.v _,yu j l,.v _,.v _,.v _,.v _,p,q,t,.v _,.v _,trivial⟩
def VK{en:En}{n:Tr}{s:aw}{l:ao}{aC:Int}(hn:okN n)(Q:n.size<=4611686018427387904)(Z:okTs s)(Y:okVs l)(h6:l.length<=10000000)(P:∀x∈l,x.size<=6000000)(A:bD aC)(J:aC<=50000) :
 Hd ⟨112,[Xc en,ndA n,dZ s,qi l,iA aC],.of (YW (Fy en n s l aC))⟩:=⟨tF func112,λok w vs h=>by
 match vs,h with
 | [ev,nv,sv,lv,gv],⟨he,D,E,B,K,_⟩ =>
  have hM:=(Pn hn Q Z Y P (λe h=>EO h)).runN rfl;have d:∀g,cq w g none->Calls prog 126 #[nv,sv,lv] g λe p=>e =.returned (.bool (rW n s l))/\cq g p none:=λg q=>by have k:zH ok w ok g:=⟨q.size,λb G h=>⟨h,λo=>kd (q.block b G oe)⟩⟩;refine (hM ok g [nv,sv,lv] ⟨D.keep k (λ_ _ h=>h),E.keep k (λ_ _ h=>h),B.keep k (λ_ _ h=>h),trivial⟩).mono ?_;rintro e p ⟨A,v,rfl,hv⟩;exact⟨by rw[bW hv],A⟩
  obtain rfl:=TZ he;obtain rfl:gv =.i aC:=bW K;have hL:=oK hn D;obtain⟨_,nk,nn,np,nz,na,nc,t,rfl,j⟩:=qL hL;obtain⟨sa,sc,VS,rfl,ah,ab⟩:=jR Z (.inl rfl) E;obtain⟨la,lc,VL,rfl,ad,I⟩:=lV Y (.inl rfl) B;have⟨R,n1,S,T,az⟩:=n;simp only[Tr.args0,Tr.nd.injEq,and_true]at t j d|-;obtain⟨rfl,rfl,rfl,rfl⟩:=t;have u:∀(r:Rs) (e:Ending) (p:cg),PN w r e p->cq w p none/\∃v,e =.returned v/\iZ (λ_=>none) (λb=>ok b\/w.heap.size<=b) p (.of (YW r)) v:=λr e p ⟨v,e1,hr,A⟩=>by have⟨sa,sc,V,k,n,a,s,aa,al,ac,ta,tl,tc,na,nl,nc,e2,y,hV,hS⟩:=hr;exact⟨A,v,e1,XC ⟨sa,sc,V,k,n,a,s,aa,al,ac,ta,tl,tc,na,nl,nc,e2,y,hV.ae (λb _ h=>.inr h),hS.ae (λb _ h=>.inr h)⟩⟩
  by_cases H:Ah en/\rW (.nd R n1 S T az) s l
  .unfold Fy;rw[if_pos H];have⟨m,C⟩:=H;have⟨⟨f,x,y⟩,X⟩:=zb.1 C;have z:=ad7 m;have hx:=uV y;have W:x.length<=342:=by omega
   have F:f=false->x=x:=λ_=>rfl;have⟨N,U⟩:=Cg (aC:=aC) z y F W X (abM P);rw[xA (uW U)];have⟨M,c⟩:az.length<=nc/\∃V,cK ok w az na V:=by have⟨_,h1,V,h2⟩:=rep_rowN _ (jn _) hn.2 j;exact⟨h1,V,h2⟩
   have⟨VR,c⟩:=c;rw[C]at d;exact (RA m z c M W J (Gg y F X (abM P)) U d (λg q O hO=>Cy (Src.row ((I.ae (ok':=λb=>¬O b) λb G _ h=>by have:=hO b h;omega).same (λb o _ L=>kd (q.block b L oe)))) od) A).mono (u _)
  .unfold Fy;rw[if_neg H];refine (Vb (b:=Ah en) (s:=s) (l:=l) (az:=az) rfl (λG g q=>?_)).mono (u _);have:=d g q;rw[show rW (.nd R n1 S T az) s l=false by cases h:rW (.nd R n1 S T az) s l with|false=>rfl|true=>exact absurd ⟨G,h⟩ H]at this;exact this⟩
def acN (P S:Ty) (c:aE) (x:Va):Ac:=⟨2,0,0,P.t,P.args,S.t,S.args,c,x.k,x.n,x.a,x.s,x.args,x.types,x.code⟩
def ku (o:lI):Except Int Ac :=
 if fu o.p then (if fu o.s then (if DR (kreadT o.p) (kreadT o.s) o.code=0 then (match jf (kreadT o.s) o.arg with
  | some x=>if yN x then .error 5 else .ok (acN (kreadT o.p) (kreadT o.s) o.code.args0 x)
  | none=>.error 5)else .error (DR (kreadT o.p) (kreadT o.s) o.code))else .error 5)else .error 5
def aaJ (W:Wk) (A:Ac) (i:Nat) (n:Int):Wk×Int :=
 if (moveF (vU W.L i A) W.src i n).2=0 then ({ W with L:=(moveF (vU W.L i A) W.src i n).1,made:=W.made++[(i:Int)] },0)else ({ W with L:=vU W.L i A },(moveF (vU W.L i A) W.src i n).2)
def wy (W:Wk) (o:lI):Wk×Int :=
 match ku o with
 | .error e=>(W,e)
 | .ok A=>if ib W.L 12 0=12 then (W,7)else aaJ W A (ib W.L 12 0) o.lG
def Kk (W:Wk) (i:Nat) (r:Rs):Wk×List Rq×Int :=
 if r.code=0 then (if (addN W.Ze r.aO).2=0 then (match r.stack with
  | [.mk _ _ _ _ [l,s] _ _]=>({ W with paid:=W.paid+r.aC,Ze:=(addN W.Ze r.aO).1,L:=NY W.L i s },l.args.map (Rq.told i),0)
  | _=>(W,[],99))else ({ W with paid:=W.paid+r.aC },[],(addN W.Ze r.aO).2))else ({ W with paid:=W.paid+r.aC },[],r.code)
noncomputable def pK (W:Wk) (i:Nat) (en:En) (x:Va):Wk×List Rq×Int :=
 Kk W i (Fy en (lD (W.L i)) [.nd 11 [(W.L i).par,(W.L i).oh]] [aY x (W.L i).val] (W.aC - W.paid))
noncomputable def Cr (W:Wk) (r:Rq) (i:Nat):Wk×List Rq×Int :=
 match argF r (qO (W.L i))with
 | none=>(W,[],5)
 | some x=>if (W.L i).is=1 then (W,[],0)else pK W i ⟨i,r.fr,r.lG,(W.L i).ji⟩ x
noncomputable def mW (W:Wk) (r:Rq):Wk×List Rq×Int :=
 if (moveF W.L r.fr r.dst r.lG).2=0 then Cr { W with L:=(moveF W.L r.fr r.dst r.lG).1 } r r.dst.toNat else (W,[],(moveF W.L r.fr r.dst r.lG).2)
noncomputable def yS (W:Wk):Rq->Wk×List Rq×Int
 | .told f v=>mW W (.told f v)
 | .op f o=>if o.kind=1 then mW W (.op f o)else if o.kind=2 then ((wy W o).1,[],(wy W o).2)else (W,[],3)
noncomputable def rowF:Nat->Wk->List Rq->Wk×Int
 | 0,W,_=>(W,7)
 | _+1,W,[]=>(W,0)
 | N+1,W,r::rs=>if W.done=24 then (W,7)else
  if (yS W r).2.2=0 then rowF N { (yS W r).1 with done:=(yS W r).1.done+1 } (rs++(yS W r).2.1)else ((yS W r).1,(yS W r).2.2)
noncomputable def doneF:Wk->List lI->Wk×Int
 | W,[]=>(W,0)
 | W,o::os=>if (rowF 26 W [.op W.src o]).2=0 then doneF (rowF 26 W [.op W.src o]).1 os else rowF 26 W [.op W.src o]
def mf (L:Lg) (f:Int) (b:Bt):Int :=
 if yl L f then (if p8 L b.src then (if b.cnt=(L b.src.toNat).cnt+1/\(L b.src.toNat).cnt≠1152921504606846976 then (if 0<=b.eD/\0<=b.aC/\b.aC<=1048576 then
  (if b.ops.length≠0/\b.ops.length<=8 then (if (L b.src.toNat).ji<b.eD then 8 else 0)else 7)else 2)else 9)else 6)else 2
noncomputable def bn (L:Lg) (f:Int) (b:Bt):Lg×Int×Rc :=
 if mf L f b=0 then (if (doneF ⟨jo L b,f+b.eD,b.src,b.aC,0,0,0,[]⟩ b.ops).2=0
  then ((doneF ⟨jo L b,f+b.eD,b.src,b.aC,0,0,0,[]⟩ b.ops).1.L,(doneF ⟨jo L b,f+b.eD,b.src,b.aC,0,0,0,[]⟩ b.ops).1.fe,⟨0,(doneF ⟨jo L b,f+b.eD,b.src,b.aC,0,0,0,[]⟩ b.ops).1.done,(doneF ⟨jo L b,f+b.eD,b.src,b.aC,0,0,0,[]⟩ b.ops).1.paid,(doneF ⟨jo L b,f+b.eD,b.src,b.aC,0,0,0,[]⟩ b.ops).1.Ze,(doneF ⟨jo L b,f+b.eD,b.src,b.aC,0,0,0,[]⟩ b.ops).1.made⟩)
  else (jo L b,f+b.eD,⟨(doneF ⟨jo L b,f+b.eD,b.src,b.aC,0,0,0,[]⟩ b.ops).2,0,(doneF ⟨jo L b,f+b.eD,b.src,b.aC,0,0,0,[]⟩ b.ops).1.paid,0,[]⟩))else (L,f,⟨mf L f b,0,0,0,[]⟩)
def kM{L:Lg}{f:Int}{b:Bt}(h:mf L f b=0):yl L f/\p8 L b.src/\(b.cnt=(L b.src.toNat).cnt+1/\(L b.src.toNat).cnt≠1152921504606846976)/\(0<=b.eD/\0<=b.aC/\b.aC<=1048576)/\(b.ops.length≠0/\b.ops.length<=8)/\b.eD<=(L b.src.toNat).ji:=by
 unfold mf at h;split at h
 .split at h
  .split at h
   .split at h
    .split at h
     .split at h
      .cases h
      .exact⟨OK,OK,OK,OK,OK,od⟩
     .cases h
    .cases h
   .cases h
  .cases h
 .cases h
structure Ch (o:lI):Prop where
 p:okN o.p
 s:okN o.s
 c:okN o.code
 a:okN o.arg
 zc:o.code.size<=3000000
 za:o.arg.size<=4611686018427387903
open Pe Go.ChangeShapes Go.WideShapes Go.ChangeAt Go.RowKit
attribute [local go_sem] Y8
def copC_any:∀(N:Nat) {W:cg}{l:aE}{a:bj}{c:Nat}{V:bt},sizes l<N->N<=20000000->cK (λ_=>True) W l a V->Calls prog 116 #[.slice a l.length c] W (Sv W l):=λN=>by
 induction N with
 | zero=>intro W l a c V hN;exact absurd hN (Nat.not_lt_zero _)
 | succ N ih =>
  intro W l a c V hN bn h;have bc:l.length<=sizes l:=cB l;have HC:=jh (Jl (c:=c) h od);have ah:Hid (∀{W:cg} {l:aE} {a:bj} {c:Nat} {V:bt},sizes l<N->cK (λ_=>True) W l a V->Calls prog 116 #[.slice a l.length c] W (Sv W l)):=λh1 M=>ih h1 od M;have HN:=jh hN;have bx:(l.length:Int)<=20000000:=od
  have ak:Hid (l.length<=maxLen):=h.1;clear h ih hN bc;go_enter func116,ntmps116;go_wp2_with ((go_at_call 133;(with_reducible refine HC.out.mono ?_);rintro e w1 ⟨v,H,rfl,hK,hg⟩;obtain⟨a2,c2,rfl⟩:=hK.slice;have X:=jh hK;have HG:=jh hg;clear hg hK));have d:=X.out.own;have S:=X.out.len;rcases d.2 with⟨L,h0⟩|⟨g,bk,bm,L,q,hq,hc⟩
  .simp only[ye]at L;obtain⟨rfl,A,rfl⟩:=L;clear A;have m:H=[]:=jx h0;subst m;have bb:l=[]:=jx (by simpa using S.symm);subst bb;clear d S h0;simp only[qa0];refine wp_loop_rounds 1 ?_;rw[rounds_succ];go_wp2;go_ret;exact⟨none,0,λ_=>.i 0,rfl,jn _,cK.nil _ _ _ _,HG⟩
  .simp only[ye]at L;obtain⟨rfl,A,rfl⟩:=L;clear A;have HB:=jh q;have ad:Hid (Wu W w1 g c2 l 0 H):=⟨d,S,λi x u _ _ h=>od,λi x u w m _=>X.lies i x u w m,HG⟩;have HL:=jh S;clear d hq hc q S X;go_loopw [8] (λiv wr=>∃(j:Nat) (H:bo),j<=l.length/\iv =.i j/\Wu W wr g c2 l j H) (λiv _=>l.length - (intOf iv).toNat)
   case atStart=>exact⟨0,H,yb _,rfl,ad⟩
   case round =>
    obtain⟨j,p,hj,rfl,k⟩:=hrel
    by_cases f:j<l.length
    .have D:j<p.length:=by rw[k.len];exact f
     have B:=k.rest j l[j] p[j] (qt f) (qt D) (jn _);have n:=yv f;have F:=qt f;generalize l[j]=x at B n F;have⟨xk,xn,xp,xs,az⟩:=x;have⟨Y,K,Vj,ev,it,C⟩:=B.yX;simp only[Tr.k0,Tr.n0,Tr.p0,Tr.s0,Tr.args0]at ev it C;have E:p[j]?=some (af xk xn xp xs Y az.length K):=by rw[qt D,ev]
     have M:∀u∈p,(nodeCells u).length=5:=λu m=>by
      obtain⟨i,Q,rfl⟩:=qc3 m;have R:i<l.length:=by rw[<-k.len];exact Q
      by_cases aO:i<j
      .have⟨_,_,_,e,_⟩:=(k.done i l[i] p[i] (qt R) (qt Q) aO).yX;rw[e];rfl
      .have⟨_,_,_,e,_⟩:=(k.rest i l[i] p[i] (qt R) (qt Q) od).yX;rw[e];rfl
     have d:lh W.heap.size wr (.o g p.length c2) p:=by rw[k.len];exact k.own
     have bq:g<wr.heap.size:=(qb5 d g rfl).2;have cc:wr.cell? ⟨g,j*5+4,none⟩=some (.slice Y az.length K):=by have:=qd4 d (g:=g) rfl (j*5+4) (.slice Y az.length K) (by rw[flat_get p M j 4 _ E od];rfl);rw[gI,qb4]at this;exact this
     have aq:Hid (sizes az<N):=by have h1:=Ei n;have Z:=HN.out;exact (by simp only[Tr.size]at h1;omega:sizes az<N)
     have I:=jh (ah (c:=K) aq ((C.ae (λ_ _ _=>trivial)).same (sAl k.gr)));have d1:(j:Int)<(l.length:Int):=od
     have d2:(j:Int)<(H.length:Int):=by rw[HL.out];exact d1
     have⟨HI,J,ar,H2,ax,r⟩:=wg k d E M F it;have aa:Hid (W.heap.size<=g):=HB.out;clear k d E M F it C n B;go_wp2_with ((go_at_call 116;(with_reducible refine I.out.mono ?_);rintro e U ⟨z,G,V3,rfl,P,O,s⟩;have bl:=kNq s cc;have fz:=jc0 (qd3 J.out s (.inr Of)) (j*5+4);have an:=jh O;have ab:=jh P;have y:=jh s;clear O s P I));go_roundw
     case rel =>
      have t:cq U (U.setCell ⟨g,j*5+4,none⟩ (.slice z az.length G)) (some g):=eF (bf _ _) _ _ _;have T:Same (λb=>b≠g) U (U.setCell ⟨g,j*5+4,none⟩ (.slice z az.length G)):=λb o q f=>kd (t.block b f (by simpa using q));have k:=HI.out;have aC:=aa.out;have bh:=qd3 J y (.inr Of);refine⟨j+1,p.set j (af xk xn xp xs z az.length G),od,by go_num,⟨?_,by simp[k.len],λi x u w m Q=>?_,λi x u w m Q=>?_,aG (aJ k.gr y) t aC⟩⟩
      .unfold lh;have:=(bh.stored (j*5+4) (.slice z az.length G)).1;rw[je0,Dv xk xn xp xs Y az.length K z az.length G p H2.out j ar.out,<-k.len];exact this
      .by_cases e:i=j
       .subst e;rw[ax.out]at w;simp only[qq]at w;subst w;rw[ja6 D]at m;simp only[qq]at m;subst m;have Z:cK (λb=>W.heap.size<=b/\b≠g) (U.setCell ⟨g,i*5+4,none⟩ (.slice z az.length G)) az z V3:=(an.out.ae (λb _ q=>⟨xo k.gr.size q,od⟩)).same (λb o q f=>T b o q.2 f);exact bI.mk (hk:=ab.out) V3 Z.1 r.2.2.2 r.1 r.2.1 r.2.2.1 Z.2.1 Z.2.2
       .rw[qf2 od]at m;exact ((k.done i x u w m od).same (λb o _ f=>sAl y b o trivial f)).same (λb o q f=>T b o q.2 f)
      .rw[qf2 od]at m;exact k.rest i x u w m od
     case measure=>simp[intOf];omega
    .have ba:j=l.length:=by omega
     subst ba;have d1:¬(l.length:Int)<(l.length:Int):=od
     have HE:=jh (Gn k ak);clear k;go_wp2;go_ret;have h:=HE.out
     first|exact h|(rw[<-HL.out]at h;exact h)
def Vd{l:aE}(hk:okNs l)(r:sizes l<=3000000):Hd ⟨116,[CW l],.of (CW l)⟩:=⟨tF func116,λok w m h=>by
 match m,h with
 | [v],⟨g,_⟩ =>
  obtain⟨a,c,V,rfl,q,i⟩:=xU hk (.inl rfl) g;refine (copC_any 20000000 od (jn _) (i.ae λ_ _ _=>trivial)).mono ?_;rintro e s ⟨o,p,n,rfl,f,d,k⟩;exact⟨k,_,rfl,uI (d.ae λb _ j=>.inr j) f⟩⟩
def acZ:A1:=.agg ((Qt false).map .d)
def contrA:Except Int Ac->AV
 | .ok A=>.rz [UI A,iA 0]
 | .error e=>.rz [acZ,iA e]
def Z4{o:lI}(O:okN o.p)(Q:okN o.s)(hc:okN o.code)(U:okN o.arg)(zc:o.code.size<=3000000)(za:o.arg.size<=4611686018427387903):Hd ⟨102,[.one (.d (.e (wO o)))],contrA (ku o)⟩:=by
 have b:=Vi O;have c:=Vi Q;have oP:=okT_read _ O;have n:=okT_read _ Q;have f:=JB oP n hc od;have g:=aed n U za;unfold ku;have⟨k,d,a,⟨F,G,H,h,E⟩,⟨t,u,v,w,pa⟩,⟨A,B,C,D,y⟩,⟨K,L,M,cs,i⟩⟩:=o;simp only at b c f g oP n hc zc|-;have T:=Vd (l:=i) hc.2 (by simp only[Tr.size]at zc;omega);simp only[Tr.args0]
 cases I:fu (.nd t u v w pa)with
 | false =>
  rw[I]at b;simp only[qc6,if_false]at b|-;exact aF func102 [⟨_,b⟩]
 | true =>
  rw[I]at b;simp only[if_true]at b|-;generalize kreadT (.nd t u v w pa)=P at b f oP|-;have⟨pt,R⟩:=P
  cases J:fu (.nd A B C D y)with
  | false =>
   rw[J]at c;simp only[qc6,if_false]at c|-;exact aF func102 [⟨_,b⟩,⟨_,c⟩]
  | true =>
   rw[J]at c;simp only[if_true]at c|-;generalize kreadT (.nd A B C D y)=S at c f g n|-;have⟨st,sz⟩:=S;generalize DR (.nd pt R) (.nd st sz) (.nd K L M cs i)=e at f|-
   by_cases q:e=0
   .subst q;rw[if_pos rfl]
    cases m:jf (.nd st sz) (.nd F G H h E)with
    | none =>
     rw[m]at g;exact aF func102 [⟨_,b⟩,⟨_,c⟩,⟨_,f⟩,⟨_,g⟩]
    | some x =>
     rw[m]at g;have j:=Nu (x:=x) (by have:=(vC m).2;omega);clear m;have r:∀z:Int,Hd ⟨96,[pF x],.of (iA z)⟩->Hd ⟨102,[.one (.d (.e (wO ⟨k,d,a,.nd F G H h E,.nd t u v w pa,.nd A B C D y,.nd K L M cs i⟩)))],contrA (if decide (200<z)then .error 5 else .ok (acN (.nd pt R) (.nd st sz) i x))⟩:=by
      intro z j;have⟨X,Y,V,Z,xz,xt,W⟩:=x
      cases N:decide (200<z)with
      | true=>simp only[if_true];exact runT func102 [(58,bA true)] [⟨_,b⟩,⟨_,c⟩,⟨_,f⟩,⟨_,g⟩,⟨_,j⟩] (al (eT N) al0)
      | false=>simp only[qc6,if_false];exact runT func102 [(58,bA false)] [⟨_,b⟩,⟨_,c⟩,⟨_,f⟩,⟨_,g⟩,⟨_,j⟩,⟨_,T⟩] (al (eT N) al0)
     exact r _ j
   .rw[if_neg q];exact runT func102 [(41,bA true)] [⟨_,b⟩,⟨_,c⟩,⟨_,f⟩] (al (show jJ (!decide (e=0)) true from eT (by rw[xb q];rfl)) al0)
set_option maxHeartbeats 40000000
def adu{ok:br}{w:cg}{n:Nat}{es l:List bd}{v:cm}(h:rowsLe es l)(k:fI ok w (.s n es) v):fI ok w (.s n l) v:=by
 have⟨d,f⟩:=L2.get h
 cases k with
 | s U m o t q k u =>
  rw[d]at m o|-;refine .s U m o (λi r c=>?_) (λi r j x c g=>?_) (λi r j x c g=>?_) u
  .have⟨x,a,b⟩:=f i r c;rw[<-(L2.get b).1];exact t i x a
  .have⟨y,a,b⟩:=f i r c;have⟨z,e,_⟩:=(L2.get b).2 j x g;exact q i y j z a e
  .have⟨y,a,b⟩:=f i r c;have⟨z,e,p⟩:=(L2.get b).2 j x g;exact Bv p (k i y j z a e)
def adt (A:Ac):List bd:=[[.v (.i 11),.s 2 [tyD A.par,tyD A.oh]]]
def abI (x:Va) (A:Ac):List bd:=[[.v (.i 11),.v (.i 0),.v (.i 0),.v (.string ⟨#[]⟩),.s 7 [vaD x,vaD A.val],.s 0 [],.s 0 []]]
def ads (A:Ac):A1:=.agg [.d (.v (.i 3)),.d (.v (.i 0)),.d (.v (.i 0)),.d (.v (.string ⟨#[]⟩)),.d (.s 5 (ndsD A.co))]
abbrev aaj (A:Ac) (en:En) (x:Va) (aC:Int) (r:Rs):Prop:=Hd ⟨112,[Xc en,ads A,.one (.d (.s 2 (adt A))),.one (.d (.s 7 (abI x A))),iA aC],.of (YW r)⟩
def aaX(x:Va)(A:Ac):rowsLe (abI x A) (vasD [aY x A.val]):=⟨⟨.inl rfl,.inl rfl,.inl rfl,.inl rfl,.inl rfl,.inr ⟨rfl,2,ov,rfl⟩,.inr ⟨rfl,5,ov,rfl⟩,trivial⟩,trivial⟩
def aac{A:Ac}{en:En}{x:Va}{aC:Int}(h:Hd ⟨112,[Xc en,ndA (lD A),dZ [.nd 11 [A.par,A.oh]],qi [aY x A.val],iA aC],.of (YW (Fy en (lD A) [.nd 11 [A.par,A.oh]] [aY x A.val] aC))⟩):aaj A en x aC (Fy en (lD A) [.nd 11 [A.par,A.oh]] [aY x A.val] aC) :=
 h.conv (λok w l h=>by
  match l,h with
  | [a,b,c,d,e],⟨f,g,i,j,k,_⟩=>exact⟨f,g,i,adu (aaX x A) j,k,trivial⟩) (λ_ _ _ h=>h)
section
variable {L:Lg}{f s g d p m:Int}{md:Md}{en:En}{x:Va}{i:Nat}{r:Rs}
abbrev ClH (i:Nat) (en:En) (x:Va) (l:List Rq) (e:Int) (H H':Hp):Prop:=HX 101 [wP 0,wP (15*i),Xc en,pF x] (.rz [KN l,iA e]) H H'
def aaq(c:aaj (L i) en x (g - p) r)(hi:i<12)(h:mD (lW (IntKind.i64.wrap (g - p))) (iA (g - p)))(k:mD (lW (IntKind.i64.wrap (p+r.aC))) (iA (p+r.aC)))(b:r.code≠0):ClH i en x [] r.code (dW 2900070 L f s g d p m md) (dW 2900170 L f s g d (p+r.aC) m md):=by
 have e:jJ (!decide (r.code=0)) true:=eT (by simp[b]);clear b;have⟨B,C,z,D,F,E,A⟩:=x;have⟨l,q,o,a,y⟩:=r;have⟨t,u,v,w⟩:=en;rcases bM hi with rfl|rfl|rfl|rfl|rfl|rfl|rfl|rfl|rfl|rfl|rfl|rfl
 all_goals cases md with
  | no=>exact HX.post (res:=.rz [nilA,iA l]) (H':=dW 2900070 L f s g d (p+a) m .no) (bH func101 [(54,iA (g - p)),(63,iA (p+a)),(69,bA true)] [] [⟨_,c⟩] oe (al h (al k (al e al0)))) 2900070 2900170
  | ls j n=>exact HX.post (res:=.rz [nilA,iA l]) (H':=dW 2900070 L f s g d (p+a) m (.ls j n)) (bH func101 [(54,iA (g - p)),(63,iA (p+a)),(69,bA true)] [] [⟨_,c⟩] oe (al h (al k (al e al0)))) 2900070 2900170
def aar{a e:Int}(k:aaj (L i) en x (g - p) r)(hi:i<12)(n:mD (lW (IntKind.i64.wrap (g - p))) (iA (g - p)))(o:mD (lW (IntKind.i64.wrap (p+r.aC))) (iA (p+r.aC)))(q:r.code=0)(h:Hd ⟨113,[iA m,iA r.aO],.rz [iA a,iA e]⟩)(c:e≠0) :
 ClH i en x [] e (dW 2900070 L f s g d p m md) (dW 2900170 L f s g d (p+r.aC) m md):=by
 have l:jJ (!decide (e=0)) true:=eT (by simp[c]);clear c;have⟨E,F,C,G,I,H,D⟩:=x;have⟨u,w,v,b,B⟩:=r;obtain rfl:u=0:=q;have⟨c,y,z,A⟩:=en;rcases bM hi with rfl|rfl|rfl|rfl|rfl|rfl|rfl|rfl|rfl|rfl|rfl|rfl
 all_goals cases md with
  | no=>exact HX.post (res:=.rz [nilA,iA e]) (H':=dW 2900070 L f s g d (p+b) m .no) (bH func101 [(54,iA (g - p)),(63,iA (p+b)),(84,bA true)] [] [⟨_,k⟩,⟨_,h⟩] oe (al n (al o (al l al0)))) 2900070 2900170
  | ls j t=>exact HX.post (res:=.rz [nilA,iA e]) (H':=dW 2900070 L f s g d (p+b) m (.ls j t)) (bH func101 [(54,iA (g - p)),(63,iA (p+b)),(84,bA true)] [] [⟨_,k⟩,⟨_,h⟩] oe (al n (al o (al l al0)))) 2900070 2900170
def aas{o:Nat}{L2:Lg}{p2 a e:Int}{l:List Rq}(h:HX 101 [wP 0,wP o,Xc en,pF x] (.rz [KN l,iA e]) (dW 2900070 L f s g d p m md) (dW 2900070 L2 f s g d p2 a md)):HX 101 [wP 0,wP o,Xc en,pF x] (.rz [KN l,iA e]) (dW 2900070 L f s g d p m md) (dW 2900170 L2 f s g d p2 a md):=by
 cases md<;>exact h.post 2900070 2900170
def acV{a:Int}{k n q:Int}{z:bp}{b e:Va}{ty:aw}{cd:aE}{l:List Rq}(t:aaj (L i) en x (g - p) r)(hi:i<12)(u:mD (lW (IntKind.i64.wrap (g - p))) (iA (g - p)))(v:mD (lW (IntKind.i64.wrap (p+r.aC))) (iA (p+r.aC)))(h:r.code=0)(o:Hd ⟨113,[iA m,iA r.aO],.rz [iA a,iA 0]⟩)
 (hst:r.stack=[.mk k n q z [b,e] ty cd]) (hen:en.self=(i:Int)) (hQ:Hd ⟨114,[iA en.self,qi b.args],.of (KN l)⟩) :
 ClH i en x l 0 (dW 2900070 L f s g d p m md) (dW 2900170 (NY L i e) f s g d (p+r.aC) a md):=by
 have⟨O,P,M,Q,S,R,N⟩:=x;have⟨w,c,A,y,H⟩:=r;obtain rfl:w=0:=h;obtain rfl:c=_:=hst;have⟨j,B,C,D⟩:=en;obtain rfl:j=(i:Int):=hen;have⟨E,F,la,ls,G,lt,lc⟩:=b;have⟨I,J,sa,K,sz,st,sc⟩:=e;simp only[Va.args]at hQ;rcases bM hi with rfl|rfl|rfl|rfl|rfl|rfl|rfl|rfl|rfl|rfl|rfl|rfl
 all_goals (cases md<;>exact aas (bH func101 [(54,iA (g - p)),(63,iA (p+y))] [] [⟨_,t⟩,⟨_,o⟩,⟨_,hQ⟩] oe (al u (al v al0))))
end
section
variable {L L2 L3:Lg}{f s g d p m p3 m3:Int}{md:Md}{r:Rq}{T:Ty}{x:Va}{i:Nat}{e:Int}{l:List Rq}
abbrev UH (r:Rq) (l:List Rq) (e:Int) (H H':Hp):Prop:=HX 82 [wP 0,Y1 r] (.rz [KN l,iA e]) H H'
abbrev MvH (L:Lg) (f fr dn n:Int) (L2:Lg) (e:Int):Prop:=Hd ⟨98,[lC L f,iA fr,iA dn,iA n],.rz [lC L2 f,iA e]⟩
abbrev TgH (r:Rq) (dst lG:Int):Prop:=Hd ⟨97,[Y1 r],.rz [iA dst,iA lG]⟩
abbrev ArH (r:Rq) (T:Ty) (v:AV):Prop:=Hd ⟨99,[Y1 r,tyA T],v⟩
abbrev WaH (L:Lg) (f s g d p m:Int) (md:Md) (i:Nat) (T:Ty):Prop:=HX 100 [wP (15*i)] (.of (tyA T)) (dW 2900070 L f s g d p m md) (dW 2900170 L f s g d p m md)
def aa4{dst lG:Int}(b:TgH r dst lG)(hm:MvH L f r.fr dst lG L2 e)(a:e≠0):UH r [] e (dW 2900070 L f s g d p m md) (dW 2900170 L f s g d p m md):=by
 have c:jJ (!decide (e=0)) true:=eT (by simp[a]);clear a
 cases r<;>cases md with
  | no=>exact HX.post (res:=.rz [nilA,iA e]) (H':=dW 2900070 L f s g d p m .no) (bH func82 [(31,bA true)] [] [⟨_,b⟩,⟨_,hm⟩] oe (al c al0)) 2900070 2900170
  | ls j h=>exact HX.post (res:=.rz [nilA,iA e]) (H':=dW 2900070 L f s g d p m (.ls j h)) (bH func82 [(31,bA true)] [] [⟨_,b⟩,⟨_,hm⟩] oe (al c al0)) 2900070 2900170
variable {fr:Int}{o:lI}{v:Va}
def abj{en:En}(h:ClH i en x l e (dW 2900070 L2 f s g d p m md) (dW 2900170 L3 f s g d p3 m3 md)):ClH i en x l e (dW 2900170 L2 f s g d p m md) (dW 2900172 L3 f s g d p3 m3 md):=by
 cases md<;>exact (h.to 2900070 2900170).post 2900070 2900172
def Ri(h:UH r l e (dW 2900070 L f s g d p m md) (dW 2900172 L3 f s g d p3 m3 md)):UH r l e (dW 2900070 L f s g d p m md) (dW 2900170 L3 f s g d p3 m3 md):=by
 cases md<;>exact h.post 2900172 2900170
end
section
variable {L L2 L3:Lg}{f s g d p m p3 m3:Int}{md:Md}{r:Rq}{T:Ty}{x:Va}{i:Nat}{e:Int}{l:List Rq}{fr:Int}{o:lI}{v:Va}
def Zq{lG:Int}(hi:i<12)(a:TgH (.op fr o) (Int.ofNat i) lG)(hm:MvH L f (Rq.fr (.op fr o)) (Int.ofNat i) lG L2 0)(c:WaH L2 f s g d p m md i T)(b:ArH (.op fr o) T (argA none)):UH (.op fr o) [] 5 (dW 2900070 L f s g d p m md) (dW 2900170 L2 f s g d p m md):=by
 have⟨t,e⟩:=T;rcases bM hi with rfl|rfl|rfl|rfl|rfl|rfl|rfl|rfl|rfl|rfl|rfl|rfl
 all_goals (cases md<;>exact bH func82 [] [] [⟨_,a⟩,⟨_,hm⟩,⟨_,c⟩,⟨_,b⟩] oe al0)
def Uy{lG:Int}(hi:i<12)(a:TgH (.op fr o) (Int.ofNat i) lG)(hm:MvH L f (Rq.fr (.op fr o)) (Int.ofNat i) lG L2 0)(c:WaH L2 f s g d p m md i T)(b:ArH (.op fr o) T (argA (some x)))(e:jJ (decide ((L2 i).is=1)) true):UH (.op fr o) [] 0 (dW 2900070 L f s g d p m md) (dW 2900170 L2 f s g d p m md):=by
 have⟨t,h⟩:=T;have⟨l,n,j,q,u,r,k⟩:=x;rcases bM hi with rfl|rfl|rfl|rfl|rfl|rfl|rfl|rfl|rfl|rfl|rfl|rfl
 all_goals (cases md<;>exact bH func82 [(57,bA true)] [] [⟨_,a⟩,⟨_,hm⟩,⟨_,c⟩,⟨_,b⟩] oe (al e al0))
end
section
variable {L L2 L3:Lg}{f s g d p m p3 m3:Int}{md:Md}{r:Rq}{T:Ty}{x:Va}{i:Nat}{e:Int}{l:List Rq}{fr:Int}{o:lI}{v:Va}
def Zr{lG:Int}(hi:i<12)(a:TgH (.told fr v) (Int.ofNat i) lG)(hm:MvH L f (Rq.fr (.told fr v)) (Int.ofNat i) lG L2 0)(c:WaH L2 f s g d p m md i T)(b:ArH (.told fr v) T (argA none)):UH (.told fr v) [] 5 (dW 2900070 L f s g d p m md) (dW 2900170 L2 f s g d p m md):=by
 have⟨t,e⟩:=T;rcases bM hi with rfl|rfl|rfl|rfl|rfl|rfl|rfl|rfl|rfl|rfl|rfl|rfl
 all_goals (cases md<;>exact bH func82 [] [] [⟨_,a⟩,⟨_,hm⟩,⟨_,c⟩,⟨_,b⟩] oe al0)
def UB{lG:Int}(hi:i<12)(a:TgH (.told fr v) (Int.ofNat i) lG)(hm:MvH L f (Rq.fr (.told fr v)) (Int.ofNat i) lG L2 0)(c:WaH L2 f s g d p m md i T)(b:ArH (.told fr v) T (argA (some x)))(e:jJ (decide ((L2 i).is=1)) true):UH (.told fr v) [] 0 (dW 2900070 L f s g d p m md) (dW 2900170 L2 f s g d p m md):=by
 have⟨t,h⟩:=T;have⟨l,n,j,o,r,q,k⟩:=x;rcases bM hi with rfl|rfl|rfl|rfl|rfl|rfl|rfl|rfl|rfl|rfl|rfl|rfl
 all_goals (cases md<;>exact bH func82 [(57,bA true)] [] [⟨_,a⟩,⟨_,hm⟩,⟨_,c⟩,⟨_,b⟩] oe (al e al0))
end
