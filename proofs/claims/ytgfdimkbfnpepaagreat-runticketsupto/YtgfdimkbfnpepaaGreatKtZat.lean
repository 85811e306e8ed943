import Derived.Test.YtgfdimkbfnpepaaGreatKtZas
namespace Go.Proofs.YtgfdimkbfnpepaaGreat
set_option linter.all false
open Go.Proofs.Tryz
set_option maxRecDepth 100000
set_option maxHeartbeats 4000000
open Pe
section
variable {c:Mc}{m:Ma}{ps:Nat->Ma->Prop}
def HO.node{f:FuncId}{t:Tr}{o:Go.Proofs.YtgfdimkbfnpepaaGreat.Out}(q:okN t)(j:∀(args:Array cg) (w:bx),(callFunc f args).run prog w =.ok (.enter f args) w)
 (h:∀O w k n s a l d,dm c.B O w c.mb c.en c.aC m->bI (λb=>¬O b) w t (af k n t.p0 s a l d)->Calls prog f #[.po (c.mb),af k n t.p0 s a l d] w (jK c.B O w c.mb c.en c.aC o)):HO c m f [ndA t] o :=
 HO.of j λO w r i g=>by
  match r,g with
  | [v],⟨g,_⟩ =>
   have e:=oK q g;obtain⟨k,n,p,s,a,l,d,rfl⟩:=e.af;obtain⟨_,_,rfl,_⟩:=vo e;exact h O w k n s a l d i e
def Gf{α:Type}{l:List α}{i:Nat}{v:α}(h:l[i]?=some v):l=l.take i++v::l.drop (i+1)/\(l.take i).length=i:=by obtain⟨a,rfl⟩:=qv.1 h;exact⟨by rw[List.getElem_cons_drop,qc4],oB⟩
def Ta{t:Tr}(e:t.p0=40\/t.p0=41\/t.p0=42\/t.p0=43\/t.p0=44)(J:okN t)(I:(t.p0=41\/t.p0=43\/t.p0=44)->0<t.args0.length)(P:Fn m)(b:p9 t m ≠ .stuck):HO c m 119 [ndA t] (p9 t m):=by
 obtain⟨m,s,rfl⟩:∃M s,m=sm M s:=⟨m,m.st,rfl⟩;have⟨N,u,U⟩:=P;have H:=bK func119;rcases e with e|e|e|e|e
 .have⟨K,S,L,T,R⟩:=t;obtain rfl:L=40:=e;rcases s with _|⟨a,s⟩
  .exact absurd rfl b
  simp only[p9,Tr.p0,↓reduceIte]at b|-;exact Ol [sm m s] [] func119 [tk m a s 0] (ob:=[]) ot (λx Q=>Q)
 .unfold p9 at b|-;simp only[e,Int.reduceEq,↓reduceIte]at b|-
  by_cases g:1<=(dK t 0).n0
  .simp only[g,↓reduceIte]at b|-
   cases h:s[(dK t 0).n0.toNat - 1]? with
   | none=>rw[h]at b;exact absurd rfl b
   | some v =>
    simp only[h]at b|-;have⟨F,G⟩:=Gf h;refine HO.node J H λO w k n z a l d j f=>?_;rw[e]at f|-;exact QJ f (I (.inl e)) (by rw[G];omega) j F b u
  .simp only[g,↓reduceIte]at b;exact absurd rfl b
 .have⟨K,S,L,T,R⟩:=t;obtain rfl:L=42:=e;rcases s with _|⟨⟨k,n,i,z,r,y,d⟩,_|⟨⟨B,n1,A,E,C,D,o⟩,s⟩⟩
  .exact absurd rfl b
  .exact absurd rfl b
  simp only[p9,Tr.p0,Int.reduceEq,↓reduceIte]at b|-;exact eH [sm m (.mk B n1 A E C D o::s),sm m s] func119 [tk m (.mk k n i z r y d) (.mk B n1 A E C D o::s) 0,tk m (.mk B n1 A E C D o) s 1,pt m s [.mk B n1 A E C D o,.mk k n i z r y d] 2 ⟨N.2.1,N.1,trivial⟩ b (OU u)]
 .unfold p9 at b|-;simp only[e,Int.reduceEq,↓reduceIte]at b|-
  by_cases g:0<=(dK t 0).n0
  .simp only[g,↓reduceIte]at b|-
   cases h:s[(dK t 0).n0.toNat]? with
   | none=>rw[h]at b;exact absurd rfl b
   | some v =>
    simp only[h]at b|-;have⟨F,G⟩:=Gf h;refine HO.node J H λO w k n z a l d j f=>?_;rw[e]at f|-;have:=QK f (I (.inr (.inl e))) (by rw[G];omega) j F u;rw[<-jg2]at this;exact this
  .simp only[g,↓reduceIte]at b;exact absurd rfl b
 .unfold p9 at b|-;simp only[e,Int.reduceEq,↓reduceIte]at b|-;rcases s with _|⟨v,s⟩
  .exact absurd rfl b
  simp only at b|-
  by_cases g:0<=(dK t 0).n0/\(dK t 0).n0<=s.length
  .simp only[g,and_self,↓reduceIte]at b|-;refine HO.node J H λO w k n z a l d j f=>?_;rw[e]at f|-;exact QL (m:=sm m (v::s)) (v:=v) (p:=s.take (dK t 0).n0.toNat) (q:=s.drop (dK t 0).n0.toNat) f (I (.inr (.inr e))) vc j (by rw[qc4]) u
  .simp only[g,↓reduceIte]at b;exact absurd rfl b
def Tf{t:Tr}(f:t.p0=88\/t.p0=89\/t.p0=90\/t.p0=91\/t.p0=92)(A:okN t)(Y:t.p0=88->∃a,t.args0=[a]/\fu a)(C:bD c.en.self/\bD c.en.sender/\bD c.en.amount/\bD c.en.balance)(x:Fn m)(b:iw c.en t m ≠ .stuck):HO c m 128 [ndA t] (iw c.en t m):=by
 rcases f with f|f|f|f|f
 rotate_left
 .exact HO.node A (bK func128) λO w k n z a l d h J=>by rw[f];exact RD f C.1 h rfl b x.st
 .exact HO.node A (bK func128) λO w k n z a l d h J=>by rw[f];exact RF f C.2.1 h rfl b x.st
 .exact HO.node A (bK func128) λO w k n z a l d h J=>by rw[f];exact RG f C.2.2.1 h rfl b x.st
 .exact HO.node A (bK func128) λO w k n z a l d h J=>by rw[f];exact RH f C.2.2.2 h rfl b x.st
 obtain⟨m,s,rfl⟩:∃M s,m=sm M s:=⟨m,m.st,rfl⟩;have⟨I,W,h3⟩:=x;have⟨L,Z,tp,tz,ta⟩:=t;obtain rfl:tp=88:=f;obtain⟨⟨P,Q,R,S,N⟩,rfl,K⟩:=Y rfl;have T:=tK A.2.1 K;have U:=uE K;rcases s with _|⟨⟨k,n,i,z,r,y,d⟩,_|⟨⟨E,n1,D,H,F,G,B⟩,_|⟨⟨p,g,o,v,q,u,j⟩,s⟩⟩⟩
 .exact absurd rfl b
 .exact absurd rfl b
 .exact absurd rfl b
 have e:iw c.en (.nd L Z 88 tz [.nd P Q R S N]) (sm m (.mk k n i z r y d :: .mk E n1 D H F G B :: .mk p g o v q u j::s))=bz (sm m s) [.mk 8 n1 g ⟨#[]⟩ [.mk k n i z r y d] [kreadT (.nd P Q R S N)] []]:=by simp only[iw,Tr.p0,Int.reduceEq,↓reduceIte];rfl
 rw[e]at b|-;clear e K;generalize kreadT (.nd P Q R S N)=X at T b U|-;have⟨X,V⟩:=X;exact eH [sm m (.mk E n1 D H F G B :: .mk p g o v q u j::s),sm m (.mk p g o v q u j::s),sm m s] func128 [tk m (.mk k n i z r y d) (.mk E n1 D H F G B :: .mk p g o v q u j::s) 0,tk m (.mk E n1 D H F G B) (.mk p g o v q u j::s) 1,tk m (.mk p g o v q u j) s 2,up T,YV m s 8 n1 g ⟨#[]⟩ 7 2 0 [.mk k n i z r y d] [.nd X V] [] 3 ⟨⟨i64,I.2.1.1.2.1,I.2.2.1.1.2.1,ov⟩,⟨I.1,trivial⟩,⟨U,trivial⟩,trivial⟩ (.inl rfl) (.inl rfl) (.inr rfl) b (Zu W)]
def VH (x:Va):Prop:=(∀s,oz x=some s->Hd ⟨174,[pF x],.rz [.one (.d (.v (.string s))),iA 0]⟩)/\(oz x=none->∃e,e≠0/\Hd ⟨174,[pF x],.rz [.one (.d (.v (.string ⟨#[]⟩))),iA e]⟩)
def SG (T:Ty) (s:bo):Prop:=Hd ⟨175,[tyA T,.one (.d (.v (.string s)))],match jw T s.toList with|some x=>.rz [pF x,iA 0]|none=>.rz [pF zeroVa,iA 1]⟩
def IB{s:bo}(h:s.size<=1000):okV (di s):=⟨⟨i64,i64,i64,On⟩,trivial,trivial,trivial⟩
def Ji{x:Va}{s:bo}(h:oz x=some s):s.size<=200:=by
 unfold oz at h;split at h
 .simp only[qk]at h;subst h;show (5::encTr (dR x)).toArray.size<=200;simp;omega
 .cases h
def Vs{s:an}{p q:Int}{t:bo}{ta:aE}{k n i:Int}{z:bo}{r:an}{y:ao}{d:aE}{f g e:Int}{a:bo}{j:an}{l:ao}{b:aE}{o:Go.Proofs.YtgfdimkbfnpepaaGreat.Out}(w:z.size<=1000)(x:a.size<=1000)(h:¬200<z.size+a.size)
 (hp:HO c (sm m s) 154 [.one (.d (.s 7 (vasD [di (z++a)])))] o):HO c (sm m (.mk k n i z r y d :: .mk f g e a j l b::s)) 126 [ndA (.nd p q 80 t ta)] o:=by
 have u:(z++a).size=z.size+a.size:=ByteArray.size_append;exact sI [sm m (.mk f g e a j l b::s),sm m s] [(44,.one (.d (.v (.string (z++a))))),(47,bA false)] func126 [tk m (.mk k n i z r y d) (.mk f g e a j l b::s) 0,tk m (.mk f g e a j l b) s 1,up (Pq (z++a)),pu hp 2]
  (ob:=[(if z.size+a.size<=9223372036854775807 then some (AV.of (.one (.d (.v (.string (z++a))))))else none)=some (AV.of (.one (.d (.v (.string (z++a)))))),tl (decide ((200:Int)<((z++a).size:Nat))) false])
  (by simp only[zr,qe4,or_false,forall_eq_or_imp,forall_eq];exact⟨if_pos od,zZ (df od)⟩)
def Vt{s:an}{a e:Int}{f:bo}{ta:aE}{k n i:Int}{z u:bo}{r:an}{y:ao}{d:aE}{o:Go.Proofs.YtgfdimkbfnpepaaGreat.Out}(b:Hd ⟨174,[pF (.mk k n i z r y d)],.rz [.one (.d (.v (.string u))),iA 0]⟩)
 (hp:HO c (sm m s) 154 [.one (.d (.s 7 (vasD [di u])))] o):HO c (sm m (.mk k n i z r y d::s)) 126 [ndA (.nd a e 81 f ta)] o :=
 eH [sm m s] func126 [tk m (.mk k n i z r y d) s 0,up b,up (Pq u),pu hp 1]
def UA {α:Type}(o:Option α) (f:α->Go.Proofs.YtgfdimkbfnpepaaGreat.Out) (n:Go.Proofs.YtgfdimkbfnpepaaGreat.Out):Go.Proofs.YtgfdimkbfnpepaaGreat.Out:=match o with
 | some x=>f x
 | none=>n
def NK(F:bo->Go.Proofs.YtgfdimkbfnpepaaGreat.Out)(N:Go.Proofs.YtgfdimkbfnpepaaGreat.Out)(o:Option bo):(match o with|some t=>F t|none=>N)=UA o F N:=by cases o<;>rfl
def D8{α:Type}(x:α)(f:α->Go.Proofs.YtgfdimkbfnpepaaGreat.Out)(n:Go.Proofs.YtgfdimkbfnpepaaGreat.Out):UA (some x) f n=f x:=rfl
def Tk{t:Tr}(hT:∀x∈m.st,(dR x).size<=301->VH x)(hU:∀a,fu a->∀x∈m.st,x.s.size<=1000->SG (kreadT a) x.s)
 (hp:t.p0=45\/t.p0=80\/t.p0=81\/t.p0=82\/t.p0=83) (ht:okN t) (hz:t.size<=1000) (h45:t.p0=45->∃a b,t.args0=[a,b]/\fu a) (h82:t.p0=82->∃a,t.args0=[a]/\fu a/\∀x∈m.st.head?,x.s.size<=1000) (h80:t.p0=80->∀x∈m.st.take 2,x.s.size<=1000)
 (hf:Fn m) (hne:jQ t m ≠ .stuck) (hB:∀T s x,jw T s=some x->okV x) (hB2:∀T s x,jf T s=some x->okT T->okN s->okV x):HO c m 126 [ndA t] (jQ t m):=by
 by_cases E:t.p0=83
 .unfold jQ at hne|-;simp only[E,Int.reduceEq,↓reduceIte]at hne|-
  cases hs:m.st with
  | nil=>rw[hs]at hne;exact absurd rfl hne
  | cons x st =>
   exact HO.node ht (bK func126) λO w k n z a l d hM hL=>by rw[E];exact R9 hM hs
 replace hp:t.p0=45\/t.p0=80\/t.p0=81\/t.p0=82:=od
 obtain⟨m,s,rfl⟩:∃M s,m=sm M s:=⟨m,m.st,rfl⟩;have⟨h1,F,h3⟩:=hf;have⟨C,Q,tp,R,ta⟩:=t;rcases (hp:tp=45\/tp=80\/tp=81\/tp=82)with rfl|rfl|rfl|rfl
 .have⟨⟨j,p,q,A,g⟩,⟨U,V,W,Y,S⟩,e,H⟩:=h45 rfl;obtain rfl:ta=_:=e;have D:=tK ht.2.1 H;have ox:=uE H
  cases J:jf (kreadT (.nd j p q A g)) (.nd U V W Y S)with
  | none =>
   have e:jQ (.nd C Q 45 R [.nd j p q A g,.nd U V W Y S]) (sm m s)=(match jf (kreadT (.nd j p q A g)) (.nd U V W Y S)with|some v=>bz (sm m s) [v]|none=>.stuck):=by simp only[jQ,Tr.p0,↓reduceIte];rfl
   rw[e,J]at hne;exact absurd rfl hne
  | some v =>
   have e:jQ (.nd C Q 45 R [.nd j p q A g,.nd U V W Y S]) (sm m s)=(match jf (kreadT (.nd j p q A g)) (.nd U V W Y S)with|some v=>bz (sm m s) [v]|none=>.stuck):=by simp only[jQ,Tr.p0,↓reduceIte];rfl
   rw[e,J]at hne|-;simp only at hne|-;have hP:=Pv ox ht.2.2.1 (by simp only[Tr.size,sizes]at hz|-;omega) J;have G:=hB2 _ _ _ J ox ht.2.2.1;clear e J H;generalize kreadT (.nd j p q A g)=X at D hne ox hP|-;have⟨X,XA⟩:=X;have⟨k,n,i,z,r,y,d⟩:=v;exact eH [] func126 [up D,up hP,pt m s [.mk k n i z r y d] 0 ⟨G,trivial⟩ hne F]
 all_goals
  rcases s with _|⟨a,s⟩
  .exact absurd rfl hne
  have⟨q1,q2⟩:=h1;have⟨k,n,i,z,r,y,d⟩:=a;replace F:=GZ F
 .rcases s with _|⟨b,s⟩
  .exact absurd rfl hne
  have z1:z.size<=1000:=h80 rfl (.mk k n i z r y d) ot;have z2:b.s.size<=1000:=h80 rfl b ot;have⟨L,n1,K,f,N,P,I⟩:=b;have z2:f.size<=1000:=z2;have hs:(z++f).size=z.size+f.size:=ByteArray.size_append;have e:jQ (.nd C Q 80 R ta) (sm m (.mk k n i z r y d :: .mk L n1 K f N P I::s))=if 200<z.size+f.size then .no 13 (sm m (.mk k n i z r y d :: .mk L n1 K f N P I::s))else bz (sm m s) [di (z++f)]:=by simp only[jQ,Tr.p0,Int.reduceEq,↓reduceIte];rfl
  rw[e]at hne|-;have ab:(if z.size+f.size<=9223372036854775807 then some (AV.of (.one (.d (.v (.string (z++f))))))else none)=some (AV.of (.one (.d (.v (.string (z++f)))))):=by rw[oc]
  by_cases h:200<z.size+f.size
  .rw[if_pos h];exact Ol [sm m (.mk L n1 K f N P I::s),sm m s] [(44,.one (.d (.v (.string (z++f))))),(47,bA true)] func126 [tk m (.mk k n i z r y d) (.mk L n1 K f N P I::s) 0,tk m (.mk L n1 K f N P I) s 1]
    (ob:=[(if z.size+f.size<=9223372036854775807 then some (AV.of (.one (.d (.v (.string (z++f))))))else none)=some (AV.of (.one (.d (.v (.string (z++f)))))),tl (decide ((200:Int)<((z++f).size:Nat))) true])
    (by simp only[zr,qe4,or_false,forall_eq_or_imp,forall_eq];exact⟨ab,zZ (dt od)⟩) (λx D=>by cases D;exact⟨ov,rfl,rfl⟩)
  .rw[if_neg h]at hne|-;exact Vs z1 z2 h (IX (c:=c) (m:=sm m s) (l:=[di (z++f)]) 7 ⟨IB od,trivial⟩ (.inl rfl) hne (GZ (m:=m) F))
 .have e:jQ (.nd C Q 81 R ta) (sm m (.mk k n i z r y d::s))=if (dR (.mk k n i z r y d)).size<=301 then UA (oz (.mk k n i z r y d)) (λt=>bz (sm m s) [di t]) (.no 13 (sm m (.mk k n i z r y d::s)))else .stuck:=by
   simp only[jQ,Tr.p0,Int.reduceEq,↓reduceIte];exact congrArg (λx=>if (dR (.mk k n i z r y d)).size<=301 then x else .stuck) (NK (λt=>bz (sm m s) [di t]) (.no 13 (sm m (.mk k n i z r y d::s))) (oz (.mk k n i z r y d)))
  rw[e]at hne|-;clear e
  by_cases h:(dR (.mk k n i z r y d)).size<=301
  .have B:=hT _ (.head _) h;rw[if_pos h]at hne|-;have aa:=@Ji (.mk k n i z r y d)
   cases Z:oz (.mk k n i z r y d)with
   | some u =>
    rw[Z,D8]at hne;rw[D8];have hu:=aa Z;exact Vt (B.1 u Z) (IX (c:=c) (m:=sm m s) (l:=[di u]) 7 ⟨IB od,trivial⟩ (.inl rfl) hne F)
   | none =>
    have⟨e,he,hE⟩:=B.2 Z;rw[show UA none (λt=>bz (sm m s) [di t]) (.no 13 (sm m (.mk k n i z r y d::s))) =.no 13 (sm m (.mk k n i z r y d::s)) from rfl];exact Ol [sm m s] [(61,bA true)] func126 [tk m (.mk k n i z r y d) s 0,up hE] (fE (nt he)) (λx D=>by cases D;exact⟨ov,rfl,rfl⟩)
  .rw[if_neg h]at hne;exact absurd rfl hne
 .have⟨⟨j,p,q,A,g⟩,e,H,zx⟩:=h82 rfl;obtain rfl:ta=_:=e;have D:=tK ht.2.1 H;have B:=hU _ H _ (.head _) (zx _ rfl);have e:jQ (.nd C Q 82 R [.nd j p q A g]) (sm m (.mk k n i z r y d::s))=(match jw (kreadT (.nd j p q A g)) z.toList with|some v=>bz (sm m s) [aV v]|none=>bz (sm m s) [noneV]):=by simp only[jQ,Tr.p0,Int.reduceEq,↓reduceIte];rfl
  rw[e]at hne|-;clear e;unfold SG at B;have hb:=hB (kreadT (.nd j p q A g)) z.toList;simp only[Va.s]at B;generalize jw (kreadT (.nd j p q A g)) z.toList=o at B hne hb|-;clear H;generalize kreadT (.nd j p q A g)=X at D B|-;have⟨X,XA⟩:=X
  cases o with
  | some v =>
   have G:=hb v rfl;simp only at hne B|-;have⟨k3,n3,i3,z3,r3,t3,d3⟩:=v;exact eH [sm m s] func126 [tk m (.mk k n i z r y d) s 0,up D,up B,up (mU (.mk k3 n3 i3 z3 r3 t3 d3)),pt m s [aV (.mk k3 n3 i3 z3 r3 t3 d3)] 1 ⟨pO G,trivial⟩ hne F]
  | none =>
   simp only at hne B|-;exact eH [sm m s] func126 [tk m (.mk k n i z r y d) s 0,up D,up B,up H_none,pt m s [noneV] 1 ⟨ok_none,trivial⟩ hne F]
end
open Go.ChangeShapes Go.WideShapes Go.ChangeAt Go.RowKit
def V6{b:Array Oper}{rest:List Oper}{o:Oper}{a:Act}{Q:Exit->Act->bx->Prop}(B:Nat)(vs:bk)(k n p:Int)(st:bo)(sa:bj)(sl sc:Nat)(w0:bx)(v:cg)(d:o.guard=none)(s x:Operand)
 (ho:o.op =.call { callee:=.builtin .append,args:=#[s,x],argTypes:=#[224,224] }) (hs:a.eval s=v) {H:Nat} (hx:a.eval x =.o H 1 1) (hH:w0.heap.size=H)
 (hown:lh B w0 v vs) (hB:B<=w0.heap.size) (hlen:vs.length<=1000000000000)
 (h:∀g cap w',lh B w' (.o g (vs.length+1) cap) (vs++[af k n p st sa sl sc])->Gr w0 v w' (.o g (vs.length+1) cap)->wpList prog b Q rest (a.put o.dst (.o g (vs.length+1) cap)) w') :
 wpList prog b Q (o::rest) a (w0.alloc (.cells #[.i k,.i n,.i p,.string st,.slice sa sl sc] 26)):=by
 have⟨t,r,e,f,j⟩:=ja0 JD;subst hH;refine je5 _ d s x 224 ho B 26 t _ 5 64 underlying224 r e f j rfl ov v vs.length (flat vs) hs (ue hown _) ⟨w0.heap.size,0,none⟩ 1 1 [.i k,.i n,.i p,.string st,.slice sa sl sc] hx rfl ?_ ?_ ov ?_ ?_ ?_ _ rfl ?_
 .exact jb0 (w:=w0.alloc _) (B:=w0.heap.size) (cs:=#[.i k,.i n,.i p,.string st,.slice sa sl sc]) (jj _ _)
 .intro u l;simp at l;rcases l with rfl|rfl|rfl|rfl|rfl<;>rfl
 .unfold maxLen;omega
 .omega
 .simp;omega
 .intro g cap w' m q c _;refine h g cap w' ?_ ?_
  .unfold lh;rw[bV,qT];exact m
  .refine Gr.trans (Gr.alloc (Gr.refl w0 v) _) ⟨q,?_⟩;rcases c with c|c
   .exact .inl c.symm
   .exact .inr ⟨g,rfl,od⟩
def eltV:cg->cg
 | .agg #[k,n,_,s,a]=>.agg #[k,n,.i 28,s,a]
 | v=>v
def GX{ok:br}{w:bx}{t:Tr}{u:cg}(h:bI ok w t u):bI ok w (eltT t) (eltV u):=by
 cases h with
 | mk V b d f e g a c=>exact .mk (hk:=by assumption) V b d f e ⟨od,od⟩ a c
def NZ{H:Nat}{w:bx}{v:cg}{vs:bk}(q:lh H w v vs)(hn:∀u∈vs,∃k n p s a l c,u=af k n p s a l c) :
 ∃(a:bj) (c:Nat),v =.slice a vs.length c/\∀i u,vs[i]?=some u->ky (H <= ·) w a i u:=by
 have z:∀u∈vs,(nodeCells u).length=5:=by intro u E;have⟨k,n,p,s,a,l,c,f⟩:=hn u E;rw[f];rfl
 unfold lh at q;rcases q.2 with⟨rfl,t⟩|⟨g,m,y,rfl,o,G,D,A,B,r⟩
 .exact⟨none,0,by rw[t],λi u h=>by rw[jx t]at h;simp at h⟩
 .refine⟨some ⟨g,0,none⟩,m,rfl,λi u e=>?_⟩;have⟨k,n,p,s,a,l,c,f⟩:=hn u (zj e);have b:∀j x,j<5->(nodeCells u)[j]?=some x->w.cell? ⟨g,i*5+j,none⟩=some x:=by
   intro j x C F;have:=qb0 q (g:=g) rfl (i*5+j) x (by rw[flat_get vs z i j u e C];exact F);have d:(⟨g,0,none⟩:Addr).add (i*5+j)=⟨g,i*5+j,none⟩:=oX
   rwa [d]at this
  rw[f]at b;refine⟨g,0,rfl,o,k,n,p,s,a,l,c,f,?_,?_,?_,?_,?_⟩
  .have:=b 0 _ od rfl;simpa using this
  .have:=b 1 _ od rfl;simpa using this
  .have:=b 2 _ od rfl;simpa using this
  .have:=b 3 _ od rfl;simpa using this
  .have:=b 4 _ od rfl;simpa using this
def Qk{ok:br}{W:bx}{l:aE}{S:bj}{lc:Nat}{V:bt}(hR:cK ok W l S V)(B:∀b,W.heap.size<=b->ok b)(Z:l.length<=100000000) :
 Calls prog 225 #[.slice S l.length lc] W λe w'=>cm W w' none/\∃a c P,e =.returned (.slice a l.length c)/\cK ok w' (l.map eltT) a P/\(∀i,i<l.length->ky (W.heap.size <= ·) w' a i (P i))/\l.length<=c:=by
 have J:=hR.1;unfold maxLen at J;have G:=jh hR;have F:=jh B;clear hR B;go_enter func225,ntmps225;go_wp2_with fail;go_loopw [3,8] (λrv N wr=>∃(j:Nat),j<=l.length/\N =.i j/\lh W.heap.size wr rv ((List.range j).map λi=>eltV (V i))/\cm W wr none) (λ_ N _=>l.length - (intOf N).toNat)
 case atStart=>exact⟨0,zE _,rfl,qg1 _ _ _ _,bM _ _⟩
 case round =>
  obtain⟨j,hj,rfl,z,x⟩:=hrel;have f:((List.range j).map λi=>eltV (V i)).length=j:=ot
  by_cases K:j<l.length
  .have hN:=(G.out.2.1 j K).same (w':=wr) (λb o _ m=>qt (x.block b m ot));obtain⟨b,o,rfl,m,k,n,p,s,q,v,r,t,C,Q,h2,h3,h4⟩:=hN;have Y:b<wr.heap.size:=zv wr _ C;have HO:=jh (ue z (.cells #[.i k,.i n,.i 28,.string s,.slice q v r] 26));have w:=jh (aJ x (aK (.cells #[.i k,.i n,.i 28,.string s,.slice q v r] 26)));have U:Hid (W.heap.size<=(wr.alloc (.cells #[.i k,.i n,.i 28,.string s,.slice q v r] 26)).heap.size):=w.out.size;have T:Hid ((List.range (j+1)).map (λi=>eltV (V i))=(List.range j).map (λi=>eltV (V i))++[af k n 28 s q v r]):=by
    show _=_;rw[jh3,qb5,ja2,t];rfl
   have⟨rl,O,M⟩:∃ra O,u3 =.slice ra j O:=by
    rcases z.2 with⟨L,C⟩|⟨g,H,X,L,_⟩
    .exact⟨none,0,by rw[L];rw[f]at C;rw[C]⟩
    .exact⟨_,_,by rw[L,f]⟩
   subst M;clear z x t m;go_wp2_with (at_builtin;refine V6 W.heap.size ((List.range j).map λi=>eltV (V i)) k n 28 s q v r (wr.alloc (.cells #[.i k,.i n,.i 28,.string s,.slice q v r] 26)) (.slice rl j O) rfl (.tmp 13) (.tmp 15) rfl rfl rfl ot HO U (by rw[f];omega) ?_;intro g H w5 A y;have E:=jh A;have D:=jh y;clear A y);refine⟨⟨j+1,od,OS,by rw[T.out];have h:=E.out;rw[f]at h;exact h,dX w HO (qS _) D.1⟩,by simp[intOf];omega⟩
  .have I:j=l.length:=by omega
   subst I;have HO:=jh z;have w:=jh x;clear z x;go_wp2;go_ret;have hN:∀i u,((List.range l.length).map λi=>eltV (V i))[i]?=some u->i<l.length/\u=eltV (V i):=by
    intro i u h;have d:i<l.length:=by have:=(qv.1 h).1;simpa using this
    refine⟨d,?_⟩;simp[d]at h;exact h.symm
   have⟨a,c,t,R⟩:=NZ HO (λu hu=>by have⟨i,d⟩:=qg3 hu;obtain⟨Q,rfl⟩:=hN i u d;exact (GX (G.2.2 i Q)).af)
   rw[f]at t;refine⟨w,a,c,λi=>eltV (V i),by rw[t];rfl,⟨by rw[qf3];unfold maxLen;omega,λi d=>?_,λi d=>?_⟩,λi d=>R i _ (by simp[d]),qP HO t⟩
   .rw[qf3]at d;exact (R i _ (by simp[d])).ae (λb _ m=>F b m)
   .rw[qf3]at d;rw[List.getElem_map];exact GX ((G.2.2 i d).same (λb o _ m=>qt (w.block b m ot)))
def Jb (ok:br) (W:bx) (t:Tr) (e:Ending) (w':bx):Prop:=cm W w' none/\∃u,e =.returned u/\bI ok w' t u
section
def Wz{l:aE}(hk:okNs l)(j:l.length<=100000000):Hd ⟨225,[CW l],.of (CW (l.map eltT))⟩:=⟨rM func225,λok w k h=>by
 match k,h with
 | [v],⟨d,_⟩ =>
  obtain⟨a,c,V,rfl,_,f⟩:=xU hk (.inl rfl) d;refine (Qk (f.ae (ok':=λb=>ok b\/w.heap.size<=b) λb _ h=>.inl h) (λb h=>.inr h) j).mono ?_;rintro e n ⟨i,a,c,m,rfl,hR,_,g⟩;refine⟨i,_,rfl,?_⟩;have:=uI hR (c:=c) (by simpa using g);rw[qf3]at this;exact this⟩
def Zf (k n p:Int) (s:bo) (a:X):A1:=.agg [.d (.v (.i k)),.d (.v (.i n)),.d (.v (.i p)),.d (.v (.string s)),a]
def Zn (k n a:Int) (s:bo):A1:=.agg [.d (.v (.i k)),.d (.v (.i n)),.d (.v (.i a)),.d (.v (.string s)),.d .t,.d .t,.d .t]
def AL(p:Int)(m:Nat)(es:List bd):Hd ⟨223,[iA p,.one (.d (.s m es))],.of (Zf 2 0 p ⟨#[]⟩ (.d (.s m es)))⟩:=aF func223 []
def AJ(n a b:Int):Hd ⟨224,[iA n,iA a,iA b],.of (iA (if n=0 then a else b))⟩:=by
 by_cases h:n=0
 .rw[if_pos h];exact runT func224 [(8,bA true)] [] (ob:=[jJ (decide (n=0)) true]) (al (eT (by simpa using h)) al0)
 .rw[if_neg h];exact runT func224 [(8,bA false)] [] (ob:=[jJ (decide (n=0)) false]) (al (eT (by simpa using h)) al0)
def Xp{ok:br}{w:bx}{k n p:Int}{s:bo}{m:Nat}{l:aE}{v:cg}(r:m=5\/l=[])(h:iZ (λ_=>none) ok w (.of (Zf k n p s (.d (.s m (ndsD l))))) v):iZ (λ_=>none) ok w (.of (ndA (.nd k n p s l))) v:=by
 have⟨t,e,h⟩:=h
 match t,h with
 | [a,b,c,d,f],⟨i,j,o,q,g,_⟩=>exact⟨_,e,i,j,o,q,by rcases r with rfl|rfl;exact g;exact gG g,trivial⟩
def Mx{k n a:Int}{s:bo}{az:an}{ty:ao}{co l:aE}(hk:okNs l)(hl:l.length<=100000000):Hd ⟨216,[Zn k n a s,CW l],.of (ndA (aL (.mk k n a s az ty co) l))⟩:=by
 have hE:=Wz hk hl;have hl0:(if ((ndsD l).length:Int)=0 then (27:Int)else 26)=if l.length=0 then 27 else 26:=by rw[ndsD_map,qf3];simp
 have cv:∀{k' n' p':Int} {s':bo} (m:Nat) {l':aE},aL (.mk k n a s az ty co) l =.nd k' n' p' s' l'->m=5\/l'=[]->Hd ⟨216,[Zn k n a s,CW l],.of (Zf k' n' p' s' (.d (.s m (ndsD l'))))⟩->Hd ⟨216,[Zn k n a s,CW l],.of (ndA (aL (.mk k n a s az ty co) l))⟩:=λm _ e hm h=>by rw[e];exact h.conv (λ_ _ _ h=>h) (λ_ _ _ h=>Xp hm h)
 by_cases h1:k=1
 .subst h1;exact cv 0 rfl (.inr rfl) (aF func216 [⟨_,AL 20 0 []⟩])
 by_cases h2:k=2
 .subst h2;exact cv 0 rfl (.inr rfl) (aF func216 [⟨_,AJ n 22 21⟩,⟨_,AL (if n=0 then 22 else 21) 0 []⟩])
 by_cases h3:k=3\/k=4\/k=5\/k=7
 .rcases h3 with rfl|rfl|rfl|rfl<;>exact cv 0 rfl (.inr rfl) (aF func216 [])
 by_cases h6:k=6
 .subst h6;exact cv 0 rfl (.inr rfl) (aF func216 [])
 by_cases h9:k=9
 .subst h9;exact cv 5 (p':=if ((ndsD l).length:Int)=0 then 27 else 26) (by rw[hl0];rfl) (.inl rfl) (aF func216 [⟨_,AJ (ndsD l).length 27 26⟩,⟨_,AL (if ((ndsD l).length:Int)=0 then 27 else 26) 5 (ndsD l)⟩])
 by_cases h11:k=11
 .subst h11;exact cv 5 rfl (.inl rfl) (aF func216 [⟨_,AL 23 5 (ndsD l)⟩])
 by_cases h12:k=12
 .subst h12;exact cv 5 rfl (.inl rfl) (aF func216 [⟨_,AJ n 24 25⟩,⟨_,AL (if n=0 then 24 else 25) 5 (ndsD l)⟩])
 by_cases h10:k=10
 .subst h10;exact cv 5 rfl (.inl rfl) (aF func216 [])
 by_cases h13:k=13
 .subst h13;exact cv 5 rfl (.inl rfl) (aF func216 [⟨_,hE⟩])
 .have e:aL (.mk k n a s az ty co) l =.nd (-1) 0 0 ⟨#[]⟩ []:=by simp[aL,Va.k,h1,h2,h3,h6,h9,h11,h12,h10,h13]
  have q:∀j:Int,k≠j->nq k j:=λj h=>oL h;exact cv 0 e (.inr rfl) (runT func216 [(8,fA),(11,fA),(17,fA),(18,fA),(19,fA),(20,fA),(25,fA),(30,fA),(37,fA),(41,fA),(48,fA),(52,fA)] [] (ob:=[nq k 1,nq k 2,nq k 3,nq k 4,nq k 5,nq k 7,nq k 6,nq k 9,nq k 11,nq k 12,nq k 10,nq k 13]) (by simp only[zr,qe4,or_false,forall_eq_or_imp,forall_eq];refine⟨q _ h1,q _ h2,q _ ?_,q _ ?_,q _ ?_,q _ ?_,q _ h6,q _ h9,q _ h11,q _ h12,q _ h10,q _ h13⟩<;>omega))
def Uz{l:aE}(h:okNs l):okNs (l.map eltT):=okNs_at.2 λt b=>by obtain⟨u,c,rfl⟩:=ud.1 b;have:=okNs_at.1 h u c;have⟨k,n,p,s,a⟩:=u;exact⟨⟨this.1.1,this.1.2.1,i64,this.1.2.2.2⟩,this.2⟩
def Sn{ok:br}{W:bx}(x:Va)(j:bj)(al ac:Nat)(ta:bj)(tl tc:Nat)(na:bj)(w nc:Nat){l:aE}{r:bj}{u:Nat}{V:bt}(o:cK ok W l r V)(g:∀b,W.heap.size<=b->ok b)(d:l.length<=100000000)(f:l.length<=u)(q:bD x.n)(p:x.s.size<=maxLen) :
 Calls prog 216 #[bg x.k x.n x.a x.s j al ac ta tl tc na w nc,.slice r l.length u] W (Jb ok W (aL x l)):=by
 have⟨k,n,a,s,B,y,m⟩:=x;have c:=Fw o;refine ((Mx (k:=k) (n:=n) (a:=a) (s:=s) (az:=B) (ty:=y) (co:=m) c d).runN rfl ok W [_,_] ⟨⟨[.i k,.i n,.i a,.string s,.slice j al ac,.slice ta tl tc,.slice na w nc],rfl,.v _,.v _,.v _,.v _,.t _ rfl,.t _ rfl,.t _ rfl,trivial⟩,uI o f,trivial⟩).mono ?_;rintro e C ⟨z,v,rfl,A⟩;refine⟨z,v,rfl,(oK ?_ A).ae λb _ h=>h.elim id (g b)⟩;simp only[Va.n,Va.s]at q p;unfold aL gW
 repeat' split
 all_goals first
  | exact⟨⟨i64,i64,i64,zE _⟩,trivial⟩
  | exact⟨⟨i64,i64,i64,zE _⟩,c⟩
  | exact⟨⟨i64,q,i64,zE _⟩,trivial⟩
  | exact⟨⟨i64,i64,i64,p⟩,trivial⟩
  | exact⟨⟨i64,i64,i64,zE _⟩,Uz c⟩
  | (refine⟨⟨i64,i64,?_,zE _⟩,?_⟩;split<;>exact i64;first|trivial|exact c)
end
def BP{w:bx}{B:Nat}{e:TypeId}{a n:Nat}{v:cg}{xs:bk}(h:w.ownsRow B e a v n xs){y:Nat}(b:y<B):some y≠v.ownBlock:=λe=>by have:=(zp h y e.symm).1;omega
def yT (cb tb:Nat):cg:=.func (.func 215) #[] #[.po cb,.po tb]
def F9 (cb c:Nat) (x:Va) (W:bx) (e:Ending) (w':bx):Prop :=
 cm W w' (some cb)/\w'.heap[cb]?=some (.cells #[.i ((jg c x).1:Nat)] 3 (0,0))/\∃u,e =.returned u/\bI (W.heap.size <= ·) w' (jg c x).2 u
def Ja (cb tb N:Nat):Prop:=∀(x:Va) (u:cg) (c:Nat) (W:bx),x.size<=N->aA (· ≠ cb) W x u->W.heap[cb]?=some (.cells #[.i (c:Nat)] 3 (0,0))->W.heap[tb]?=some (.cells #[yT cb tb] 209 (0,0))->c<=300->x.size<=20000000 ->
 Calls prog 215 #[u,.po cb,.po tb] W (F9 cb c x W)
structure sV (W w:bx) (cb tb:Nat) (B:Obj) (cj:Nat) (lv:cg) (ts:aE) (vs:bk):Prop where
 grown:cm W w (some cb)
 blk:w.heap[W.heap.size]?=some B
 res:w.heap[W.heap.size+1]?=some (.cells #[.i 0,.i 0,.i 0,.string ⟨#[]⟩,.n0] 26 (0,0))
 cnt:w.heap[cb]?=some (.cells #[.i (cj:Nat)] 3 (0,0))
 fn:w.heap[tb]?=some (.cells #[yT cb tb] 209 (0,0))
 list:kQ (W.heap.size+1+1) w lv ts vs
 hz:W.heap.size+1+1<=w.heap.size
def dP{w:bx}{b:Nat}{o:Obj}(h:w.heap[b]?=some o):b<w.heap.size:=(qq.1 h).1
def sV.call{W w w':bx}{cb d:Nat}{B:Obj}{b:Nat}{c:cg}{ts:aE}{vs:bk}(h:sV W w cb d B b c ts vs)(e:cb<W.heap.size)(a:cm w w' none):sV W w' cb d B b c ts vs :=
 ⟨fF h.grown (kL a),(a.block _ (dP h.blk) ot).trans h.blk,(a.block _ (dP h.res) ot).trans h.res,(a.block _ (dP h.cnt) ot).trans h.cnt,(a.block _ (dP h.fn) ot).trans h.fn,h.list.keep (rb:=cb) (kL a) od,km h.hz a.size⟩
def sV.told{W w w':bx}{cb c:Nat}{B:Obj}{f d:Nat}{e:cg}{ts:aE}{vs:bk}(h:sV W w cb c B f e ts vs)(g:cb<W.heap.size)(b:c≠cb)(a:cm w w' (some cb))(hc:w'.heap[cb]?=some (.cells #[.i (d:Nat)] 3 (0,0))):sV W w' cb c B d e ts vs :=
 ⟨fF h.grown a,(a.block _ (dP h.blk) oB).trans h.blk,(a.block _ (dP h.res) oB).trans h.res,hc,(a.block _ (dP h.fn) (by simpa using b)).trans h.fn,h.list.keep (rb:=cb) a od,km h.hz a.size⟩
def sV.push{W w w':bx}{cb f S:Nat}{B:Obj}{g:Nat}{e c u:cg}{ts:aE}{vs:bk}{t:Tr}(h:sV W w cb f B g e ts vs)(p:cb<W.heap.size)(v:f<W.heap.size)(n:W.heap.size+1+1<=S)(d:∀k,e.ownBlock=some k->k<S)(m:bI (S <= ·) w t u)(b:Gr w e w' c)(r:lh (W.heap.size+1+1) w' c (vs++[u])):sV W w' cb f B g c (ts++[t]) (vs++[u]):=by have a:∀{k:Nat} {o:Obj},w.heap[k]?=some o->k<W.heap.size+1+1->w'.heap[k]?=some o:=λj l=>(b.block (dP j) (BP h.list.own l)).trans j;refine⟨?_,a h.blk od,a h.res od,a h.cnt od,a h.fn od,h.list.push n d m b r,km h.hz b.1.size⟩;exact⟨b.1.os.trans h.grown.os,b.1.tape.trans h.grown.tape,b.1.output.trans h.grown.output,km h.grown.size b.1.size,λi q s=>(b.block (by have:=h.grown.size;omega) (BP h.list.own od)).trans (h.grown.block i q s)⟩
def sV.fin{W w0 k:bx}{cb v:Nat}{B:Obj}{q:Nat}{u:cg}{ts:aE}{vs:bk}(h:sV W w0 cb v B q u ts vs)(n:cb<W.heap.size)(s:cm w0 k none){t:Tr}{d f pu:Int}{g:bo}{a:bj}{e c:Nat}(r:bI (W.heap.size+1+1 <= ·) k t (af d f pu g a e c)) :
 cm W (fC k (W.heap.size+1) (.i d) (.i f) (.i pu) (.string g) (.slice a e c)) (some cb)/\(fC k (W.heap.size+1) (.i d) (.i f) (.i pu) (.string g) (.slice a e c)).heap[cb]?=some (.cells #[.i (q:Nat)] 3 (0,0)) /\
 bI (W.heap.size <= ·) (fC k (W.heap.size+1) (.i d) (.i f) (.i pu) (.string g) (.slice a e c)) t (af d f pu g a e c)/\(fC k (W.heap.size+1) (.i d) (.i f) (.i pu) (.string g) (.slice a e c)).heap[W.heap.size+1]?=some (.cells #[.i d,.i f,.i pu,.string g,.slice a e c] 26 (0,0)):=by
 have l:=h.call n s;have j:=dW k (W.heap.size+1) (.i d) (.i f) (.i pu) (.string g) (.slice a e c);refine⟨aG l.grown j od,(j.block cb (dP l.cnt) oB).trans l.cnt,?_,dH l.res _ _ _ _ _⟩;exact (r.same (λb o m p=>qt (j.block b p (by simp;have : W.heap.size+1+1<=b:=m;omega)))).ae (λb _ m=>by have : W.heap.size+1+1<=b:=m;omega)
def R8(c:Nat)(x:Va):jg c x=((dJ (c+1) x.args).1,aL x (dJ (c+1) x.args).2):=by cases x;rw[jg];rfl
def sV.slice{W w:bx}{cb f:Nat}{B:Obj}{d:Nat}{c:cg}{ts:aE}{vs:bk}(h:sV W w cb f B d c ts vs):∃a b,c =.slice a vs.length b:=by have⟨a,b,_,e,_,_⟩:=h.list.done;exact⟨a,b,by rw[e,h.list.len]⟩
def sV.wr{W w:bx}{cb q:Nat}{B:Obj}{l:Nat}{g:bj}{i:Nat}{ts:aE}{vs:bk}(h:sV W w cb q B l (.slice g vs.length i) ts vs)(t:ts.length<=20000000)(x:Va)(e:bj)(al ac:Nat)(ta:bj)(tl tc:Nat)(na:bj)(j nc:Nat)(p:bD x.n)(o:x.s.size<=maxLen) :
 Calls prog 216 #[bg x.k x.n x.a x.s e al ac ta tl tc na j nc,.slice g vs.length i] w (Jb (W.heap.size+1+1 <= ·) w (aL x ts)):=by
 have⟨a,c,V,f,m,d⟩:=h.list.done;rw[f];exact Sn x e al ac ta tl tc na j nc ⟨On,m,d⟩ (λb r=>by have:=h.hz;omega) od (qP h.list.own f) p o
def Ch{cb:Nat}{w w':bx}(h:cm w w' (some cb)):Same (· ≠ cb) w w':=λb o c a=>qt (h.block b a (by simpa using c))
def OB{cb D N:Nat}(ba:Ja cb D N):Ja cb D (N+1):=by
 intro x u c W cE hL A Z hc cy;obtain⟨aa,ac,ta,tc,na,nc,V,VT,VN,rfl,⟨ik,iN,ia,hs,cv⟩,ar,cr,cq⟩:=hL.inv;have B:cb<W.heap.size:=dP A;have cc:D<W.heap.size:=dP Z;have bq:D≠cb:=dC Z A ov;have cF:=eP x;have cG:=kS x.args;have cw:=ar.1;unfold maxLen at cw;have cD:x.args.length<=20000000:=od
 have IH:Hid (∀(j:Nat) (h:j<x.args.length) (f:Nat) (W2:bx),aA (· ≠ cb) W2 x.args[j] (V j)->W2.heap[cb]?=some (.cells #[.i (f:Nat)] 3 (0,0))->W2.heap[D]?=some (.cells #[yT cb D] 209 (0,0))->f<=300 ->
  Calls prog 215 #[V j,.po cb,.po D] W2 (F9 cb f x.args[j] W2)):=λj h f W2 h1 h2 h3 h4=>by
  have:=fO (zd h);exact ba _ _ f W2 od h1 h2 h3 h4 od
 have aC:=jh ar;have c1:=qf2 A;have c2:=jf3 A
 let BX:Obj:=.cells #[.i x.k,.i x.n,.i x.a,.string x.s,.slice aa x.args.length ac,.slice ta x.types.length tc,.slice na x.code.length nc] 36
 have bb:sV W (((W.setCell ⟨cb,0,none⟩ (.i ((c:Int)+1))).alloc BX).alloc (.cells #[.i 0,.i 0,.i 0,.string ⟨#[]⟩,.n0] 26)) cb D BX (c+1) (.n0) [] []:=by have bf:=dY (g:=cb) (bM W (some cb)) 0 none (.i ((c:Int)+1));have ae:(W.setCell ⟨cb,0,none⟩ (.i ((c:Int)+1))).heap.size=W.heap.size:=qX _ _ _;have k2:(W.setCell ⟨cb,0,none⟩ (.i ((c:Int)+1))).heap[cb]?=some (.cells #[.i ((c:Int)+1)] 3 (0,0)):=ka2 A;have k3:=(bf.block D cc (by simpa using bq)).trans Z;generalize W.setCell ⟨cb,0,none⟩ (.i ((c:Int)+1))=W1 at *;have ax:cm W1 ((W1.alloc BX).alloc (.cells #[.i 0,.i 0,.i 0,.string ⟨#[]⟩,.n0] 26)) none:=aJ (aK _) (aK _);have k0:=CJ W1 BX (.cells #[.i 0,.i 0,.i 0,.string ⟨#[]⟩,.n0] 26);have k1:=iR W1 BX (.cells #[.i 0,.i 0,.i 0,.string ⟨#[]⟩,.n0] 26);rw[ae]at k0 k1;refine⟨fF bf (kL ax),k0,k1,(ax.block _ (dP k2) ot).trans k2,(ax.block _ (dP k3) ot).trans k3,kQ.nil _ _,?_⟩;rw[yv,yv,ae];exact qS _
 have Q:=jh bb;have R:=jh (R8 c x);have ab:Hid (∀(w:bx) (f:Nat) (la:bj) (lc:Nat) (E:aE) (d:bk),sV W w cb D BX f (.slice la d.length lc) E d->E.length<=20000000 ->
  Calls prog 216 #[bg x.k x.n x.a x.s aa x.args.length ac ta x.types.length tc na x.code.length nc,.slice la d.length lc] w (Jb (W.heap.size+1+1 <= ·) w (aL x E))):=λw f la lc E d h1 h2=>h1.wr h2 x aa x.args.length ac ta x.types.length tc na x.code.length nc iN hs
 have cH:IntKind.i64.wrap ((c:Int)+1)=((c+1:Nat):Int):=by rw[qb1];omega
 clear ba hL ar cr cq bb A Z ik iN ia hs cv;unfold bg at *;go_enter func215,ntmps215;go_wp2_with fail;go_loopw [5,13] (λlv iv wr=>∃(j f:Nat) (E:aE) (d:bk),j<=x.args.length/\iv =.i j/\sV W wr cb D BX f lv E d/\dJ (c+1) x.args=((dJ f (x.args.drop j)).1,E++(dJ f (x.args.drop j)).2)/\E.length=j/\f<=301) (λ_ iv _=>x.args.length - (intOf iv).toNat)
 case atStart =>
  refine⟨0,c+1,[],[],zE _,rfl,?_,ot,rfl,od⟩;exact Q
 case round =>
  obtain⟨j,f,E,d,hj,rfl,l,C,J,ct⟩:=hrel;obtain⟨la,lc,rfl⟩:=l.slice;have cd:d.length=j:=by rw[l.list.len,J]
  subst cd;have ai:=jh J;clear J;have cA:=qf2 l.cnt;have cp:=qf2 l.fn;unfold yT at cp;have cJ:cb<wr.heap.size:=dP l.cnt;have cM:D<wr.heap.size:=dP l.fn;have cI:W.heap.size<wr.heap.size:=dP l.blk;have cL:W.heap.size+1<wr.heap.size:=dP l.res
  by_cases Y:d.length<x.args.length
  .obtain⟨b,o,rfl,hb,k',n',a',s',G,I,H,O,jJ,P,K,M,L,hv,h0,h1,h2,h3,h4,h5,h6⟩:=(aC.out.2.1 d.length Y).same (Ch l.grown);have m:x.args.drop d.length=x.args[d.length]::x.args.drop (d.length+1):=yW Y;have cC:b<wr.heap.size:=zv wr _ h0
   by_cases ad:300<f
   .have aj:(300:Int)<(f:Int):=by omega
    have q:dJ (c+1) x.args=(f,E):=by rw[C,m,dJ,if_pos ad];simp
    have HI:=jh (l.call B (aK (.cells #[.i k',.i n',.i a',.string s',.slice G I H,.slice O jJ P,.slice K M L] 36)));have p:=jh q;have⟨q0,q1,q2,q3,q4,q5,q6⟩:=cO l.blk;clear l q C m hv hb IH Q;go_wp2_with fail;refine (ab _ _ _ _ _ _ HI (by have:=ai.out;omega)).mono ?_;rintro e w4 ⟨y,u4,rfl,t⟩;obtain⟨ku,nu,pu,su,T,lu,U,rfl⟩:=t.af;have F:=jh (HI.fin B y t);have z:=(y.block _ (dP HI.res) ot).trans HI.res;have⟨r0,r1,r2,r3,r4⟩:=bE z;have⟨p0,p1,p2,p3,p4⟩:=kC z;clear y t z;unfold af;go_wp2_with fail;change bodyPost _ _ _ _ _ (fC w4 (W.heap.size+1) (.i ku) (.i nu) (.i pu) (.string su) (.slice T lu U));have⟨f1,f2,f3,f4⟩:=F.out;generalize fC w4 (W.heap.size+1) (.i ku) (.i nu) (.i pu) (.string su) (.slice T lu U)=wf at *;have⟨z0,z1,z2,z3,z4⟩:=bE f4;refine yb (v:=af ku nu pu su T lu U) (by simp[results,results215,go_sem,z0,z1,z2,z3,z4,af]) rfl ⟨f1,?_,_,rfl,?_⟩
    .rw[R.out,p.out];exact f2
    .rw[R.out,p.out];exact f3
   .have aj:¬(300:Int)<(f:Int):=by omega
    have X:=l.call B (aK (.cells #[.i k',.i n',.i a',.string s',.slice G I H,.slice O jJ P,.slice K M L] 36));have bm:=fF l.grown (kL (r:=some cb) (aK (w:=wr) (.cells #[.i k',.i n',.i a',.string s',.slice G I H,.slice O jJ P,.slice K M L] 36)));have ay:=IH.out d.length Y f ((wr.alloc (.cells #[.i k',.i n',.i a',.string s',.slice G I H,.slice O jJ P,.slice K M L] 36))) ((aC.2.2 d.length Y).same (Ch bm)) X.cnt X.fn od;rw[hv]at ay;have az:=jh ay;have cf:=jh X;have cl:Hid (∀k,(Value.slice la d.length lc).ownBlock=some k->k<wr.heap.size):=λk hk=>(zp l.list.own k hk).2;have cn:=jh l.hz;have aO:Hid (dJ (c+1) x.args=((dJ (jg f x.args[d.length]).1 (x.args.drop (d.length+1))).1,E++[(jg f x.args[d.length]).2]++(dJ (jg f x.args[d.length]).1 (x.args.drop (d.length+1))).2)):=by show _=_;rw[C,m,dJ,if_neg ad];simp
    have HM:Hid ((jg f x.args[d.length]).1<=301):=(tell_most x.args[d.length] f od).2.1;clear ay X bm l hv hb C m Q;unfold bg at az;go_wp2_with fail;refine az.mono ?_;rintro e w3 ⟨bh,bc,u,rfl,aq⟩;obtain⟨ku,nu,pu,su,T,lu,U,rfl⟩:=aq.af;have ah:=jh (cf.told B bq bh bc);have ck:=jh aq;clear bh bc aq;unfold af;go_wp2_with (at_builtin;refine V6 (W.heap.size+1+1) d ku nu pu su T lu U w3 (.slice la d.length lc) rfl (.tmp 19) (.tmp 23) rfl rfl rfl rfl ah.list.own ah.hz od ?_;intro g cz w5 ca bl;have ch:=jh (ah.push (S:=(wr.alloc (.cells #[.i k',.i n',.i a',.string s',.slice G I H,.slice O jJ P,.slice K M L] 36)).heap.size) B cc (by have:=cn.out;rw[yv];omega) (λk hk=>by have:=cl.out k hk;rw[yv];omega) ck bl ca);clear ca bl);refine⟨⟨d.length+1,_,_,_,od,OS,ch,aO,by have:=ai.out;simp;omega,HM⟩,by simp[intOf];omega⟩
  .have bp:d.length=x.args.length:=by omega
   have q:dJ (c+1) x.args=(f,E):=by rw[C,bp,List.drop_length,dJ];simp
   have HI:=jh l;have p:=jh q;have⟨q0,q1,q2,q3,q4,q5,q6⟩:=cO l.blk;have cx:¬(d.length:Int)<(x.args.length:Int):=od
   clear l q C IH Q bp;go_wp2_with fail;refine (ab _ _ _ _ _ _ HI (by have:=ai.out;omega)).mono ?_;rintro e w4 ⟨y,u4,rfl,t⟩;obtain⟨ku,nu,pu,su,T,lu,U,rfl⟩:=t.af;have F:=jh (HI.fin B y t);have z:=(y.block _ (dP HI.res) ot).trans HI.res;have⟨r0,r1,r2,r3,r4⟩:=bE z;have⟨p0,p1,p2,p3,p4⟩:=kC z;clear y t z;unfold af;go_wp2_with fail;change bodyPost _ _ _ _ _ (fC w4 (W.heap.size+1) (.i ku) (.i nu) (.i pu) (.string su) (.slice T lu U));have⟨f1,f2,f3,f4⟩:=F.out;generalize fC w4 (W.heap.size+1) (.i ku) (.i nu) (.i pu) (.string su) (.slice T lu U)=wf at *;have⟨z0,z1,z2,z3,z4⟩:=bE f4;refine yb (v:=af ku nu pu su T lu U) (by simp[results,results215,go_sem,z0,z1,z2,z3,z4,af]) rfl ⟨f1,?_,_,rfl,?_⟩
   .rw[R.out,p.out];exact f2
   .rw[R.out,p.out];exact f3
def QR(w:bx)(b a d e:Obj):((((w.alloc b).alloc a).alloc d).alloc e).heap[w.heap.size+1]?=some a:=by have c:=iR w b a;exact aB (aB c)
def IA(cb a:Nat):∀N,Ja cb a N
 | 0=>λx u c W h=>by have:=qZ x;omega
 | N+1=>OB (IA cb a N)
def R3(w:bx)(a:Go.Fn)(x y:Array cg)(T:TypeId):(store ⟨w.heap.size,0,none⟩ (.func a x y)).run prog (w.alloc (.cells #[.nilFunc] T)) =.ok () (w.alloc (.cells #[.func a x y] T)):=by rw[run_store _ _ _ _ _ rfl];simp[go_sem]
def KI{W:bx}{x:Va}{u:cg}(F:aA (λ_=>True) W x u)(T:x.size<=20000000) :
 Calls prog 204 #[u] W λe w'=>cm W w' none/\∃v,e =.returned v/\bI (W.heap.size <= ·) w' (dR x) v:=by
 obtain⟨L,M,E,N,d,g,f,n,fE,p,k,m,l,rfl⟩:=F.bg
 let A:bx:=(((W.alloc (.cells #[.i L,.i M,.i E,.string N,.slice d g f,.slice n fE p,.slice k m l] 36)).alloc (.cells #[.i 0,.i 0,.i 0,.string ⟨#[]⟩,.n0] 26)).alloc (.cells #[.i 0] 3)).alloc (.cells #[yT (W.heap.size+1+1) (W.heap.size+1+1+1)] 209)
 have H:cm W A none:=aJ (aJ (aJ (aK _) (aK _)) (aK _)) (aK _);have R:=IA (W.heap.size+1+1) (W.heap.size+1+1+1) x.size x _ 0 A (qS _) (((F.ae (ok':=(· < W.heap.size)) (λb a _=>a)).same (λb o a _=>qt (H.block b a ot))).ae (λb _ a=>by show b≠_;have : b<W.heap.size:=a;omega)) (kH _ _ _ _ _) (xV _ _ _ _ _) od T;have S:=QR W (.cells #[.i L,.i M,.i E,.string N,.slice d g f,.slice n fE p,.slice k m l] 36) (.cells #[.i 0,.i 0,.i 0,.string ⟨#[]⟩,.n0] 26) (.cells #[.i 0] 3) (.cells #[yT (W.heap.size+1+1) (W.heap.size+1+1+1)] 209);have⟨V,P,U⟩:=we R S H;have X:Hid (A.heap.size=W.heap.size+1+1+1+1):=by show _=_;simp[A]
 have K:=R3 (((W.alloc (.cells #[.i L,.i M,.i E,.string N,.slice d g f,.slice n fE p,.slice k m l] 36)).alloc (.cells #[.i 0,.i 0,.i 0,.string ⟨#[]⟩,.n0] 26)).alloc (.cells #[.i 0] 3));simp only[yv]at K;clear R S H F T;unfold bg at *;go_enter func204,ntmps204;go_wp2_with fail;refine V.mono ?_;rintro e O ⟨j,_,u4,rfl,h⟩;obtain⟨t,y,pu,z,q,w,r,rfl⟩:=h.af;have c:=(j.block _ (dP P) ot).trans P;have⟨r0,r1,r2,r3,r4⟩:=bE c;have⟨p0,p1,p2,p3,p4⟩:=kC c;have⟨D,B,C⟩:=we c (aG U j od) h;clear j h c;unfold af;go_wp2_with fail;change bodyPost _ _ _ _ _ (fC O (W.heap.size+1) (.i t) (.i y) (.i pu) (.string z) (.slice q w r));have G:=dH D (.i t) (.i y) (.i pu) (.string z) (.slice q w r);have s:=dW O (W.heap.size+1) (.i t) (.i y) (.i pu) (.string z) (.slice q w r);have I:=aG B s od;generalize fC O (W.heap.size+1) (.i t) (.i y) (.i pu) (.string z) (.slice q w r)=wf at *;have⟨Y,Z,z2,z3,z4⟩:=bE G;refine yb (v:=af t y pu z q w r) (by simp[results,results204,go_sem,Y,Z,z2,z3,z4,af]) rfl ⟨I,_,rfl,?_⟩;have Q:=C.out;rw[X.out]at Q;exact (Q.same (λb o a J=>qt (s.block b J (by simp;have : W.heap.size+1+1+1+1<=b:=a;omega)))).ae (λb _ a=>by have : W.heap.size+1+1+1+1<=b:=a;omega)
def lH (x:Va) (W:bx) (e:Ending) (w':bx):Prop :=
 cm W w' none/\((dS (dR x)≠0/\e =.returned (.tuple #[.string ⟨#[]⟩,.i (dS (dR x))]))\/(dS (dR x)=0/\199<(encTr (dR x)).length/\e =.returned (.tuple #[.string ⟨#[]⟩,.i 4])) \/
  (dS (dR x)=0/\(encTr (dR x)).length<=199/\e =.returned (.tuple #[.string ⟨((5:UInt8)::encTr (dR x)).toArray⟩,.i 0])))
def Y7(l:bw):(⟨#[5]⟩:bo)++⟨l.toArray⟩=⟨((5:UInt8)::l).toArray⟩:=by apply ByteArray.ext;simp[ByteArray.data_append]
def Sa{W:bx}{x:Va}{v:cg}(w:aA (λ_=>True) W x v)(I:x.size<=20000000)(hs:(dR x).size<=301):Calls prog 174 #[v] W (lH x W):=by
 obtain⟨R,U,J,X,r,t,s,D,fE,E,A,C,B,rfl⟩:=w.bg;have q:=jh (KI (w.same (ni (aK (.cells #[.i R,.i U,.i J,.string X,.slice r t s,.slice D fE E,.slice A C B] 36)))) I);clear w I
 by_cases a:dS (dR x)=0
 .have o:Hid (∀(j:bx) (u:cg),bI (λ_=>True) j (dR x) u->Calls prog 203 #[u] j λe F=>e =.returned (.tuple #[.string ⟨(encTr (dR x)).toArray⟩,.i 0])/\cm j F none):=λj u h=>Ju (h.ae (λb y _=>y)) a;have k:=jh a;have H:(encTr (dR x)).length<=64500:=by
   have⟨M,h2⟩:=iV a;have:=tX 1 _ M od;omega
  unfold lH;clear a;unfold bg at *;go_enter func174,ntmps174;go_wp2_with fail;refine q.mono ?_;rintro e G ⟨d,u,rfl,c⟩;have m:=jh (o G u (c.ae (λ_ _ _=>trivial)));obtain⟨S,V,pu,Y,K,T,L,rfl⟩:=c.af;have l:=jh (aJ (aK _) d);clear d c o q;unfold af at *;go_wp2_with fail;refine m.mono ?_;rintro e Z ⟨rfl,f⟩;have g:=jh (aJ l f);have P:(⟨(encTr (dR x)).toArray⟩:bo).size=(encTr (dR x)).length:=by simp[ByteArray.size]
  have n:=jh (Y7 (encTr (dR x)));clear f m;have p:Hid (dS (dR x)=0):=k.out
  by_cases O:(encTr (dR x)).length<=199
  .have z:¬(200:Int)<1+((encTr (dR x)).length:Int):=by omega
   have Q:IntKind.i64.wrap (1+((encTr (dR x)).length:Int))=1+((encTr (dR x)).length:Int):=by rw[qb1];omega
   go_wp2_with fail;go_ret2;refine⟨g,.inr (.inr ⟨p,O,?_⟩)⟩;rw[<-n.out];rfl
  .have z:(200:Int)<1+((encTr (dR x)).length:Int):=by omega
   have Q:IntKind.i64.wrap (1+((encTr (dR x)).length:Int))=1+((encTr (dR x)).length:Int):=by rw[qb1];omega
   go_wp2_with fail;go_ret2;exact⟨g,.inr (.inl ⟨p,od,rfl⟩)⟩
 .have o:Hid (∀(j:bx) (u:cg),bI (λ_=>True) j (dR x) u->Calls prog 203 #[u] j λe F=>e =.returned (.tuple #[.string ⟨#[]⟩,.i (dS (dR x))])/\cm j F none):=λj u h=>Ni (h.ae (λb y _=>y)) od a;have k:=jh a;have N:(dS (dR x)==0)=false:=by simpa using a
  unfold lH;clear a;unfold bg at *;go_enter func174,ntmps174;go_wp2_with fail;refine q.mono ?_;rintro e G ⟨d,u,rfl,c⟩;have m:=jh (o G u (c.ae (λ_ _ _=>trivial)));obtain⟨S,V,pu,Y,K,T,L,rfl⟩:=c.af;have l:=jh (aJ (aK _) d);clear d c o q;unfold af at *;go_wp2_with fail;refine m.mono ?_;rintro e Z ⟨rfl,f⟩;have g:=jh (aJ l f);clear f m;go_wp2_with fail;go_ret2;exact⟨g,.inl ⟨k,rfl⟩⟩
def lH.up{x:Va}{W a:bx}{e:Ending}{w':bx}(h:lH x a e w')(b:cm W a none):lH x W e w':=⟨aJ b h.1,h.2⟩
def lH.form{x:Va}{W:bx}{e:Ending}{w':bx}(h:lH x W e w'):∃s n,e =.returned (.tuple #[.string s,.i n]):=by rcases h.2 with⟨_,h⟩|⟨_,_,h⟩|⟨_,_,h⟩<;>exact⟨_,_,h⟩
