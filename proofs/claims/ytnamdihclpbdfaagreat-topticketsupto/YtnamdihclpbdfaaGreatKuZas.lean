import Derived.Test.YtnamdihclpbdfaaGreatKuZar
namespace Go.Proofs.YtnamdihclpbdfaaGreat
set_option linter.all false
open Go.Proofs.Tryz
set_option maxRecDepth 100000
set_option maxHeartbeats 4000000
open Pe
section
variable {c:Mc}{m:Ma}{ps:Nat->Ma->Prop}
def HO.node{f:FuncId}{t:Tr}{o:Go.Proofs.YtnamdihclpbdfaaGreat.Out}(q:okN t)(j:∀(args:Array cm) (w:cg),(callFunc f args).run prog w =.ok (.enter f args) w)
 (h:∀O w k n s a l d,dm c.B O w c.mb c.en c.aC m->bI (λb=>¬O b) w t (af k n t.p0 s a l d)->Calls prog f #[.po (c.mb),af k n t.p0 s a l d] w (jK c.B O w c.mb c.en c.aC o)):HO c m f [ndA t] o :=
 HO.of j λO w r i g=>by
  match r,g with
  | [v],⟨g,_⟩ =>
   have e:=oK q g;obtain⟨k,n,p,s,a,l,d,rfl⟩:=e.af;obtain⟨_,_,rfl,_⟩:=vo e;exact h O w k n s a l d i e
def Gf{α:Type}{l:List α}{i:Nat}{v:α}(h:l[i]?=some v):l=l.take i++v::l.drop (i+1)/\(l.take i).length=i:=by obtain⟨a,rfl⟩:=qT.1 h;exact⟨by rw[List.getElem_cons_drop,qc6],ov⟩
def Ta{t:Tr}(e:t.p0=40\/t.p0=41\/t.p0=42\/t.p0=43\/t.p0=44)(J:okN t)(I:(t.p0=41\/t.p0=43\/t.p0=44)->0<t.args0.length)(P:Fn m)(b:p9 t m ≠ .stuck):HO c m 197 [ndA t] (p9 t m):=by
 obtain⟨m,s,rfl⟩:∃M s,m=sm M s:=⟨m,m.st,rfl⟩;have⟨N,u,U⟩:=P;have H:=bK func197;rcases e with e|e|e|e|e
 .have⟨K,S,L,T,R⟩:=t;obtain rfl:L=40:=e;rcases s with _|⟨a,s⟩
  .exact absurd rfl b
  simp only[p9,Tr.p0,↓reduceIte]at b|-;exact Ol [sm m s] [] func197 [tk m a s 0] (ob:=[]) oe (λx Q=>Q)
 .unfold p9 at b|-;simp only[e,Int.reduceEq,↓reduceIte]at b|-
  by_cases g:1<=(dK t 0).n0
  .simp only[g,↓reduceIte]at b|-
   cases h:s[(dK t 0).n0.toNat - 1]? with
   | none=>rw[h]at b;exact absurd rfl b
   | some v =>
    simp only[h]at b|-;have⟨F,G⟩:=Gf h;refine HO.node J H λO w k n z a l d j f=>?_;rw[e]at f|-;exact QJ f (I (.inl e)) (by rw[G];omega) j F b u
  .simp only[g,↓reduceIte]at b;exact absurd rfl b
 .have⟨K,S,L,T,R⟩:=t;obtain rfl:L=42:=e;rcases s with _|⟨⟨k,n,i,z,r,y,d⟩,_|⟨⟨B,n1,A,E,C,D,o⟩,s⟩⟩
  .exact absurd rfl b
  .exact absurd rfl b
  simp only[p9,Tr.p0,Int.reduceEq,↓reduceIte]at b|-;exact eH [sm m (.mk B n1 A E C D o::s),sm m s] func197 [tk m (.mk k n i z r y d) (.mk B n1 A E C D o::s) 0,tk m (.mk B n1 A E C D o) s 1,pt m s [.mk B n1 A E C D o,.mk k n i z r y d] 2 ⟨N.2.1,N.1,trivial⟩ b (OU u)]
 .unfold p9 at b|-;simp only[e,Int.reduceEq,↓reduceIte]at b|-
  by_cases g:0<=(dK t 0).n0
  .simp only[g,↓reduceIte]at b|-
   cases h:s[(dK t 0).n0.toNat]? with
   | none=>rw[h]at b;exact absurd rfl b
   | some v =>
    simp only[h]at b|-;have⟨F,G⟩:=Gf h;refine HO.node J H λO w k n z a l d j f=>?_;rw[e]at f|-;have:=QK f (I (.inr (.inl e))) (by rw[G];omega) j F u;rw[<-jg5]at this;exact this
  .simp only[g,↓reduceIte]at b;exact absurd rfl b
 .unfold p9 at b|-;simp only[e,Int.reduceEq,↓reduceIte]at b|-;rcases s with _|⟨v,s⟩
  .exact absurd rfl b
  simp only at b|-
  by_cases g:0<=(dK t 0).n0/\(dK t 0).n0<=s.length
  .simp only[g,and_self,↓reduceIte]at b|-;refine HO.node J H λO w k n z a l d j f=>?_;rw[e]at f|-;exact QL (m:=sm m (v::s)) (v:=v) (p:=s.take (dK t 0).n0.toNat) (q:=s.drop (dK t 0).n0.toNat) f (I (.inr (.inr e))) vc j (by rw[qc6]) u
  .simp only[g,↓reduceIte]at b;exact absurd rfl b
def Tf{t:Tr}(f:t.p0=88\/t.p0=89\/t.p0=90\/t.p0=91\/t.p0=92)(A:okN t)(Y:t.p0=88->∃a,t.args0=[a]/\fu a)(C:bD c.en.self/\bD c.en.sender/\bD c.en.amount/\bD c.en.balance)(x:Fn m)(b:iw c.en t m ≠ .stuck):HO c m 206 [ndA t] (iw c.en t m):=by
 rcases f with f|f|f|f|f
 rotate_left
 .exact HO.node A (bK func206) λO w k n z a l d h J=>by rw[f];exact RD f C.1 h rfl b x.st
 .exact HO.node A (bK func206) λO w k n z a l d h J=>by rw[f];exact RF f C.2.1 h rfl b x.st
 .exact HO.node A (bK func206) λO w k n z a l d h J=>by rw[f];exact RG f C.2.2.1 h rfl b x.st
 .exact HO.node A (bK func206) λO w k n z a l d h J=>by rw[f];exact RH f C.2.2.2 h rfl b x.st
 obtain⟨m,s,rfl⟩:∃M s,m=sm M s:=⟨m,m.st,rfl⟩;have⟨I,W,h3⟩:=x;have⟨L,Z,tp,tz,ta⟩:=t;obtain rfl:tp=88:=f;obtain⟨⟨P,Q,R,S,N⟩,rfl,K⟩:=Y rfl;have T:=tK A.2.1 K;have U:=uE K;rcases s with _|⟨⟨k,n,i,z,r,y,d⟩,_|⟨⟨E,n1,D,H,F,G,B⟩,_|⟨⟨p,g,o,v,q,u,j⟩,s⟩⟩⟩
 .exact absurd rfl b
 .exact absurd rfl b
 .exact absurd rfl b
 have e:iw c.en (.nd L Z 88 tz [.nd P Q R S N]) (sm m (.mk k n i z r y d :: .mk E n1 D H F G B :: .mk p g o v q u j::s))=bz (sm m s) [.mk 8 n1 g ⟨#[]⟩ [.mk k n i z r y d] [kreadT (.nd P Q R S N)] []]:=by simp only[iw,Tr.p0,Int.reduceEq,↓reduceIte];rfl
 rw[e]at b|-;clear e K;generalize kreadT (.nd P Q R S N)=X at T b U|-;have⟨X,V⟩:=X;exact eH [sm m (.mk E n1 D H F G B :: .mk p g o v q u j::s),sm m (.mk p g o v q u j::s),sm m s] func206 [tk m (.mk k n i z r y d) (.mk E n1 D H F G B :: .mk p g o v q u j::s) 0,tk m (.mk E n1 D H F G B) (.mk p g o v q u j::s) 1,tk m (.mk p g o v q u j) s 2,up T,YV m s 8 n1 g ⟨#[]⟩ 7 2 0 [.mk k n i z r y d] [.nd X V] [] 3 ⟨⟨i64,I.2.1.1.2.1,I.2.2.1.1.2.1,ot⟩,⟨I.1,trivial⟩,⟨U,trivial⟩,trivial⟩ (.inl rfl) (.inl rfl) (.inr rfl) b (Zu W)]
def VH (x:Va):Prop:=(∀s,oz x=some s->Hd ⟨227,[pF x],.rz [.one (.d (.v (.string s))),iA 0]⟩)/\(oz x=none->∃e,e≠0/\Hd ⟨227,[pF x],.rz [.one (.d (.v (.string ⟨#[]⟩))),iA e]⟩)
def SG (T:Ty) (s:bp):Prop:=Hd ⟨228,[tyA T,.one (.d (.v (.string s)))],match jw T s.toList with|some x=>.rz [pF x,iA 0]|none=>.rz [pF zeroVa,iA 1]⟩
def IB{s:bp}(h:s.size<=1000):okV (di s):=⟨⟨i64,i64,i64,ZS⟩,trivial,trivial,trivial⟩
def Ji{x:Va}{s:bp}(h:oz x=some s):s.size<=200:=by
 unfold oz at h;split at h
 .simp only[qq]at h;subst h;show (5::encTr (dR x)).toArray.size<=200;simp;omega
 .cases h
def Vs{s:ao}{p q:Int}{t:bp}{ta:aE}{k n i:Int}{z:bp}{r:ao}{y:aw}{d:aE}{f g e:Int}{a:bp}{j:ao}{l:aw}{b:aE}{o:Go.Proofs.YtnamdihclpbdfaaGreat.Out}(w:z.size<=1000)(x:a.size<=1000)(h:¬200<z.size+a.size)
 (hp:HO c (sm m s) 207 [.one (.d (.s 7 (vasD [di (z++a)])))] o):HO c (sm m (.mk k n i z r y d :: .mk f g e a j l b::s)) 204 [ndA (.nd p q 80 t ta)] o:=by
 have u:(z++a).size=z.size+a.size:=ByteArray.size_append;exact sI [sm m (.mk f g e a j l b::s),sm m s] [(44,.one (.d (.v (.string (z++a))))),(47,bA false)] func204 [tk m (.mk k n i z r y d) (.mk f g e a j l b::s) 0,tk m (.mk f g e a j l b) s 1,up (Pq (z++a)),pu hp 2]
  (ob:=[(if z.size+a.size<=9223372036854775807 then some (AV.of (.one (.d (.v (.string (z++a))))))else none)=some (AV.of (.one (.d (.v (.string (z++a)))))),tl (decide ((200:Int)<((z++a).size:Nat))) false])
  (by simp only[kl,qf2,or_false,forall_eq_or_imp,forall_eq];exact⟨if_pos od,zZ (df od)⟩)
def Vt{s:ao}{a e:Int}{f:bp}{ta:aE}{k n i:Int}{z u:bp}{r:ao}{y:aw}{d:aE}{o:Go.Proofs.YtnamdihclpbdfaaGreat.Out}(b:Hd ⟨227,[pF (.mk k n i z r y d)],.rz [.one (.d (.v (.string u))),iA 0]⟩)
 (hp:HO c (sm m s) 207 [.one (.d (.s 7 (vasD [di u])))] o):HO c (sm m (.mk k n i z r y d::s)) 204 [ndA (.nd a e 81 f ta)] o :=
 eH [sm m s] func204 [tk m (.mk k n i z r y d) s 0,up b,up (Pq u),pu hp 1]
def UA {α:Type}(o:Option α) (f:α->Go.Proofs.YtnamdihclpbdfaaGreat.Out) (n:Go.Proofs.YtnamdihclpbdfaaGreat.Out):Go.Proofs.YtnamdihclpbdfaaGreat.Out:=match o with
 | some x=>f x
 | none=>n
def NK(F:bp->Go.Proofs.YtnamdihclpbdfaaGreat.Out)(N:Go.Proofs.YtnamdihclpbdfaaGreat.Out)(o:Option bp):(match o with|some t=>F t|none=>N)=UA o F N:=by cases o<;>rfl
def D8{α:Type}(x:α)(f:α->Go.Proofs.YtnamdihclpbdfaaGreat.Out)(n:Go.Proofs.YtnamdihclpbdfaaGreat.Out):UA (some x) f n=f x:=rfl
def aeQ{t:Tr}(hT:∀x∈m.st,(dR x).size<=301->VH x)(hU:∀a,fu a->∀x∈m.st,x.s.size<=1000->SG (kreadT a) x.s)
 (hp:t.p0=45\/t.p0=80\/t.p0=81\/t.p0=82\/t.p0=83) (ht:okN t) (hz:t.size<=1000) (h45:t.p0=45->∃a b,t.args0=[a,b]/\fu a) (h82:t.p0=82->∃a,t.args0=[a]/\fu a/\∀x∈m.st.head?,x.s.size<=1000) (h80:t.p0=80->∀x∈m.st.take 2,x.s.size<=1000)
 (hf:Fn m) (hne:jQ t m ≠ .stuck) (hB:∀T s x,jw T s=some x->okV x) (hB2:∀T s x,jf T s=some x->okT T->okN s->okV x):HO c m 204 [ndA t] (jQ t m):=by
 by_cases E:t.p0=83
 .unfold jQ at hne|-;simp only[E,Int.reduceEq,↓reduceIte]at hne|-
  cases hs:m.st with
  | nil=>rw[hs]at hne;exact absurd rfl hne
  | cons x st =>
   exact HO.node ht (bK func204) λO w k n z a l d hM hL=>by rw[E];exact R9 hM hs
 replace hp:t.p0=45\/t.p0=80\/t.p0=81\/t.p0=82:=od
 obtain⟨m,s,rfl⟩:∃M s,m=sm M s:=⟨m,m.st,rfl⟩;have⟨h1,F,h3⟩:=hf;have⟨C,Q,tp,R,ta⟩:=t;rcases (hp:tp=45\/tp=80\/tp=81\/tp=82)with rfl|rfl|rfl|rfl
 .have⟨⟨j,p,q,A,g⟩,⟨U,V,W,Y,S⟩,e,H⟩:=h45 rfl;obtain rfl:ta=_:=e;have D:=tK ht.2.1 H;have ox:=uE H
  cases J:jf (kreadT (.nd j p q A g)) (.nd U V W Y S)with
  | none =>
   have e:jQ (.nd C Q 45 R [.nd j p q A g,.nd U V W Y S]) (sm m s)=(match jf (kreadT (.nd j p q A g)) (.nd U V W Y S)with|some v=>bz (sm m s) [v]|none=>.stuck):=by simp only[jQ,Tr.p0,↓reduceIte];rfl
   rw[e,J]at hne;exact absurd rfl hne
  | some v =>
   have e:jQ (.nd C Q 45 R [.nd j p q A g,.nd U V W Y S]) (sm m s)=(match jf (kreadT (.nd j p q A g)) (.nd U V W Y S)with|some v=>bz (sm m s) [v]|none=>.stuck):=by simp only[jQ,Tr.p0,↓reduceIte];rfl
   rw[e,J]at hne|-;simp only at hne|-;have hP:=Pv ox ht.2.2.1 (by simp only[Tr.size,sizes]at hz|-;omega) J;have G:=hB2 _ _ _ J ox ht.2.2.1;clear e J H;generalize kreadT (.nd j p q A g)=X at D hne ox hP|-;have⟨X,XA⟩:=X;have⟨k,n,i,z,r,y,d⟩:=v;exact eH [] func204 [up D,up hP,pt m s [.mk k n i z r y d] 0 ⟨G,trivial⟩ hne F]
 all_goals
  rcases s with _|⟨a,s⟩
  .exact absurd rfl hne
  have⟨q1,q2⟩:=h1;have⟨k,n,i,z,r,y,d⟩:=a;replace F:=GZ F
 .rcases s with _|⟨b,s⟩
  .exact absurd rfl hne
  have z1:z.size<=1000:=h80 rfl (.mk k n i z r y d) oe;have z2:b.s.size<=1000:=h80 rfl b oe;have⟨L,n1,K,f,N,P,I⟩:=b;have z2:f.size<=1000:=z2;have hs:(z++f).size=z.size+f.size:=ByteArray.size_append;have e:jQ (.nd C Q 80 R ta) (sm m (.mk k n i z r y d :: .mk L n1 K f N P I::s))=if 200<z.size+f.size then .no 13 (sm m (.mk k n i z r y d :: .mk L n1 K f N P I::s))else bz (sm m s) [di (z++f)]:=by simp only[jQ,Tr.p0,Int.reduceEq,↓reduceIte];rfl
  rw[e]at hne|-;have ab:(if z.size+f.size<=9223372036854775807 then some (AV.of (.one (.d (.v (.string (z++f))))))else none)=some (AV.of (.one (.d (.v (.string (z++f)))))):=by rw[oc]
  by_cases h:200<z.size+f.size
  .rw[if_pos h];exact Ol [sm m (.mk L n1 K f N P I::s),sm m s] [(44,.one (.d (.v (.string (z++f))))),(47,bA true)] func204 [tk m (.mk k n i z r y d) (.mk L n1 K f N P I::s) 0,tk m (.mk L n1 K f N P I) s 1]
    (ob:=[(if z.size+f.size<=9223372036854775807 then some (AV.of (.one (.d (.v (.string (z++f))))))else none)=some (AV.of (.one (.d (.v (.string (z++f)))))),tl (decide ((200:Int)<((z++f).size:Nat))) true])
    (by simp only[kl,qf2,or_false,forall_eq_or_imp,forall_eq];exact⟨ab,zZ (dt od)⟩) (λx D=>by cases D;exact⟨ot,rfl,rfl⟩)
  .rw[if_neg h]at hne|-;exact Vs z1 z2 h (IX (c:=c) (m:=sm m s) (l:=[di (z++f)]) 7 ⟨IB od,trivial⟩ (.inl rfl) hne (GZ (m:=m) F))
 .have e:jQ (.nd C Q 81 R ta) (sm m (.mk k n i z r y d::s))=if (dR (.mk k n i z r y d)).size<=301 then UA (oz (.mk k n i z r y d)) (λt=>bz (sm m s) [di t]) (.no 13 (sm m (.mk k n i z r y d::s)))else .stuck:=by
   simp only[jQ,Tr.p0,Int.reduceEq,↓reduceIte];exact congrArg (λx=>if (dR (.mk k n i z r y d)).size<=301 then x else .stuck) (NK (λt=>bz (sm m s) [di t]) (.no 13 (sm m (.mk k n i z r y d::s))) (oz (.mk k n i z r y d)))
  rw[e]at hne|-;clear e
  by_cases h:(dR (.mk k n i z r y d)).size<=301
  .have B:=hT _ (.head _) h;rw[if_pos h]at hne|-;have aa:=@Ji (.mk k n i z r y d)
   cases Z:oz (.mk k n i z r y d)with
   | some u =>
    rw[Z,D8]at hne;rw[D8];have hu:=aa Z;exact Vt (B.1 u Z) (IX (c:=c) (m:=sm m s) (l:=[di u]) 7 ⟨IB od,trivial⟩ (.inl rfl) hne F)
   | none =>
    have⟨e,he,hE⟩:=B.2 Z;rw[show UA none (λt=>bz (sm m s) [di t]) (.no 13 (sm m (.mk k n i z r y d::s))) =.no 13 (sm m (.mk k n i z r y d::s)) from rfl];exact Ol [sm m s] [(61,bA true)] func204 [tk m (.mk k n i z r y d) s 0,up hE] (fE (nt he)) (λx D=>by cases D;exact⟨ot,rfl,rfl⟩)
  .rw[if_neg h]at hne;exact absurd rfl hne
 .have⟨⟨j,p,q,A,g⟩,e,H,zx⟩:=h82 rfl;obtain rfl:ta=_:=e;have D:=tK ht.2.1 H;have B:=hU _ H _ (.head _) (zx _ rfl);have e:jQ (.nd C Q 82 R [.nd j p q A g]) (sm m (.mk k n i z r y d::s))=(match jw (kreadT (.nd j p q A g)) z.toList with|some v=>bz (sm m s) [aV v]|none=>bz (sm m s) [noneV]):=by simp only[jQ,Tr.p0,Int.reduceEq,↓reduceIte];rfl
  rw[e]at hne|-;clear e;unfold SG at B;have hb:=hB (kreadT (.nd j p q A g)) z.toList;simp only[Va.s]at B;generalize jw (kreadT (.nd j p q A g)) z.toList=o at B hne hb|-;clear H;generalize kreadT (.nd j p q A g)=X at D B|-;have⟨X,XA⟩:=X
  cases o with
  | some v =>
   have G:=hb v rfl;simp only at hne B|-;have⟨k3,n3,i3,z3,r3,t3,d3⟩:=v;exact eH [sm m s] func204 [tk m (.mk k n i z r y d) s 0,up D,up B,up (mU (.mk k3 n3 i3 z3 r3 t3 d3)),pt m s [aV (.mk k3 n3 i3 z3 r3 t3 d3)] 1 ⟨pO G,trivial⟩ hne F]
  | none =>
   simp only at hne B|-;exact eH [sm m s] func204 [tk m (.mk k n i z r y d) s 0,up D,up B,up H_none,pt m s [noneV] 1 ⟨ok_none,trivial⟩ hne F]
end
open Go.ChangeShapes Go.WideShapes Go.ChangeAt Go.RowKit
def Zf (k n p:Int) (s:bp) (a:X):A1:=.agg [.d (.v (.i k)),.d (.v (.i n)),.d (.v (.i p)),.d (.v (.string s)),a]
def AL(p:Int)(m:Nat)(es:List bd):Hd ⟨256,[iA p,.one (.d (.s m es))],.of (Zf 2 0 p ⟨#[]⟩ (.d (.s m es)))⟩:=aF func256 []
def AJ(n a b:Int):Hd ⟨257,[iA n,iA a,iA b],.of (iA (if n=0 then a else b))⟩:=by
 by_cases h:n=0
 .rw[if_pos h];exact runT func257 [(8,bA true)] [] (ob:=[jJ (decide (n=0)) true]) (al (eT (by simpa using h)) al0)
 .rw[if_neg h];exact runT func257 [(8,bA false)] [] (ob:=[jJ (decide (n=0)) false]) (al (eT (by simpa using h)) al0)
def Xp{ok:br}{w:cg}{k n p:Int}{s:bp}{m:Nat}{l:aE}{v:cm}(hm:m=5\/l=[])(h:iZ (λ_=>none) ok w (.of (Zf k n p s (.d (.s m (ndsD l))))) v):iZ (λ_=>none) ok w (.of (ndA (.nd k n p s l))) v:=by
 have⟨r,e,h⟩:=h
 match r,h with
 | [a,b,c,d,f],⟨i,j,o,q,g,_⟩=>exact⟨_,e,i,j,o,q,by rcases hm with rfl|rfl;exact g;exact gG g,trivial⟩
def ndS (s k:Nat) (xs:aE) (j:Nat):St:=match xs with
 | []=>[((0,s),.of nilA)]
 | _::_=>[((0,s),.of (.one (.g k 5 j))),((k+1,0),.kv 62 5 (ndsD xs))]
def elS (l xs:aE) (j:Nat):St:=[((0,6),.of (CW l)),((0,7),lW (ndsD l).length),((0,8),.of (jA j))]++ndS 3 3000016 xs j
def Qk{xs:aE}{j:Nat}(t:Tr)(a:xs.length=j)(h:j<=50000000):rowsLe ((ndsD xs).take j++[ndD t]) (ndsD (xs++[t]))/\zV 64 j (ndsD xs) [ndD t]:=by subst a;refine⟨?_,iL (by rw[Hf];omega) oe (by have⟨_,_,_,_,_⟩:=t;rfl) ov ot⟩;rw[ux (by rw[Hf];omega),ndsD_map,ndsD_map,qa0];exact rows_refl _
def abt{l:aE}(r:l.length<=50000000):∀(m:aE) (j:Nat),j<=l.length->l.drop j=m->vO prog f258.ntmps ⟨gF f258,elS l ((l.take j).map eltT) j,2,ndS 3 3000016 (l.map eltT) l.length⟩
 | [],j,f,d=>by obtain rfl:j=l.length:=jh7 f (by have:=congrArg List.length d;simp at this;omega);have t:mD (aQ (decide (Int.ofNat l.length<((ndsD l).length:Int)))) (bA false):=wH (by simp[Hf]);rw[je6];cases l.map eltT<;>exact xQ (e:=1) [(9,bA false)] [] (al t al0)
 | .nd k n p s a::m,j,f,d=>by
  have g:j<l.length:=qb4 λh=>by rw[qb6 od]at d;cases d
  have o:l[j]?=some (.nd k n p s a):=by rw[km g]at d;rw[qu g];exact congrArg some (qe3 d).1
  have i:=abt r m (j+1) g (by rw[km g]at d;exact (qe3 d).2);have c:((l.take j).map eltT).length=j:=ov
  rw[show (l.take (j+1)).map eltT=(l.take j).map eltT++[.nd k n 28 s a] by rw[jc1,o];simp[eltT]]at i;generalize (l.take j).map eltT=w at i c|-;have⟨u,v⟩:=Qk (.nd k n 28 s a) c od;have q:=al (is_lt (show Int.ofNat j<((ndsD l).length:Int) by simp[Hf];omega)) (al (WV o) (al u (al v (al (yY (zF (b:=Int.ofNat (j+1)) oe ov ov):mD (lW (IntKind.i64.wrap (Int.ofNat j+1))) (jA (j+1))) al0))))
  cases w with
  | nil=>obtain rfl:j=0:=c.symm;exact LG [(9,bA true),(10,.one (.e (ndD (.nd k n p s a)) 0)),(2000016,CW [.nd k n 28 s a]),(17,jA (0+1))] [] i q
  | cons y x=>exact LG [(9,bA true),(10,.one (.e (ndD (.nd k n p s a)) 0)),(2000016,CW ((y::x)++[.nd k n 28 s a])),(17,jA (j+1))] [] i q
def Wz{l:aE}(e:l.length<=50000000):Hd ⟨258,[CW l],.of (CW (l.map eltT))⟩:=by
 have b:=abt e l 0 (yv _) rfl;have c:=wI (S:=elS l [] 0) (q:=gF f258=gF f258) rfl (ps:=[]) al0
 cases l with
 | nil=>exact (Ce func258 [] [_] (λx a=>by rw[qv]at a;subst a;exact b) [] c (res:=.of nilA)).conv (λ_ _ _ h=>h) λ_ _ _ h=>gG h
 | cons y d=>exact Ce func258 [] [_] (λx a=>by rw[qv]at a;subst a;exact b) [] (jX c (al (show (y::d).length=(ndsD ((y::d).map eltT)).length by rw[Hf,qc3]) al0))
def Mx(k n a:Int)(s:bp)(az:ao)(ty:aw)(co:aE){l:aE}(hl:l.length<=50000000):Hd ⟨250,[pF (.mk k n a s az ty co),CW l],.of (ndA (aL (.mk k n a s az ty co) l))⟩:=by
 have hE:=Wz hl;have hl0:(if ((ndsD l).length:Int)=0 then (27:Int)else 26)=if l.length=0 then 27 else 26:=by rw[ndsD_map,qc3];simp
 have cv:∀{k' n' p':Int} {s':bp} (m:Nat) {l':aE},aL (.mk k n a s az ty co) l =.nd k' n' p' s' l'->m=5\/l'=[]->Hd ⟨250,[pF (.mk k n a s az ty co),CW l],.of (Zf k' n' p' s' (.d (.s m (ndsD l'))))⟩->Hd ⟨250,[pF (.mk k n a s az ty co),CW l],.of (ndA (aL (.mk k n a s az ty co) l))⟩:=λm _ e hm h=>by rw[e];exact h.conv (λ_ _ _ h=>h) (λ_ _ _ h=>Xp hm h)
 by_cases h1:k=1
 .subst h1;exact cv 0 rfl (.inr rfl) (aF func250 [⟨_,AL 20 0 []⟩])
 by_cases h2:k=2
 .subst h2;exact cv 0 rfl (.inr rfl) (aF func250 [⟨_,AJ n 22 21⟩,⟨_,AL (if n=0 then 22 else 21) 0 []⟩])
 by_cases h3:k=3\/k=4\/k=5\/k=7
 .rcases h3 with rfl|rfl|rfl|rfl<;>exact cv 0 rfl (.inr rfl) (aF func250 [])
 by_cases h6:k=6
 .subst h6;exact cv 0 rfl (.inr rfl) (aF func250 [])
 by_cases h9:k=9
 .subst h9;exact cv 5 (p':=if ((ndsD l).length:Int)=0 then 27 else 26) (by rw[hl0];rfl) (.inl rfl) (aF func250 [⟨_,AJ (ndsD l).length 27 26⟩,⟨_,AL (if ((ndsD l).length:Int)=0 then 27 else 26) 5 (ndsD l)⟩])
 by_cases h11:k=11
 .subst h11;exact cv 5 rfl (.inl rfl) (aF func250 [⟨_,AL 23 5 (ndsD l)⟩])
 by_cases h12:k=12
 .subst h12;exact cv 5 rfl (.inl rfl) (aF func250 [⟨_,AJ n 24 25⟩,⟨_,AL (if n=0 then 24 else 25) 5 (ndsD l)⟩])
 by_cases h10:k=10
 .subst h10;exact cv 5 rfl (.inl rfl) (aF func250 [])
 by_cases h13:k=13
 .subst h13;exact cv 5 rfl (.inl rfl) (aF func250 [⟨_,hE⟩])
 .have e:aL (.mk k n a s az ty co) l =.nd (-1) 0 0 ⟨#[]⟩ []:=by simp[aL,Va.k,h1,h2,h3,h6,h9,h11,h12,h10,h13]
  have q:∀j:Int,k≠j->nq k j:=λj h=>oL h;exact cv 0 e (.inr rfl) (runT func250 [(8,fA),(11,fA),(17,fA),(18,fA),(19,fA),(20,fA),(25,fA),(30,fA),(37,fA),(41,fA),(48,fA),(52,fA)] [] (ob:=[nq k 1,nq k 2,nq k 3,nq k 4,nq k 5,nq k 7,nq k 6,nq k 9,nq k 11,nq k 12,nq k 10,nq k 13]) (by simp only[kl,qf2,or_false,forall_eq_or_imp,forall_eq];refine⟨q _ h1,q _ h2,q _ ?_,q _ ?_,q _ ?_,q _ ?_,q _ h6,q _ h9,q _ h11,q _ h12,q _ h10,q _ h13⟩<;>omega))
def Uz{l:aE}(h:okNs l):okNs (l.map eltT):=okNs_at.2 λt b=>by obtain⟨u,c,rfl⟩:=kB.1 b;have:=okNs_at.1 h u c;have⟨k,n,p,s,a⟩:=u;exact⟨⟨this.1.1,this.1.2.1,i64,this.1.2.2.2⟩,this.2⟩
def Yn{x:Va}(c:okV x){l:aE}(hk:okNs l):okN (aL x l):=by
 have⟨k,n,a,s,g,f,e⟩:=x;have⟨⟨_,d,_,b⟩,_⟩:=c;unfold aL gW
 repeat' split
 all_goals first
  | exact⟨⟨i64,i64,i64,yv _⟩,trivial⟩
  | exact⟨⟨i64,i64,i64,yv _⟩,hk⟩
  | exact⟨⟨i64,d,i64,yv _⟩,trivial⟩
  | exact⟨⟨i64,i64,i64,b⟩,trivial⟩
  | exact⟨⟨i64,i64,i64,yv _⟩,Uz hk⟩
  | (refine⟨⟨i64,i64,?_,yv _⟩,?_⟩;split<;>exact i64;first|trivial|exact hk)
mutual
def okN_tell:∀(x:Va) (c:Nat),okV x->okN (jg c x).2
 | .mk k n a s b e d,c,h=>by rw[jg];exact Yn h (okNs_tell b (c+1) h.2.1)
def okNs_tell:∀(l:ao) (c:Nat),okVs l->okNs (dJ c l).2
 | [],_,_=>by rw[dJ];trivial
 | x::l,c,h=>by
  rw[dJ];split
  .trivial
  .exact⟨okN_tell x c h.1,okNs_tell l _ h.2⟩
end
def tells_len:∀(l:ao) (c:Nat),(dJ c l).2.length<=l.length
 | [],_=>by simp[dJ]
 | x::l,c=>by
  rw[dJ];split
  .simp
  .have:=tells_len l (jg c x).1;simpa using this
def ab5{x:Va}{i:Nat}{l:aE}(hi:i=5\/l=[])(e:l.length<=50000000):Hd ⟨250,[pF x,.one (.d (.s i (ndsD l)))],.of (ndA (aL x l))⟩:=by
 have⟨k,n,a,s,j,ty,co⟩:=x;have h:=Mx k n a s j ty co e;refine⟨tF func250 (nk:=yC _),λok w g f=>?_⟩
 match g,f with
 | [u,v],⟨c,b,_⟩=>exact h.runN rfl ok w [u,v] ⟨c,by rcases hi with rfl|rfl;exact b;exact gG b,trivial⟩
abbrev tlC:X:=.c 249 [800100,800101]
def tlH (c:Nat):Hp:=⟨[(800100,[.d (.v (.i (.ofNat c)))]),(800101,[tlC])],[]⟩
def TlH (x:Va):Prop:=∀c:Nat,c<=300->HX 249 [pF x,.one (.p 800100 0),.one (.p 800101 0)] (.of (ndA (jg c x).2)) (tlH c) (tlH (jg c x).1)
def vaB (x:Va):St:=[((4,0),.of (iA x.k)),((4,1),.of (iA x.n)),((4,2),.of (iA x.a)),((4,3),.of (.one (.d (.v (.string x.s))))),((4,4),.of (qi x.args)),((4,5),.of (dZ x.types)),((4,6),.of (CW x.code))]
def tlQ (x:Va) (xs:aE) (j c:Nat):St:=[((0,3),.of (.one (.p 3 0))),((0,4),.of (.one (.p 4 0))),((5,0),.of (iA 0)),((5,1),.of (iA 0)),((5,2),.of (iA 0)),((5,3),.of (.one (.d (.v (.string ⟨#[]⟩))))),((5,4),.of nilA),((800101,0),.of (jA c)),((800102,0),.of (.one tlC))]++vaB x++ndS 5 3000024 xs j
def tlS (x:Va) (l:ao) (xs:aE) (j c:Nat):St:=[((0,1),.of (.one (.p 800100 0))),((0,2),.of (.one (.p 800101 0))),((0,11),.of (qi l)),((0,12),lW (vasD l).length),((0,13),.of (jA j))]++tlQ x xs j c
abbrev tlL (β:Nat->Option Nat) (S:St) (q:St):Prop:=@vO (qh β) prog f249.ntmps ⟨gF f249,S,2,q⟩
def afc{x:Va}{az:ao}(D:az.length<=20000000)(H:∀y∈az,TlH y):∀(l:ao) (j:Nat),j<=az.length->az.drop j=l->∀(xs:aE) (c m:Nat),xs.length=j->c<=301->m=j+(dJ c l).2.length ->
 ∀β,tlL β (tlS x az xs j c) (tlQ x (xs++(dJ c l).2) m (dJ c l).1)
 | [],j,i,f,xs,c,m,q,E,g=>λβ=>by obtain rfl:j=az.length:=jh7 i (by have:=congrArg List.length f;simp at this;omega);have r:mD (aQ (decide (Int.ofNat az.length<((vasD az).length:Int)))) (bA false):=wH (by simp[qY]);rw[dJ]at g|-;obtain rfl:m=az.length:=g;rw[qc4];cases xs<;>exact fF (e:=1) [(14,bA false)] [] (al r al0)
 | .mk k n a s d ty co::l,j,i,f,xs,c,m,q,E,g=>λβ=>by
  have o:j<az.length:=qb4 λh=>by rw[qb6 od]at f;cases f
  have u:az[j]?=some (.mk k n a s d ty co):=by rw[km o]at f;rw[qu o];exact congrArg some (qe3 f).1
  have r:=is_lt (show Int.ofNat j<((vasD az).length:Int) by simp[qY];omega);rw[dJ]at g|-
  by_cases B:300<c
  .rw[if_pos B]at g|-;obtain rfl:m=j:=g;rw[qc4];cases xs<;>exact fF (e:=1) [(14,bA true),(15,.one (.e (vaD (.mk k n a s d ty co)) 0)),(18,bA true)] [] (al r (al (PT u) (al (is_lt (show (300:Int)<Int.ofNat c by simp;omega)) al0)))
  .rw[if_neg B]at g|-;have L:=tell_most (.mk k n a s d ty co) c od;have hF:=H _ (ka u) c od;have v:=afc (x:=x) D H l (j+1) o (by rw[km o]at f;exact (qe3 f).2) (xs++[(jg c (.mk k n a s d ty co)).2]) (jg c (.mk k n a s d ty co)).1 m (by simp[q]) od (by rw[g,js];omega) β;rw[qa3]at v;generalize K:jg c (.mk k n a s d ty co)=p at *;have⟨J,⟨w,z,p2,A,t⟩⟩:=p;have⟨F,G⟩:=Qk (.nd w z p2 A t) q od;have C:=al r (al (PT u) (al (wH (show ¬(300:Int)<Int.ofNat c by simp;omega)) (al F (al G (al (yY (zF (b:=Int.ofNat (j+1)) oe ov ov):mD (lW (IntKind.i64.wrap (Int.ofNat j+1))) (jA (j+1))) al0)))))
   cases xs with
   | nil=>obtain rfl:j=0:=q.symm;exact jC [(14,bA true),(15,.one (.e (vaD (.mk k n a s d ty co)) 0)),(18,bA false),(2000024,CW [.nd w z p2 A t]),(25,jA (0+1))] [⟨_,hF⟩] v C
   | cons y I=>exact jC [(14,bA true),(15,.one (.e (vaD (.mk k n a s d ty co)) 0)),(18,bA false),(2000024,CW ((y::I)++[.nd w z p2 A t])),(25,jA (j+1))] [⟨_,hF⟩] v C
mutual
def H_tl:∀x:Va,okV x->x.size<=20000000->TlH x
 | .mk k n a s b h f,d,B=>λc w=>by
  have e:=eP (.mk k n a s b h f);have z:=kS b;have g:=afc (x:=.mk k n a s b h f) (az:=b) (by simp only[Va.args]at e;omega) (H_tls b d.2.1 (by simp only[Va.args]at e;omega)) b 0 (yv _) rfl [] (c+1) _ rfl od rfl;have r:mD (lW (IntKind.i64.wrap (Int.ofNat c+1))) (jA (c+1)):=yY (zF oe ov ov);have j:=wI (S:=tlS (.mk k n a s b h f) b [] 0 (c+1)) (q:=gF f249=gF f249) rfl (ps:=[mD (lW (IntKind.i64.wrap (Int.ofNat c+1))) (jA (c+1))]) (al r al0);have A:=tells_len b (c+1);have hW:=λi o=>ab5 (x:=.mk k n a s b h f) (i:=i) (l:=(dJ (c+1) b).2) o (by simp only[Va.args]at e;omega);rw[jg];simp only[qe5,qb1]at g|-;generalize dJ (c+1) b=p at g hW|-;have⟨v,l⟩:=p;simp only at g hW|-;generalize aL (.mk k n a s b h f) l=t at hW|-;have⟨C,D,p2,E,u⟩:=t
  cases l with
  | nil=>exact bH func249 [(9,jA (c+1))] [_] [⟨_,hW 0 (.inr rfl)⟩] (λβ x d=>by rw[qv]at d;subst d;exact g β) j
  | cons y m=>exact bH func249 [(9,jA (c+1))] [_] [⟨_,hW 5 (.inl rfl)⟩] (λβ x d=>by rw[qv]at d;subst d;exact g β) (jX j (al (show (y::m).length=(ndsD (y::m)).length by rw[Hf]) al0))
def H_tls:∀l:ao,okVs l->vsizes l<=20000000->∀y∈l,TlH y
 | [],_,_=>λ_ h=>by cases h
 | x::l,a,c=>λy b=>by
  rw[vsizes]at c
  by_cases e:y=x
  .rw[e];exact H_tl x a.1 od
  .exact H_tls l a.2 od y (by rcases kl.1 b with h|h;exact absurd h e;exact h)
end
def VB{x:Va}(b:okV x)(d:x.size<=20000000):Hd ⟨242,[pF x],.of (ndA (dR x))⟩:=by have h:=((H_tl x b d 0 od).to 800100 3).to 800101 4;unfold dR;generalize jg 0 x=p at h|-;have⟨c,⟨i,j,p2,l,e⟩⟩:=p;have⟨k,n,a,s,f,m,g⟩:=x;exact aF func242 [⟨_,h⟩]
def acP{t:Tr}(hk:okN t)(l:t.size<=1000000):Hd ⟨241,[ndA t],.rz [.one (.d (.v (.string (if dS t=0 then ⟨(encTr t).toArray⟩else ⟨#[]⟩)))),iA (dS t)]⟩:=⟨tF func241,λok w j h=>by
 match j,h with
 | [v],⟨g,_⟩ =>
  have f:bI (· < w.heap.size) w t v:=(oK hk g).ae λb i _=>i
  by_cases a:dS t=0
  .rw[if_pos a,a];refine (Ju f a).mono ?_;rintro e k ⟨rfl,c⟩;exact⟨c,_,rfl,_,rfl,fI.v _,fI.v _,trivial⟩
  .rw[if_neg a];refine (Ni f od a).mono ?_;rintro e k ⟨rfl,c⟩;exact⟨c,_,rfl,_,rfl,fI.v _,fI.v _,trivial⟩⟩
def Zn{k n a H I p2:Int}{s J z:bp}{az:ao}{ty:aw}{co C:aE}(D:Hd ⟨242,[pF (.mk k n a s az ty co)],.of (ndA (.nd H I p2 J C))⟩)
 (hE:Hd ⟨241,[ndA (.nd H I p2 J C)],.rz [.one (.d (.v (.string z))),iA 0]⟩) (hz:z.size<=64500):Hd ⟨227,[pF (.mk k n a s az ty co)],.rz (if z.size<=199 then [.one (.d (.v (.string (⟨#[5]⟩++z)))),iA 0]else [.one (.d (.v (.string ⟨#[]⟩))),iA 4])⟩:=by
 have T:mD (lW (IntKind.i64.wrap (1+(z.size:Int)))) (iA (1+z.size)):=yY vl
 by_cases E:z.size<=199
 .rw[if_pos E];refine⟨tF func227,λok w U h=>?_⟩
  match U,h with
  | [v],⟨h,_⟩ =>
   have A:=jh λj p=>D.runN rfl ok j [v] ⟨p,trivial⟩;have t:=jh λj u p=>hE.runN rfl (λ_=>True) j [u] ⟨p,trivial⟩;have B:=jh h;have S:¬(200:Int)<1+(z.size:Int):=od
   have W:IntKind.i64.wrap (1+(z.size:Int))=1+(z.size:Int):=vl
   obtain⟨i,rfl,h⟩:=h
   match i,h with
   | [K,L,M,N,O,P,Q],_ =>
    have q:=jh (A (w.alloc (.cells #[K,L,M,N,O,P,Q] 29)) (gm.keep ⟨oe,λb R hk=>⟨hk,λo=>ke (ka4 _ _ R)⟩⟩ (λ_ _ e=>e) _ _ B));clear A;go_enter func227,ntmps227;go_wp2_with fail;refine q.mono ?_;rintro e V ⟨c,u,rfl,g⟩;have l:=jh (Lf.Zt (Lf.gb _) c);have r:=jh (t V u (gm.keep ⟨jj _,λ_ _ _=>⟨trivial,λ_=>rfl⟩⟩ (λ_ _ e=>e) _ _ g));obtain⟨i,rfl,_⟩:=g;clear c q t B;go_wp2_with fail;refine r.mono ?_;rintro e j ⟨f,u,rfl,i,rfl,g⟩
    match i,g with
    | [x,y],⟨F,G,_⟩ =>
     rw[bW F,bW G];have m:=jh (Lf.Zt l f);clear f F G r;go_wp2_with fail;go_ret2;exact⟨m,_,rfl,_,rfl,fI.v _,fI.v _,trivial⟩
 .rw[if_neg E];exact runT func227 [(17,iA (1+z.size)),(18,bA true)] [⟨_,D⟩,⟨_,hE⟩] (al T (al (is_lt (show (200:Int)<1+z.size by omega)) al0))
def acQ{x:Va}(h:okV x)(q:x.size<=20000000)(y:(dR x).size<=301):Hd ⟨227,[pF x],.rz (if dS (dR x)=0 then if (encTr (dR x)).length<=199 then [.one (.d (.v (.string ⟨(5::encTr (dR x)).toArray⟩))),iA 0]else [.one (.d (.v (.string ⟨#[]⟩))),iA 4]else [.one (.d (.v (.string ⟨#[]⟩))),iA (dS (dR x))])⟩:=by
 have m:=VB h q;have j:=acP (t:=dR x) (okN_tell x 0 h) od;generalize z:dR x=t at *;have⟨e,f,p2,i,b⟩:=t;have⟨k,n,a,s,r,A,u⟩:=x
 by_cases c:dS (.nd e f p2 i b)=0
 .have⟨o,w⟩:=iV c;have p:=tX 1 _ o od;rw[if_pos c,c]at j;have l:(⟨(encTr (.nd e f p2 i b)).toArray⟩:bp).size=(encTr (.nd e f p2 i b)).length:=by simp[ByteArray.size]
  have:=Zn m j od;rw[l,show (⟨#[5]⟩:bp)++⟨(encTr (.nd e f p2 i b)).toArray⟩=⟨((5:UInt8)::encTr (.nd e f p2 i b)).toArray⟩ by apply ByteArray.ext;simp[ByteArray.data_append]]at this;rw[if_pos c];exact this
 .rw[if_neg c]at j|-;generalize dS (.nd e f p2 i b)=g at *;exact runT func227 [(13,bA true)] [⟨_,m⟩,⟨_,j⟩] (al (oZ (xb c)) al0)
def mH (z:bp) (n e:Int):List X:=[.d (.v (.string z)),.d (.v (.i n)),.d (.v (.i e))]
def fK{f:FuncId}{b:Func}(g:prog.funcs[f]?=some b)(T:Hints)(d:HL){args:List A1}{res:AV}{c a:Hp}{ob:List Prop}
 (hob:∀p∈ob,p) (h:askedX (evX prog b (b.body.getD .skip) T [] (d.map (·.1)) args c a)=some ((res,(a.bx.map (λe=>some e.2),a.ls.map (λe=>some e.2))),[],(d.map (·.1)).map (λs=>s.need=s.need),ob):=by kernel_rfl)
 (hno:(@Sp.mk f args res mv0 fr0 ⟨c,a⟩).no=false:=by rfl) (hb:b.body.isSome:=by kernel_rfl) (hn:(b.name == "runtime.NumGoroutine")=false:=by kernel_rfl):HX f args res c a:=bH g T [] d oe hob h hno hb hn
def ny(z:bp)(n e x:Int):HB 253 (mH z n e) [iA x] (.rz []) (mH z n (if e=0 then x else e)):=by
 by_cases h:e=0
 .subst h;exact fK func253 [] [] al0
 .rw[if_neg h];exact fK func253 [(8,bA false)] [] (al (eT (zE h)) al0)
def lu (z:bp) (e:Int) (n:Nat):bp×bp×Int :=
 if z.size<n then (⟨#[]⟩,z,if e=0 then 1 else e)else if e=0 then (z.extract 0 n,z.extract n z.size,0)else (⟨#[]⟩,z,e)
def BQ(z:bp)(n e:Int)(k:Nat):HB 265 (mH z n e) [jA k] (.of (.one (.d (.v (.string (lu z e k).1))))) (mH (lu z e k).2.1 n (lu z e k).2.2):=by
 unfold lu
 by_cases h:z.size<k
 .rw[if_pos h];have hF:=ny z n e 1;have a:jJ (decide ((z.size:Int)<Int.ofNat k)) true:=eT (xb ov);have c:(if e=0 then 1 else e)≠0:=by split<;>omega
  generalize (if e=0 then (1:Int)else e)=d at *;have f:jJ (!decide (d=0)) true:=eT (by simp[c]);exact fK func265 [(12,bA true),(19,bA true)] [⟨_,hF⟩] (al a (al f al0))
 .rw[if_neg h];have a:jJ (decide ((z.size:Int)<Int.ofNat k)) false:=eT (zE ov)
  by_cases b:e=0
  .subst b;rw[if_pos rfl];have g:Sn z (some 0) (some k)=some (.of (.one (.d (.v (.string (z.extract 0 k)))))):=if_pos ⟨yv _,od⟩;have i:Sn z (some k) (some z.size)=some (.of (.one (.d (.v (.string (z.extract k z.size)))))):=if_pos ⟨od,jj _⟩;exact fK func265 [(12,bA false),(25,.one (.d (.v (.string (z.extract 0 k))))),(32,.one (.d (.v (.string (z.extract k z.size)))))] [] (al a (al g (al i al0)))
  .rw[if_neg b];have f:jJ (!decide (e=0)) true:=eT (by simp[b]);exact fK func265 [(12,bA false),(19,bA true)] [] (al a (al f al0))
def take_one(b:UInt8)(l:bw):(bs (b::l)).extract 0 1=bs [b]/\(bs (b::l)).extract 1 (bs (b::l)).size=bs l:=by rw[eQ];exact⟨TM _ 1 oe,TL (b::l) 1⟩
def zw{x:Int}{m:Nat}(h:x=(m:Int)):mD (kA .i64 x) (jA m):=by rw[h];rfl
def xN(b:UInt8)(l:bw)(n:Int):HB 260 (mH (bs (b::l)) n 0) [] (.of (jA b.toNat)) (mH (bs l) n 0):=by
 have h:=BQ (bs (b::l)) n 0 1;have e:lu (bs (b::l)) 0 1=(bs [b],bs l,0):=by unfold lu;rw[if_neg (by rw[eQ];simp),if_pos rfl,(take_one b l).1,(take_one b l).2]
 rw[e]at h;have a:jJ ((bs [b]).toList==ByteArray.toList ⟨#[]⟩) false:=eT (by simp[bs,ByteArray.toList,ByteArray.toList.loop,ByteArray.size,ByteArray.get!]);have c:aaF (bs [b]) 0=some (.of (.one (.d (.v (.int .u8 (b.toNat:Int)))))):=rfl;have f:mD (kA .i64 (IntKind.i64.wrap (b.toNat:Int))) (jA b.toNat):=zw (iD _ (by have:=b.toNat_lt;omega));exact fK func260 [(7,bA false),(9,.one (.d (.v (.int .u8 (b.toNat:Int))))),(10,jA b.toNat)] [⟨_,h⟩] (al a (al c (al f al0)))
def Jd(z:bp)(n e:Int)(h:(lu z e 1).1=⟨#[]⟩):HB 260 (mH z n e) [] (.of (jA 0)) (mH (lu z e 1).2.1 n (lu z e 1).2.2):=by have a:=BQ z n e 1;rw[h]at a;exact fK func260 [(7,bA true)] [⟨_,a⟩] (al (show jJ (ByteArray.toList ⟨#[]⟩==ByteArray.toList ⟨#[]⟩) true from eT (by rw[jg3])) al0)
def xV(n:Int):HB 260 (mH (bs []) n 0) [] (.of (jA 0)) (mH (bs []) n 1):=Jd (bs []) n 0 rfl
def UT(z:bp)(n:Int){e:Int}(h:e≠0):HB 260 (mH z n e) [] (.of (jA 0)) (mH z n e):=by
 have a:lu z e 1=(⟨#[]⟩,z,e):=by unfold lu;rw[if_neg h,if_neg h];split<;>rfl
 have:=Jd z n e (by rw[a]);rwa [a]at this
def H_len61:Hd ⟨266,[.one (.d (.v (.int .u64 1152921504606846976)))],.of (iA 61)⟩:=⟨tF func266,λc w b h=>by
 match b,h with
 | [u],⟨a,_⟩ =>
  rw[bW a];refine (DL w).mono ?_;rintro e f ⟨rfl,rfl⟩;exact⟨au _ _,_,rfl,fI.v _⟩⟩
def nuQ (z:bp) (n e:Int) (f:Nat) (g:Bool) (size last:Nat):St:=[((0,0),.of (.one (.p 800300 0))),((800301,0),.of (.one (.d (.v (.string z))))),((800301,1),.of (iA n)),((800301,2),.of (iA e)),((0,3),.of (jA f)),((0,4),.of (bA g)),((0,5),.of (jA size)),((0,6),.of (jA last))]
def Qo (z:bp) (n e:Int) (f:Nat) (g:Bool) (size last sh:Nat):St:=((0,7),.of (jA sh))::nuQ z n e f g size last
def nuR (z:bp) (n e:Int):St:=[((0,2),.of (jA 0)),((800301,0),.of (.one (.d (.v (.string z))))),((800301,1),.of (iA n)),((800301,2),.of (iA e))]
abbrev nuL (b:Nat->Option Nat) (S:St) (ex:Nat) (q:St):Prop:=@vO (qh b) prog f261.ntmps ⟨gF f261,S,ex,q⟩
def Db(b:Nat->Option Nat)(f:Nat)(z:bp)(n e:Int)(g:Bool)(a sh:Nat){last:Nat}(h:last<128):nuL b (Qo z n e f g a last sh) 2 (nuQ z n e f g a last) :=
 fF (e:=1) [(18,bA false)] [] (al (show jJ (decide ((128:Int)<=Int.ofNat last)) false from eT (zE ov)) al0)
def Qp(f:Nat)(n:Int)(g:Bool):∀(k sh size:Nat) (last:UInt8) (l:bw),k<=8->sh=6+7*(8 - k)->size<2 ^ sh ->
 (match numTail k sh size last l with
 | some (s,E,D)=>s<4611686018427387904/\∀b,nuL b (Qo (bs l) n 0 f g size last.toNat sh) 2 (nuQ (bs D) n 0 f g s E.toNat)
 | none=>128<=last.toNat/\∃z,(∀b,nuL b (Qo (bs l) n 0 f g size last.toNat sh) 1 (nuR z n 1))\/∃s,s<4611686018427387904/\∀b,nuL b (Qo (bs l) n 0 f g size last.toNat sh) 2 (nuQ z n 1 f g s 0))
 | 0,sh,size,last,l,hk,a,w=>by
  by_cases h:last.toNat<128
  .rw[wK _ _ _ _ _ h];exact⟨by have:=Kb _ hk;rw[<-a]at this;omega,λb=>Db b f _ n 0 g size sh h⟩
  .rw[show numTail 0 sh size last l=none by rw[numTail];simp[h]];have hF:=ny (bs l) n 0 1;rw[if_pos rfl]at hF;have o:jJ (decide ((128:Int)<=Int.ofNat last.toNat)) true:=eT (xb ov);have t:jJ (decide ((61:Int)<=Int.ofNat sh)) true:=eT (xb ov);exact⟨od,bs l,.inl (λb=>fF (e:=0) [(18,bA true),(23,bA true)] [⟨_,H_len61⟩,⟨_,hF⟩] (al o (al t al0)))⟩
 | k+1,sh,size,last,l,hk,a,w=>by
  by_cases h:last.toNat<128
  .rw[wK _ _ _ _ _ h];exact⟨by have:=Kb _ hk;rw[<-a]at this;omega,λb=>Db b f _ n 0 g size sh h⟩
  .have o:jJ (decide ((128:Int)<=Int.ofNat last.toNat)) true:=eT (xb ov);have t:jJ (decide ((61:Int)<=Int.ofNat sh)) false:=eT (zE ov);have A:mD (lW (IntKind.i64.wrap (Int.ofNat sh+7))) (jA (sh+7)):=yY (zF oe ov ov);have j:∀x:Nat,x<256->∀p∈[mD (kA .i64 (bits .and .i64 (Int.ofNat x) 127)) (jA (x % 128)),mD (kA .i64 (IntKind.i64.wrap (Int.ofNat (x % 128)*2 ^ min (Int.ofNat sh).toNat IntKind.i64.bits))) (jA (x % 128*2 ^ sh)),mD (kA .i64 (bits .or .i64 (Int.ofNat size) (Int.ofNat (x % 128*2 ^ sh)))) (jA (size+x % 128*2 ^ sh))],p:=λx H=>by
    have G:2 ^ sh<=36028797018963968:=by rw[show (36028797018963968:Nat)=2 ^ 55 by decide +kernel];exact Nat.pow_le_pow_right od od
    have B:x % 128*2 ^ sh<=127*2 ^ sh:=ja3 _ od;have m:=(Xt sh size (x % 128) w od od).1;have e:((x % 128:Nat):Int)*2 ^ sh=((x % 128*2 ^ sh:Nat):Int):=by push_cast;rfl
    rw[e,KS _ od]at m;refine al (zw (Jc x od)) (al (zw ?_) (al (zw m) al0));rw[show min (Int.ofNat sh).toNat IntKind.i64.bits=sh from jc6 (by show sh<=64;omega)];exact (congrArg IntKind.i64.wrap e).trans (iD _ od)
   cases l with
   | nil =>
    rw[zR _ _ _ _ h];have u:=xV n;have d:=j 0 ot;have v:=λb=>Db b f (bs []) n 1 g (size+0 % 128*2 ^ sh) (sh+7) (last:=0) ot;exact⟨od,bs [],.inr ⟨_,by have:=Kb _ hk;rw[<-a]at this;omega,λb=>jC [(18,bA true),(23,bA false),(30,jA (0 % 128)),(32,jA (0 % 128*2 ^ sh)),(33,jA (size+0 % 128*2 ^ sh)),(20,jA (sh+7))] [⟨_,H_len61⟩,⟨_,u⟩] (v b) (al o (al t (jX d (al A al0))))⟩⟩
   | cons c l =>
    rw[xX _ _ _ _ _ _ h];have m:=Xt sh size (c.toNat % 128) w od od;have i:=Qp f n g k (sh+7) (size+c.toNat % 128*2 ^ sh) c l od od m.2;have u:=xN c l n;have d:=j c.toNat c.toNat_lt;have F:=λ(b:Nat->Option Nat) {ex:Nat} {q:St} (v:nuL b (Qo (bs l) n 0 f g (size+c.toNat % 128*2 ^ sh) c.toNat (sh+7)) ex q)=>(jC [(18,bA true),(23,bA false),(30,jA (c.toNat % 128)),(32,jA (c.toNat % 128*2 ^ sh)),(33,jA (size+c.toNat % 128*2 ^ sh)),(20,jA (sh+7))] [⟨_,H_len61⟩,⟨_,u⟩] v (al o (al t (jX d (al A al0)))):nuL b (Qo (bs (c::l)) n 0 f g size last.toNat sh) ex q)
    cases y:numTail k (sh+7) (size+c.toNat % 128*2 ^ sh) c l with
    | some r=>rw[y]at i;exact⟨i.1,λb=>F b (i.2 b)⟩
    | none =>
     rw[y]at i;have⟨_,z,C⟩:=i;exact⟨od,z,C.imp (λh b=>F b (h b)) (λ⟨s,h0,h⟩=>⟨s,h0,λb=>F b (h b)⟩)⟩
def PM{f:Nat}{g:Bool}(b:f / 64 % 2=if g then 1 else 0)(a:f<256):∀p∈[mD (kA .i64 (bits .and .i64 (Int.ofNat f) 64)) (jA (if g then 64 else 0)),mD (kA .i64 (bits .and .i64 (Int.ofNat f) 63)) (jA (f % 64))],p:=by refine al (zw ?_) (al (zw (Le f od)) al0);have:=VZ f a;rw[b]at this;exact this.trans (by cases g<;>rfl)
def aaE{n:Int}(a:-9223372036854775808<=n)(b:n<=9223372036854775807):IntKind.i64.wrap n=n:=vl
def Ye{f s r:Nat}{c:UInt8}{l:bw}{z:bp}{n e:Int}{g:Bool}(hc:c.toNat=f)(K:f / 64 % 2=if g then 1 else 0)(P:s<4611686018427387904)(I:∀b,nuL b (Qo (bs l) n 0 f g (f % 64) f 6) 2 (nuQ z n e f g s r)) :
 HB 261 (mH (bs (c::l)) n 0) [] (.of (if (128<=f/\r=0)\/1152921504606846976<s\/(g/\s=0)then jA 0 else iA (if g then -(s:Int)else s))) (mH z n (if (128<=f/\r=0)\/1152921504606846976<s\/(g/\s=0)then (if e=0 then 1 else e)else e)):=by
 have i:=xN c l n;have J:=c.toNat_lt;rw[hc]at i J;have hF:=ny z n e 1;generalize (if e=0 then (1:Int)else e)=y at *;have O:=PM K J;have j:∀p∈_,p:=wI (S:=Qo (bs l) n 0 f g (f % 64) f 6) (q:=gF f261=gF f261) rfl (ps:=[mD (kA .i64 (bits .and .i64 (Int.ofNat f) 64)) (jA (if g then 64 else 0)),mD (kA .i64 (bits .and .i64 (Int.ofNat f) 63)) (jA (f % 64))]) O;have M:mD (kA .i64 (IntKind.i64.wrap (0 - Int.ofNat s))) (iA (-(s:Int))):=by rw[show (0 - Int.ofNat s:Int) = -(s:Int) from Int.zero_sub _,aaE od od];rfl
 clear K P;have N:∀(a b:Nat),(Int.ofNat a<=Int.ofNat b)=(a<=b):=λa b=>propext Int.ofNat_le;have⟨E,A⟩:∃b,decide ((128:Int)<=Int.ofNat f)=b:=⟨_,rfl⟩;have⟨v,B⟩:∃b,decide (Int.ofNat r=0)=b:=⟨_,rfl⟩;have⟨t,C⟩:∃b,decide ((1152921504606846976:Int)<Int.ofNat s)=b:=⟨_,rfl⟩;have⟨w,D⟩:∃b,decide (Int.ofNat s=0)=b:=⟨_,rfl⟩;have F:(128<=f)=(E):=by rw[<-A,jt];exact propext ⟨λh=>ov,λh=>by simp at h;omega⟩
 have y:(r=0)=(v):=by rw[<-B,jt];exact propext ⟨λh=>by simp[h],λh=>by simpa using h⟩
 have G:(1152921504606846976<s)=(t):=by rw[<-C,jt];exact propext ⟨λh=>ov,λh=>by simp at h;omega⟩
 have H:(s=0)=(w):=by rw[<-D,jt];exact propext ⟨λh=>by simp[h],λh=>by simpa using h⟩
 simp only[F,y,G,H];have k:=eT A;have o:=eT B;have m:=eT C;have u:=eT D;have d:∀b,∀x∈[(⟨gF f261,Qo (bs l) n 0 f g (f % 64) f 6,2,nuQ z n e f g s r⟩:Lp)],@vO (qh b) prog f261.ntmps x:=λb x L=>by rw[qv]at L;subst L;exact I b
 clear I F y G H A B C D N;cases g<;>cases E
 .cases t
  .exact bH func261 [(12,jA 0),(15,jA (f % 64)),(35,bA false),(43,bA false)] _ [⟨_,i⟩] d (jX j (al k (al m al0)))
  .exact bH func261 [(12,jA 0),(15,jA (f % 64)),(35,bA false),(43,bA true)] _ [⟨_,i⟩,⟨_,hF⟩] d (jX j (al k (al m al0)))
 .cases v
  .cases t
   .exact bH func261 [(12,jA 0),(15,jA (f % 64)),(35,bA true),(38,bA false),(43,bA false)] _ [⟨_,i⟩] d (jX j (al k (al o (al m al0))))
   .exact bH func261 [(12,jA 0),(15,jA (f % 64)),(35,bA true),(38,bA false),(43,bA true)] _ [⟨_,i⟩,⟨_,hF⟩] d (jX j (al k (al o (al m al0))))
  .exact bH func261 [(12,jA 0),(15,jA (f % 64)),(35,bA true),(38,bA true)] _ [⟨_,i⟩,⟨_,hF⟩] d (jX j (al k (al o al0)))
 .cases t
  .cases w
   .exact bH func261 [(12,jA 64),(15,jA (f % 64)),(35,bA false),(43,bA false),(49,bA false),(56,iA (-(s:Int)))] _ [⟨_,i⟩] d (jX j (al k (al m (al u (al M al0)))))
   .exact bH func261 [(12,jA 64),(15,jA (f % 64)),(35,bA false),(43,bA false),(49,bA true)] _ [⟨_,i⟩,⟨_,hF⟩] d (jX j (al k (al m (al u al0))))
  .exact bH func261 [(12,jA 64),(15,jA (f % 64)),(35,bA false),(43,bA true)] _ [⟨_,i⟩,⟨_,hF⟩] d (jX j (al k (al m al0)))
 .cases v
  .cases t
   .cases w
    .exact bH func261 [(12,jA 64),(15,jA (f % 64)),(35,bA true),(38,bA false),(43,bA false),(49,bA false),(56,iA (-(s:Int)))] _ [⟨_,i⟩] d (jX j (al k (al o (al m (al u (al M al0))))))
    .exact bH func261 [(12,jA 64),(15,jA (f % 64)),(35,bA true),(38,bA false),(43,bA false),(49,bA true)] _ [⟨_,i⟩,⟨_,hF⟩] d (jX j (al k (al o (al m (al u al0)))))
   .exact bH func261 [(12,jA 64),(15,jA (f % 64)),(35,bA true),(38,bA false),(43,bA true)] _ [⟨_,i⟩,⟨_,hF⟩] d (jX j (al k (al o (al m al0))))
  .exact bH func261 [(12,jA 64),(15,jA (f % 64)),(35,bA true),(38,bA true)] _ [⟨_,i⟩,⟨_,hF⟩] d (jX j (al k (al o al0)))
def Jb(l:bw)(n:Int):match pNum l with
 | some (m,v)=>HB 261 (mH (bs l) n 0) [] (.of (iA m)) (mH (bs v) n 0)
 | none=>∃z,HB 261 (mH (bs l) n 0) [] (.of (jA 0)) (mH z n 1):=by
 cases l with
 | nil =>
  refine⟨bs [],?_⟩;have k:=xV n;exact bH func261 [] [⟨gF f261,Qo (bs []) n 1 0 false 0 0 6,2,nuQ (bs []) n 1 0 false 0 0⟩] [⟨_,k⟩] (λb x a=>by rw[qv]at a;subst a;exact Db b 0 (bs []) n 1 false 0 6 ot) (wI (S:=Qo (bs []) n 1 0 false 0 0 6) (q:=gF f261=gF f261) rfl (ps:=[]) al0)
 | cons f l =>
  have y:=f.toNat_lt;have⟨g,j⟩:∃g:Bool,f.toNat / 64 % 2=if g then 1 else 0:=by
   rcases (show f.toNat / 64 % 2=0\/f.toNat / 64 % 2=1 by omega)with h|h
   .exact⟨false,h⟩
   .exact⟨true,h⟩
  have i:=Qp f.toNat n g 8 6 (f.toNat % 64) f l ot rfl od;rw[pNum]
  cases t:numTail 8 6 (f.toNat % 64) f l with
  | none =>
   rw[t]at i;obtain⟨o,z,h|⟨s,A,h⟩⟩:=i
   .refine⟨z,?_⟩;have k:=xN f l n;have u:∀p∈_,p:=wI (S:=Qo (bs l) n 0 f.toNat g (f.toNat % 64) f.toNat 6) (q:=gF f261=gF f261) rfl (ps:=[mD (kA .i64 (bits .and .i64 (Int.ofNat f.toNat) 64)) (jA (if g then 64 else 0)),mD (kA .i64 (bits .and .i64 (Int.ofNat f.toNat) 63)) (jA (f.toNat % 64))]) (PM j y);cases g
    .exact bH func261 [(12,jA 0),(15,jA (f.toNat % 64))] [_] [⟨_,k⟩] (λb x a=>by rw[qv]at a;subst a;exact h b) u
    .exact bH func261 [(12,jA 64),(15,jA (f.toNat % 64))] [_] [⟨_,k⟩] (λb x a=>by rw[qv]at a;subst a;exact h b) u
   .have:=Ye (c:=f) rfl j A h;rw[if_pos (.inl ⟨o,rfl⟩),if_pos (.inl ⟨o,rfl⟩),if_neg ot]at this;exact⟨z,this⟩
  | some r =>
   have⟨s,B,v⟩:=r;rw[t]at i;have:=Ye (c:=f) rfl j i.1 i.2;have e:(f.toNat / 64 % 2=1/\s=0)=(g/\s=0):=by rw[j];cases g<;>simp
   have w:(f.toNat / 64 % 2=1)=(g):=by rw[j];cases g<;>simp
   simp only[e,w]
   by_cases d:(128<=f.toNat/\B.toNat=0)\/1152921504606846976<s\/(g/\s=0)
   .rw[if_pos d,if_pos d,if_pos rfl]at this;rw[if_pos d];exact⟨_,this⟩
   .rw[if_neg d,if_neg d]at this;rw[if_neg d];exact this
def Fp(z:bp)(n:Int){e:Int}(h:e≠0):HB 261 (mH z n e) [] (.of (jA 0)) (mH z n e) :=
 bH func261 [] [⟨gF f261,Qo z n e 0 false 0 0 6,2,nuQ z n e 0 false 0 0⟩] [⟨_,UT z n h⟩] (λb x a=>by rw[qv]at a;subst a;exact Db b 0 z n e false 0 6 ot) (wI (S:=Qo z n e 0 false 0 0 6) (q:=gF f261=gF f261) rfl (ps:=[]) al0)
def UR(z:bp)(n:Int){e:Int}(h:e≠0):HB 267 (mH z n e) [] (.of (jA 0)) (mH z n e):=fK func267 [] [⟨_,Fp z n h⟩] al0
def Oa(l:bw)(n:Int):match kR l with
 | some (m,b)=>HB 267 (mH (bs l) n 0) [] (.of (jA m)) (mH (bs b) n 0)
 | none=>∃z,HB 267 (mH (bs l) n 0) [] (.of (jA 0)) (mH z n 1):=by
 have h:=Jb l n;unfold kR
 cases c:pNum l with
 | none =>
  rw[c]at h;have⟨z,h⟩:=h;exact⟨z,fK func267 [] [⟨_,h⟩] al0⟩
 | some r =>
  have⟨m,b⟩:=r;rw[c]at h;simp only at h|-
  by_cases a:m<0
  .rw[if_pos a];have hF:=ny (bs b) n 0 1;rw[if_pos rfl]at hF;exact⟨bs b,fK func267 [(7,bA true)] [⟨_,h⟩,⟨_,hF⟩] (al (is_lt a) al0)⟩
  .rw[if_neg a];obtain⟨k,rfl⟩:=Int.eq_ofNat_of_zero_le (show 0<=m by omega);exact fK func267 [(7,bA false)] [⟨_,h⟩] (al (wH a) al0)
def abR(l:bw)(n:Int):match yf l with
 | some (s,a)=>HB 262 (mH (bs l) n 0) [] (.of (.one (.d (.v (.string (bs s)))))) (mH (bs a) n 0)
 | none=>∃z,HB 262 (mH (bs l) n 0) [] (.of (.one (.d (.v (.string ⟨#[]⟩))))) (mH z n 1):=by
 have h:=Oa l n;unfold yf
 cases f:kR l with
 | none =>
  rw[f]at h;have⟨z,h⟩:=h;have b:=BQ z n 1 0;rw[show lu z 1 0=(⟨#[]⟩,z,1) by unfold lu;rw[oa,if_neg ot]]at b;exact⟨z,fK func262 [] [⟨_,h⟩,⟨_,b⟩] al0⟩
 | some r =>
  have⟨m,a⟩:=r;rw[f]at h;simp only at h|-
  by_cases i:200<m
  .rw[if_pos (.inl i)];have hF:=ny (bs a) n 0 1;rw[if_pos rfl]at hF;have b:=BQ (bs a) n 1 m;have e:(lu (bs a) 1 m)=(⟨#[]⟩,bs a,1):=by unfold lu;rw[if_neg (show ¬(1:Int)=0 by decide),if_neg (show ¬(1:Int)=0 by decide)];split<;>rfl
   rw[e]at b;exact⟨bs a,fK func262 [(7,bA true)] [⟨_,h⟩,⟨_,hF⟩,⟨_,b⟩] (al (show jJ (decide ((200:Int)<Int.ofNat m)) true from eT (xb ov)) al0)⟩
  .have g:jJ (decide ((200:Int)<Int.ofNat m)) false:=eT (zE ov);have b:=BQ (bs a) n 0 m
   by_cases c:a.length<m
   .rw[if_pos (.inr c)];rw[show lu (bs a) 0 m=(⟨#[]⟩,bs a,1) by unfold lu;rw[if_pos (by rw[eQ];exact c),if_pos rfl]]at b;exact⟨bs a,fK func262 [(7,bA false)] [⟨_,h⟩,⟨_,b⟩] (al g al0)⟩
   .rw[oa];rw[show lu (bs a) 0 m=(bs (a.take m),bs (a.drop m),0) by unfold lu;rw[if_neg (by rw[eQ];exact c),if_pos rfl,TM _ _ od,eQ,TL]]at b;exact fK func262 [(7,bA false)] [⟨_,h⟩,⟨_,b⟩] (al g al0)
def zr:Tr->bd
 | .nd k n p s []=>[.v (.i k),.v (.i n),.v (.i p),.v (.string s),.s 0 []]
 | .nd k n p s (x::a)=>[.v (.i k),.v (.i n),.v (.i p),.v (.string s),.s 5 (ndsD (x::a))]
def ndY (t:Tr):A1:=.agg ((zr t).map .d)
def lsZ:aE->A1
 | []=>nilA
 | t::ts=>CW (t::ts)
def adC(t:Tr):L2 Ja (zr t) (ndD t):=by
 obtain⟨k,n,p,s,_|⟨x,a⟩⟩:=t
 .exact⟨.inl rfl,.inl rfl,.inl rfl,.inl rfl,.inr ⟨rfl,5,ot,rfl⟩,trivial⟩
 .exact row_refl _
def lsS (ts:aE) (c:Nat):St:=match ts with
 | []=>[((0,5),.of nilA)]
 | t::ts=>[((0,5),.of (.one (.g 3000026 5 c))),((3000027,0),.kv 62 5 (ndsD (t::ts)))]
def arQ (z:bp) (n e:Int) (ts:aE) (c:Nat):St:=[((800301,0),.of (.one (.d (.v (.string z))))),((800301,1),.of (iA n)),((800301,2),.of (iA e))]++lsS ts c
def ZL (z:bp) (n e dep:Int) (left:Nat) (ts:aE) (c:Nat):St:=[((0,0),.of (.one (.p 800300 0))),((0,1),.of (iA dep)),((0,6),.of (jA left))]++arQ z n e ts c
abbrev arL (b:Nat->Option Nat) (S:St) (ex:Nat) (q:St):Prop:=@vO (qh b) prog f264.ntmps ⟨gF f264,S,ex,q⟩
def A8(b:Nat->Option Nat)(z:bp)(n e a:Int)(ts:aE)(c:Nat):arL b (ZL z n e a 0 ts c) 2 (arQ z n e ts c):=by
 cases ts with
 | nil=>exact fF (e:=1) [] [] al0
 | cons t ts=>exact fF (e:=1) [] [] al0
def aao(b:Nat->Option Nat)(z:bp)(n a:Int){e:Int}(g:e≠0)(left:Nat)(ts:aE)(c:Nat):arL b (ZL z n e a (left+1) ts c) 2 (arQ z n e ts c):=by
 have d:jJ (decide ((0:Int)<Int.ofNat (left+1))) true:=eT (xb (Int.ofNat_lt.2 (Nat.succ_pos _)));have f:jJ (decide (e=0)) false:=eT (zE g)
 cases ts with
 | nil=>exact fF (e:=1) [(10,bA true),(16,bA false)] [] (al d (al f al0))
 | cons t ts=>exact fF (e:=1) [(10,bA true),(16,bA false)] [] (al d (al f al0))
def Ia(b:Nat->Option Nat){z w:bp}{n v o c:Int}{left:Nat}{ts:aE}{t:Tr}{ex:Nat}{q:St}(A:0<=c/\c<=100)(r:ts.length<=400)(y:left<=2000000000000000000)(g:HB 252 (mH z n 0) [iA (c+1)] (.of (ndY t)) (mH w v o))(h:arL b (ZL w v o c left (ts++[t]) (ts.length+1)) ex q):arL b (ZL z n 0 c (left+1) ts ts.length) ex q:=by
 have i:jJ (decide ((0:Int)<Int.ofNat (left+1))) true:=eT (xb (Int.ofNat_lt.2 (Nat.succ_pos _)));have j:mD (lW (IntKind.i64.wrap (c+1))) (iA (c+1)):=yY vl;have l:mD (lW (IntKind.i64.wrap (Int.ofNat (left+1) - 1))) (jA left):=yY Zs;have e:rowsLe ((ndsD ts).take ts.length++[zr t]) (ndsD (ts++[t])):=by rw[ndsD_map,ndsD_map,ux oe,qa0];exact vG (adC t) _
 have f:zV 64 ts.length (ndsD ts) [zr t]:=iL (by rw[ndsD_map];simp) oe (by obtain⟨k,n,p,s,_|⟨x,a⟩⟩:=t<;>rfl) ov ot;obtain⟨k,m,p,s,_|⟨x,a⟩⟩:=t<;>rcases ts with _|⟨u,ts⟩
 .exact jC [(10,bA true),(23,iA (c+1)),(2000026,.one (.d (.s 5 (ndsD [.nd k m p s []])))),(19,jA left)] [⟨_,g⟩] h (al i (al j (al e (al f (al l al0)))))
 .exact jC [(10,bA true),(23,iA (c+1)),(2000026,.one (.d (.s 5 (ndsD (u::ts++[.nd k m p s []]))))),(19,jA left)] [⟨_,g⟩] h (al i (al j (al e (al f (al l al0)))))
 .exact jC [(10,bA true),(23,iA (c+1)),(2000026,.one (.d (.s 5 (ndsD [.nd k m p s (x::a)])))),(19,jA left)] [⟨_,g⟩] h (al i (al j (al e (al f (al l al0)))))
 .exact jC [(10,bA true),(23,iA (c+1)),(2000026,.one (.d (.s 5 (ndsD (u::ts++[.nd k m p s (x::a)]))))),(19,jA left)] [⟨_,g⟩] h (al i (al j (al e (al f (al l al0)))))
def FC (dep:Int) (f:Nat->bw->Except Int (Tr×Nat×bw)):Prop:=∀(n:Nat) (l:bw),n<=300->match f n l with
 | .ok (t,n',l')=>n'<=300/\n<n'/\HB 252 (mH (bs l) (n:Int) 0) [iA dep] (.of (ndY t)) (mH (bs l') (n':Int) 0)
 | .error e=>e≠0/\∃(t:Tr) (z:bp) (m:Int),HB 252 (mH (bs l) (n:Int) 0) [iA dep] (.of (ndY t)) (mH z m e)
def Ov{a:Int}{f:Nat->bw->Except Int (Tr×Nat×bw)}(g:0<=a/\a<=100)(o:FC (a+1) f):∀(c n:Nat) (l:bw) (ts:aE),n<=300->ts.length<=n->c<=2000000000000000000->(match zm f c n l with
 | .ok (us,k,x)=>k<=300/\n<=k/\∀b,arL b (ZL (bs l) n 0 a c ts ts.length) 2 (arQ (bs x) k 0 (ts++us) (ts++us).length)
 | .error e=>e≠0/\∃(us:aE) (z:bp) (m:Int),∀b,arL b (ZL (bs l) n 0 a c ts ts.length) 2 (arQ z m e us us.length))
 | 0,n,l,ts,j,w,v=>by rw[zm];simp only[qc4];exact⟨j,jj _,λb=>A8 b _ _ _ _ _ _⟩
 | c+1,n,l,ts,j,w,v=>by
  have h:=o n l j;rw[zm]
  cases p:f n l with
  | error e =>
   rw[p]at h;have⟨i,t,z,m,h⟩:=h;refine⟨i,ts++[t],z,m,λb=>Ia b g od od h ?_⟩;rw[jx]
   cases c with
   | zero=>exact A8 b _ _ _ _ _ _
   | succ c=>exact aao b _ _ _ i _ _ _
  | ok r =>
   have⟨t,n1,s⟩:=r;rw[p]at h;have⟨u,y,h⟩:=h;have d:=Ov g o c n1 s (ts++[t]) u ov od;rw[jx]at d;simp only
   cases q:zm f c n1 s with
   | error e =>
    rw[q]at d;have⟨i,us,z,m,d⟩:=d;exact⟨i,us,z,m,λb=>Ia b g od od h (d b)⟩
   | ok r =>
    have⟨us,B,A⟩:=r;rw[q]at d;have⟨g1,g2,d⟩:=d;refine⟨g1,od,λb=>Ia b g od od h ?_⟩;have:=d b;rwa [qa3]at this
def N9(z:bp)(n a:Int){e:Int}(h:e≠0):HB 264 (mH z n e) [iA a] (.of nilA) (mH z n e) :=
 bH func264 [] [⟨gF f264,ZL z n e a 0 [] 0,2,arQ z n e [] 0⟩] [⟨_,UR z n h⟩] (λb x c=>by rw[qv]at c;subst c;exact A8 b z n e a [] 0) (wI (S:=ZL z n e a 0 [] 0) (q:=gF f264=gF f264) rfl (ps:=[]) al0)
def Nv{z g m:bp}{n n1 l f i a:Int}{c:Nat}{us:aE}(j:HB 267 (mH z n 0) [] (.of (jA c)) (mH g n1 f))(h:∀b,arL b (ZL g n1 f a c [] 0) 2 (arQ m l i us us.length)):HB 264 (mH z n 0) [iA a] (.of (lsZ us)) (mH m l i):=by
 have k:∀p∈_,p:=wI (S:=ZL g n1 f a c [] 0) (q:=gF f264=gF f264) rfl (ps:=[]) al0;have e:us.length=(ndsD us).length:=by simp[ndsD_map]
 cases us with
 | nil=>exact bH func264 [] [_] [⟨_,j⟩] (λb x d=>by rw[qv]at d;subst d;exact h b) k
 | cons u us=>exact bH func264 [] [_] [⟨_,j⟩] (λb x d=>by rw[qv]at d;subst d;exact h b) (jX k (al e al0))
def UQ{a:Int}{f:Nat->bw->Except Int (Tr×Nat×bw)}(p:0<=a/\a<=100)(s:FC (a+1) f)(n:Nat)(l:bw)(hn:n<=300):match pQ f n l with
 | .ok (g,j,t)=>j<=300/\n<=j/\HB 264 (mH (bs l) n 0) [iA a] (.of (lsZ g)) (mH (bs t) j 0)
 | .error e=>e≠0/\∃(g:aE) (z:bp) (m:Int),HB 264 (mH (bs l) n 0) [iA a] (.of (lsZ g)) (mH z m e):=by
 have d:=Oa l (n:Int);unfold pQ
 cases i:kR l with
 | none =>
  rw[i]at d;have⟨z,d⟩:=d;exact⟨ot,[],z,n,Nv d (λb=>A8 b _ _ _ _ _ _)⟩
 | some r =>
  have⟨c,o⟩:=r;rw[i]at d;have h:=Ov p s c n o [] hn (yv _) (by have:=(sF i).1;omega);simp only[qe5]at h|-
  cases k:zm f c n o with
  | error e =>
   rw[k]at h;have⟨q,g,z,m,h⟩:=h;exact⟨q,g,z,m,Nv d h⟩
  | ok r =>
   have⟨g,v,u⟩:=r;rw[k]at h;exact⟨h.1,h.2.1,Nv d h.2.2⟩
def Ve(k:Int):Hd ⟨140,[iA k],aQ (Lf.gD k)⟩:=jM (bK func140) λc w b h=>by
 match b,h with
 | [u],⟨a,_⟩ =>
  rw[bW a];refine (Lf.rQ k w).mono ?_;rintro e d ⟨rfl,rfl⟩;exact⟨rfl,au _ _⟩
def YH{z b:bp}{n e a:Int}{k:Nat}(c:HB 260 (mH z n e) [] (.of (jA k)) (mH b n a)):HB 263 (mH z n e) [] (.of (jA k)) (mH b n (if Lf.gD k then a else if a=0 then 1 else a)):=by
 have hF:=ny b n a 1;generalize (if a=0 then (1:Int)else a)=f at *;have d:=Ve (Int.ofNat k);have e:Lf.gD (k:Int)=Lf.gD (Int.ofNat k):=rfl;rw[e];generalize Lf.gD (Int.ofNat k)=g at *;cases g
 .exact fK func263 [] [⟨_,c⟩,⟨_,d⟩,⟨_,hF⟩] al0
 .exact fK func263 [] [⟨_,c⟩,⟨_,d⟩] al0
def ZU{a:Int}(h:24<a):FC a (pNode 0):=λn l d=>by
 refine⟨ot,.nd 0 0 0 ⟨#[]⟩ [],bs l,n,?_⟩;have hF:=ny (bs l) n 0 4;rw[if_pos rfl]at hF;have c:=is_lt h
 by_cases b:(n:Int)=300
 .exact fK func252 [(10,bA true)] [⟨_,hF⟩] (al (eT (xb b)) al0)
 .exact fK func252 [(10,bA false),(13,bA true)] [⟨_,hF⟩] (al (eT (zE b)) (al c al0))
def ZV{g:Int}{d:Nat}(J:0<=g/\g<=24)(D:FC (g+1) (λn l=>pNode d n l)):FC g (pNode (d+1)):=λn l K=>by
 unfold pNode;have o:=wH (a:=24) (b:=g) od
 by_cases C:n=300
 .rw[if_pos C];have hF:=ny (bs l) n 0 4;rw[if_pos rfl]at hF;exact⟨ot,.nd 0 0 0 ⟨#[]⟩ [],bs l,n,fK func252 [(10,bA true)] [⟨_,hF⟩] (al (show jJ (decide ((n:Int)=300)) true from eT (xb od)) al0)⟩
 rw[if_neg C];have j:jJ (decide ((n:Int)=300)) false:=eT (zE od);have p:mD (lW (IntKind.i64.wrap (Int.ofNat n+1))) (jA (n+1)):=yY (zF oe ov ov)
 cases l with
 | nil =>
  have f:=xV ((n+1:Nat):Int);have i:=Fp (bs []) ((n+1:Nat):Int) (e:=1) ot;exact⟨ot,.nd 0 0 0 ⟨#[]⟩ [],bs [],((n+1:Nat):Int),fK func252 [(10,bA false),(13,bA false),(22,jA (n+1))] [⟨_,f⟩,⟨_,i⟩] (al j (al o (al p al0)))⟩
 | cons b l =>
  have f:=xN b l ((n+1:Nat):Int);simp only
  by_cases h0:b.toNat=0
  .rw[if_pos h0];rw[h0]at f;have i:=Jb l ((n+1:Nat):Int)
   cases s:pNum l with
   | none =>
    rw[s]at i;have⟨z,i⟩:=i;exact⟨ot,.nd 0 0 0 ⟨#[]⟩ [],z,((n+1:Nat):Int),fK func252 [(10,bA false),(13,bA false),(22,jA (n+1))] [⟨_,f⟩,⟨_,i⟩] (al j (al o (al p al0)))⟩
   | some r =>
    have⟨m,B⟩:=r;rw[s]at i;exact⟨od,od,fK func252 [(10,bA false),(13,bA false),(22,jA (n+1))] [⟨_,f⟩,⟨_,i⟩] (al j (al o (al p al0)))⟩
  rw[if_neg h0]
  by_cases v:b.toNat=1
  .rw[if_pos v];rw[v]at f;have i:=abR l ((n+1:Nat):Int)
   cases s:yf l with
   | none =>
    rw[s]at i;have⟨z,i⟩:=i;exact⟨ot,.nd 1 0 0 ⟨#[]⟩ [],z,((n+1:Nat):Int),fK func252 [(10,bA false),(13,bA false),(22,jA (n+1))] [⟨_,f⟩,⟨_,i⟩] (al j (al o (al p al0)))⟩
   | some r =>
    have⟨m,B⟩:=r;rw[s]at i;exact⟨od,od,fK func252 [(10,bA false),(13,bA false),(22,jA (n+1))] [⟨_,f⟩,⟨_,i⟩] (al j (al o (al p al0)))⟩
  rw[if_neg v]
  by_cases w:b.toNat=2
  .rw[if_pos w];rw[w]at f
   cases l with
   | nil =>
    have u:=YH (xV ((n+1:Nat):Int));rw[if_neg ot,if_neg ot]at u;have c:=N9 (bs []) ((n+1:Nat):Int) g (e:=1) ot;exact⟨ot,.nd 2 0 0 ⟨#[]⟩ [],bs [],((n+1:Nat):Int),fK func252 [(10,bA false),(13,bA false),(22,jA (n+1))] [⟨_,f⟩,⟨_,u⟩,⟨_,c⟩] (al j (al o (al p al0)))⟩
   | cons q l =>
    have u:=YH (xN q l ((n+1:Nat):Int));simp only
    by_cases y:Lf.gD q.toNat=false
    .rw[if_pos y];rw[if_neg (by rw[y];decide),if_pos rfl]at u;have c:=N9 (bs l) ((n+1:Nat):Int) g (e:=1) ot;exact⟨ot,.nd 2 0 q.toNat ⟨#[]⟩ [],bs l,((n+1:Nat):Int),fK func252 [(10,bA false),(13,bA false),(22,jA (n+1))] [⟨_,f⟩,⟨_,u⟩,⟨_,c⟩] (al j (al o (al p al0)))⟩
    .rw[if_neg y];rw[if_pos (by simpa using y)]at u;have c:=UQ od D (n+1) l od
     cases s:pQ (λn l=>pNode d n l) (n+1) l with
     | error e =>
      rw[s]at c;have⟨A,t,z,m,c⟩:=c;refine⟨A,.nd 2 0 q.toNat ⟨#[]⟩ t,z,m,?_⟩;cases t<;>exact fK func252 [(10,bA false),(13,bA false),(22,jA (n+1))] [⟨_,f⟩,⟨_,u⟩,⟨_,c⟩] (al j (al o (al p al0)))
     | ok r =>
      have⟨t,E,B⟩:=r;rw[s]at c;refine⟨c.1,od,?_⟩;have c:=c.2.2;cases t<;>exact fK func252 [(10,bA false),(13,bA false),(22,jA (n+1))] [⟨_,f⟩,⟨_,u⟩,⟨_,c⟩] (al j (al o (al p al0)))
  rw[if_neg w]
  by_cases x:b.toNat=3
  .rw[if_pos x];rw[x]at f;have c:=UQ od D (n+1) l od
   cases s:pQ (λn l=>pNode d n l) (n+1) l with
   | error e =>
    rw[s]at c;have⟨A,t,z,m,c⟩:=c;refine⟨A,.nd 3 0 0 ⟨#[]⟩ t,z,m,?_⟩;cases t<;>exact fK func252 [(10,bA false),(13,bA false),(22,jA (n+1))] [⟨_,f⟩,⟨_,c⟩] (al j (al o (al p al0)))
   | ok r =>
    have⟨t,E,B⟩:=r;rw[s]at c;refine⟨c.1,od,?_⟩;have c:=c.2.2;cases t<;>exact fK func252 [(10,bA false),(13,bA false),(22,jA (n+1))] [⟨_,f⟩,⟨_,c⟩] (al j (al o (al p al0)))
  .rw[if_neg x];have hF:=ny (bs l) ((n+1:Nat):Int) 0 1;rw[if_pos rfl]at hF;have q:∀m:Nat,b.toNat≠m->jJ (decide (Int.ofNat b.toNat=(m:Int))) false:=λm h=>eT (zE (λe=>h (Int.ofNat.inj e)));have F:=q 0 h0;have G:=q 1 v;have H:=q 2 w;have I:=q 3 x;generalize b.toNat=k at *;exact⟨ot,.nd k 0 0 ⟨#[]⟩ [],bs l,((n+1:Nat):Int),fK func252 [(10,bA false),(13,bA false),(22,jA (n+1)),(33,bA false),(38,bA false),(43,bA false),(52,bA false)] [⟨_,f⟩,⟨_,hF⟩] (al j (al o (al p (al F (al G (al H (al I al0)))))))⟩
def B_node:∀d:Nat,d<=24->FC ((25 - d:Nat):Int) (pNode d)
 | 0,_=>ZU ot
 | d+1,h=>ZV od (by rw[show (((25 - (d+1):Nat):Int)+1)=((25 - d:Nat):Int) by omega];exact B_node d od)
def NZ{z:bp}(h:z=⟨#[]⟩):jJ (!(z.toList==ByteArray.toList ⟨#[]⟩)) false:=eT (by subst h;rw[Bool.not_eq_false',jg3])
def Zz{z:bp}(h:z≠⟨#[]⟩):jJ (!(z.toList==ByteArray.toList ⟨#[]⟩)) true:=eT (by rw[qg1,qh7];intro e;rw[jc5,jc5]at e;apply h;cases z;simpa using e)
def acB{s z:bp}{t:Tr}{m e:Int}(f:e≠0)(h:HB 252 (mH s 0 0) [iA 1] (.of (ndY t)) (mH z m e)):Hd ⟨244,[.one (.d (.v (.string s)))],.rz [ndY (.nd 0 0 0 ⟨#[]⟩ []),iA e]⟩:=by
 have hF:=ny z m e 1;rw[if_neg f]at hF;have c:jJ (!decide (e=0)) true:=eT (by simp[f]);obtain⟨tk,g,i,j,_|⟨x,a⟩⟩:=t<;>by_cases b:z=⟨#[]⟩
 .exact runT func244 [(15,bA false),(22,bA true)] [⟨_,HX.to h 800300 8⟩] (al (NZ b) (al c al0))
 .exact runT func244 [(15,bA true),(22,bA true)] [⟨_,HX.to h 800300 8⟩,⟨_,HX.to hF 800300 8⟩] (al (Zz b) (al c al0))
 .exact runT func244 [(15,bA false),(22,bA true)] [⟨_,HX.to h 800300 8⟩] (al (NZ b) (al c al0))
 .exact runT func244 [(15,bA true),(22,bA true)] [⟨_,HX.to h 800300 8⟩,⟨_,HX.to hF 800300 8⟩] (al (Zz b) (al c al0))
def acO(l:bw):Hd ⟨244,[.one (.d (.v (.string (bs l))))],match pNode 24 0 l with
 | .error e=>.rz [ndY (.nd 0 0 0 ⟨#[]⟩ []),iA e]
 | .ok (t,_,b)=>if b=[]then .rz [ndY t,iA 0]else .rz [ndY (.nd 0 0 0 ⟨#[]⟩ []),iA 1]⟩:=by
 have h:=B_node 24 (jj _) 0 l (yv _)
 cases f:pNode 24 0 l with
 | error e =>
  rw[f]at h;have⟨g,t,z,m,h⟩:=h;exact acB g h
 | ok r =>
  have⟨t,n,b⟩:=r;rw[f]at h;have h:=h.2.2;simp only
  by_cases c:b=[]
  .subst c;rw[if_pos rfl];obtain⟨tk,j,k,o,_|⟨x,a⟩⟩:=t<;>exact runT func244 [(15,bA false)] [⟨_,HX.to h 800300 8⟩] (al (NZ rfl) al0)
  .rw[if_neg c];have i:bs b≠⟨#[]⟩:=λe=>c (by have:=congrArg ByteArray.size e;rw[eQ]at this;exact jz this);have hF:=ny (bs b) n 0 1;rw[if_pos rfl]at hF;obtain⟨tk,j,k,o,_|⟨x,a⟩⟩:=t<;>exact runT func244 [(15,bA true)] [⟨_,HX.to h 800300 8⟩,⟨_,HX.to hF 800300 8⟩] (al (Zz i) al0)
def aci{l:bw}{e:Int}(h:pNode 24 0 l =.error e):e≠0:=by have:=B_node 24 (jj _) 0 l (yv _);rw[h]at this;exact this.1
def CQ(a:bp)(m:Nat)(c:a.size=m+1)(hm:m<=1000)(d:a.extract 0 1=⟨#[5]⟩)(W:cg):Calls prog 259 #[.string a,.string ⟨#[5]⟩] W λe w'=>e =.returned (.bool true)/\w'=W:=by
 have b:(⟨#[5]⟩:bp).size=1:=rfl;have f:(1:Int)<=(m:Int)+1:=od
 go_enter func259,ntmps259;go_wp2;go_ret;exact⟨rfl,rfl⟩
def A9(a r:bp)(m:Nat)(c:a.size=m+1)(hm:m<=1000)(d:a.extract 0 1=⟨#[5]⟩)(g:a.extract 1 (m+1)=r)(W:cg):Calls prog 251 #[.string a,.string ⟨#[5]⟩] W λe w'=>e =.returned (.tuple #[.string r,.bool true])/\w'=W:=by
 have b:=jh (CQ a m c hm d);have f:(⟨#[5]⟩:bp).size=1:=rfl;have h:(1:Int)<=(m:Int)+1:=od
 go_enter func251,ntmps251;go_wp2_with fail;refine (b _).mono ?_;rintro e i ⟨rfl,rfl⟩;go_wp2_with fail;go_ret2;exact⟨rfl,rfl⟩
def CO(a r:bp)(m:Nat)(c:a.size=m+1)(hm:m<=1000)(d:a.extract 0 1=⟨#[5]⟩)(f:a.extract 1 (m+1)=r)(W:cg):Calls prog 243 #[.string a,.string ⟨#[5]⟩] W λe w'=>e =.returned (.tuple #[.string r,.bool true])/\w'=W:=by have b:=jh (A9 a r m c hm d f);go_enter func243,ntmps243;go_wp2_with fail;refine (b _).mono ?_;rintro e g ⟨rfl,rfl⟩;go_wp2_with fail;go_ret2;exact⟨rfl,rfl⟩
def ZC(l:bw):(⟨((5:UInt8)::l).toArray⟩:bp).size=l.length+1/\(⟨((5:UInt8)::l).toArray⟩:bp).extract 0 1=⟨#[5]⟩/\(⟨((5:UInt8)::l).toArray⟩:bp).extract 1 (l.length+1)=bs l:=by
 refine⟨by simp[ByteArray.size],?_,?_⟩
 .apply ByteArray.ext;simp[je4]
 .apply ByteArray.ext;simp[je4,bs]
def Ae(a:bp)(c:a.size=0)(W:cg):Calls prog 259 #[.string a,.string ⟨#[5]⟩] W λe w'=>e =.returned (.bool false)/\w'=W:=by have b:(⟨#[5]⟩:bp).size=1:=rfl;go_enter func259,ntmps259;go_wp2;go_ret;exact⟨rfl,rfl⟩
def Ad(a:bp)(m:Nat)(d:a.size=m+1)(hm:m<=1000000000000)(b:(a.extract 0 1).toList≠[5])(W:cg):Calls prog 259 #[.string a,.string ⟨#[5]⟩] W λe w'=>e =.returned (.bool false)/\w'=W:=by
 have c:(⟨#[5]⟩:bp).size=1:=rfl;have g:(1:Int)<=(m:Int)+1:=od
 have f:((a.extract 0 1).toList==[5])=false:=by simpa using b
 go_enter func259,ntmps259;go_wp2;go_ret;exact⟨rfl,rfl⟩
def xu(a:bp)(H:∀W,Calls prog 259 #[.string a,.string ⟨#[5]⟩] W λe w'=>e =.returned (.bool false)/\w'=W)(W:cg):Calls prog 243 #[.string a,.string ⟨#[5]⟩] W λe w'=>e =.returned (.tuple #[.string a,.bool false])/\w'=W:=by
 have c:Hid (∀W,Calls prog 251 #[.string a,.string ⟨#[5]⟩] W λe w'=>e =.returned (.tuple #[.string a,.bool false])/\w'=W):=by intro W;have b:=jh H;clear H;go_enter func251,ntmps251;go_wp2_with fail;refine (b _).mono ?_;rintro e d ⟨rfl,rfl⟩;go_wp2_with fail;go_ret2;exact⟨rfl,rfl⟩
 clear H;go_enter func243,ntmps243;go_wp2_with fail;refine (c _).mono ?_;rintro e d ⟨rfl,rfl⟩;go_wp2_with fail;go_ret2;exact⟨rfl,rfl⟩
def Xi{b:UInt8}{r:bw}(hb:b≠5):((⟨(b::r).toArray⟩:bp).extract 0 1).toList≠[5]:=by intro h;apply hb;rw[jc5]at h;simp[je4]at h;exact h
def Na(b:UInt8)(r:bw):(⟨(b::r).toArray⟩:bp).size=r.length+1:=by simp[ByteArray.size]
def QT:(⟨([]:bw).toArray⟩:bp).size=0:=rfl
def ER{l:bw}{t:Tr}(h:mE l =.ok t):dS t=0/\encTr t=l:=by
 unfold mE at h
 cases b:pNode 24 0 l with
 | error e=>rw[b]at h;simp at h
 | ok r =>
  have⟨i,g,f⟩:=r;rw[b]at h;simp only at h
  by_cases a:f=[]
  .rw[if_pos a]at h;injection h with h;subst h;subst a;have⟨d,j,k,c⟩:=pU 24 od 0 l i g [] od b;rw[show 25 - 24=1 from rfl]at c;refine⟨?_,by rw[d];simp⟩;unfold dS;rw[if_neg (by simpa using c),oa]
  .rw[if_neg a]at h;simp at h
section
abbrev suA (s:bp):A1:=.one (.d (.v (.string s)))
def O8{a r:bp}{b:Bool}(h:∀W,Calls prog 243 #[.string a,.string ⟨#[5]⟩] W λe w'=>e =.returned (.tuple #[.string r,.bool b])/\w'=W):Hd ⟨243,[suA a,suA ⟨#[5]⟩],.rz [suA r,bA b]⟩:=⟨tF func243,λok w j i=>by
 match j,i with
 | [u,v],⟨f,g,_⟩ =>
  rw[bW f,bW g];exact (h w).mono λe w' ⟨c,d⟩=>⟨d ▸ au _ _,_,c,[_,_],rfl,.v _,.v _,trivial⟩⟩
def ndZ:A1:=.agg [.d (.v (.i 0)),.d (.v (.i 0)),.d (.v (.i 0)),.d (.v (.string ⟨#[]⟩)),.d (.s 0 [])]
def decA:Except Int Tr->AV
 | .ok t=>.rz [ndA t,iA 0]
 | .error x=>.rz [ndZ,iA (if x=0 then 1 else x)]
def XH(r:Except Int Tr):(decA r).keys=[]:=by
 cases r with
 | ok t=>show (ndA t).keys++((iA 0).keys++[])=[];rw[yC];rfl
 | error x=>rfl
def ac6(t:Tr){ok:br}{w:cg}{v:cm}(h:gm (λ_=>none) ok w (ndY t) v):gm (λ_=>none) ok w (ndA t) v:=by
 obtain⟨k,n,p,s,_|⟨x,a⟩⟩:=t
 .have⟨j,e,b⟩:=h
  match j,b with
  | [l,m,o,q,r],⟨c,d,f,g,i,_⟩=>exact⟨_,e,c,d,f,g,gG i,trivial⟩
 .exact h
def Pb{l:bw} : Hd ⟨244,[suA (bs l)],decA (mE l)⟩:=by
 have h:=acO l;unfold mE
 cases d:pNode 24 0 l with
 | error e =>
  rw[d]at h;rw[show decA (.error e) =.rz [ndZ,iA e] by simp only[decA,if_neg (aci d)]];exact h
 | ok r =>
  have⟨t,n,i⟩:=r;rw[d]at h;simp only at h|-
  by_cases c:i=[]
  .rw[if_pos c]at h|-;exact h.conv (λ_ _ _ h=>h) (λok w v h=>by
    have⟨j,e,c⟩:=h
    match j,c with
    | [a,b],⟨f,g,_⟩=>exact⟨_,e,ac6 t f,g,trivial⟩) (nk:=XH (.ok t))
  .rw[if_neg c]at h|-;exact h
def SX{T:Ty}(b:okT T)(a:T.size<=50000000):Hd ⟨153,[tyA T],aQ (eB T)⟩:=U4 a
def Ps{T:Ty}{l:bw}(v:okT T)(y:l.length<=1000):Hd ⟨228,[tyA T,suA ⟨l.toArray⟩],parseA (jw T l)⟩:=by
 cases l with
 | nil =>
  have a:=O8 (xu _ (Ae _ QT));have⟨u,f⟩:=T;exact aF func228 [⟨_,a⟩]
 | cons b r =>
  by_cases j:b=5
  .subst j;simp only[js]at y;have⟨o,B,C⟩:=ZC r;have a:=O8 (CO _ _ r.length o od B C)
   by_cases q:r.length<=199
   .have e:jJ (decide ((200:Int)<((⟨((5:UInt8)::r).toArray⟩:bp).size:Int))) false:=eT (by rw[o];simp;omega);have d:=Pb (l:=r);rw[jw,if_pos ⟨rfl,q⟩]
    cases m:mE r with
    | error x =>
     rw[m]at d;have A:(if x=0 then 1 else x)≠0:=by split<;>omega
     unfold decA at d;generalize (if x=0 then 1 else x)=x at *;have⟨u,f⟩:=T;exact runT func228 [(21,fA),(30,bA true)] [⟨_,a⟩,⟨_,d⟩] (ob:=[jJ (decide ((200:Int)<((⟨((5:UInt8)::r).toArray⟩:bp).size:Int))) false,jJ (!decide (x=0)) true]) (al e (al (eT (by simpa using A)) al0))
    | ok t =>
     rw[m]at d;have w:=(ER m).1;have z:=first_okN t 1 (iV w).1;have g:=aet v z (by have:=(iV w).2;omega);simp only
     cases i:jf T t with
     | none =>
      rw[i]at g;have⟨u,f⟩:=T;have⟨k,n,p,s,az⟩:=t;exact runT func228 [(21,fA)] [⟨_,a⟩,⟨_,d⟩,⟨_,g⟩] (ob:=[jJ (decide ((200:Int)<((⟨((5:UInt8)::r).toArray⟩:bp).size:Int))) false]) (al e al0)
     | some x =>
      rw[i]at g;have hK:=SX v (by
       unfold jf at i;split at i
       .rename_i c;simp only[ai,qt,jt]at c;omega
       .cases i)
      simp only
      cases hk:eB T with
      | false =>
       rw[hk]at hK;have⟨u,f⟩:=T;have⟨k,n,p,s,az⟩:=t;exact runT func228 [(21,fA)] [⟨_,a⟩,⟨_,d⟩,⟨_,g⟩,⟨_,hK⟩] (ob:=[jJ (decide ((200:Int)<((⟨((5:UInt8)::r).toArray⟩:bp).size:Int))) false]) (al e al0)
      | true =>
       rw[hk]at hK;have⟨u,f⟩:=T;have⟨k,n,p,s,az⟩:=t;exact runT func228 [(21,fA)] [⟨_,a⟩,⟨_,d⟩,⟨_,g⟩,⟨_,hK⟩] (ob:=[jJ (decide ((200:Int)<((⟨((5:UInt8)::r).toArray⟩:bp).size:Int))) false]) (al e al0)
   .have e:jJ (decide ((200:Int)<((⟨((5:UInt8)::r).toArray⟩:bp).size:Int))) true:=eT (by rw[o];simp;omega);rw[jw,if_neg (λh=>q h.2)];have⟨u,f⟩:=T;exact runT func228 [(21,bA true)] [⟨_,a⟩] (ob:=[jJ (decide ((200:Int)<((⟨((5:UInt8)::r).toArray⟩:bp).size:Int))) true]) (al e al0)
  .have a:=O8 (xu _ (Ad _ r.length (Na b r) (by simp only[js]at y;omega) (Xi j)));rw[jw,if_neg (λh=>j h.1)];have⟨u,f⟩:=T;exact aF func228 [⟨_,a⟩]
end
def Xq{T:Ty}{l:bw}{x:Va}(h:jw T l=some x):okV x:=by
 cases l with
 | nil=>rw[jw]at h;cases h
 | cons b r =>
  rw[jw]at h;split at h
  .split at h
   .cases h
   .split at h
    .cases h
    .rename_i y a;split at h
     .cases h;exact D5 a
     .cases h
  .cases h
def WH{x:Va}(h:okV x)(hz:x.size<=20000000)(hs:(dR x).size<=301):VH x:=by
 have H:=acQ h hz hs;unfold VH oz;split
 .rename_i c;rw[if_pos c.1,if_pos c.2]at H;exact⟨λs e=>(by cases e;exact H),λe=>(by cases e)⟩
 .rename_i c;refine⟨λs e=>(by cases e),λ_=>?_⟩
  by_cases g:dS (dR x)=0
  .rw[if_pos g,if_neg λl=>c ⟨g,l⟩]at H;exact⟨4,ot,H⟩
  .rw[if_neg g]at H;exact⟨_,g,H⟩
def X9{T:Ty}{s:bp}(h:okT T)(m:s.size<=1000):SG T s:=by
 have k:s.toList=s.data.toList:=jc5 s;have c:=Ps (l:=s.data.toList) h (by rw[ja0];exact m);have j:(⟨s.data.toList.toArray⟩:bp)=s:=oe
 unfold SG;rw[j,<-k]at c
 cases d:jw T s.toList with
 | some x=>rw[d]at c;exact c
 | none =>
  rw[d]at c;refine c.conv (λ_ _ _ h=>h) (λok w v ⟨y,e,h⟩=>?_)
  match y,h with
  | [a,b],⟨⟨cs,f,g⟩,i,_⟩ =>
   match cs,g with
   | [z,A,B,C,D,E,F],⟨n,o,p,q,r,t,u,_⟩=>exact⟨_,e,⟨_,f,n,o,p,q,gG r,gG t,gG u,trivial⟩,i,trivial⟩
