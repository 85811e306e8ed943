import Derived.Test.YtgfdimkbfnpepaaGreatKsZal
namespace Go.Proofs.YtgfdimkbfnpepaaGreat
set_option linter.all false
open Go.Proofs.Tryz
set_option maxRecDepth 100000
set_option maxHeartbeats 4000000
open Go.ChangeShapes Go.WideShapes Go.ChangeAt Go.RowKit
variable {ops:Array Oper}{s:ByteArray}{Q:Exit->Act->World->Prop}{a k n:Int}{xs:List Tr}{l l':List UInt8}{us:List Value}{H c d m rb:Nat}{ok:Nat->Prop}{V:Nat->Value}{o:Oper}{T:Ty}{f:UInt8}{x:Va}{u:Value}{w w' w2 wr:World}
def uT (w:World) (rb:Nat) (n:Int) (l:List UInt8) (r:Ending) (w':World):Prop :=
 w.grownBy w' (some rb)/\match pNum l with
  | some (m,l')=>r =.returned (.i m)/\Rd w' rb (bs l') n 0
  | none=>r =.returned (.i 0)/\∃s,s.size<=maxLen/\Rd w' rb s n 1
def xY{x:Int}(h:Rd w rb s n x)(b:s.size<=maxLen)(c:x≠0) :
 Calls prog 228 #[.pointer (some ⟨rb,0,none⟩)] w λr w'=>r =.returned (.i 0)/\w'=w:=by
 have a:=jh (Hl h b c);have d:bits .and .i64 0 64=0:=ov
 have f:bits .and .i64 0 63=0:=ov
 clear h;go_enter func228,ntmps228;go_wp2_with fail;refine a.mono ?_;rintro e w' ⟨rfl,rfl⟩;go_wp2_with fail;refine jd2 1 ?_;rw[jg4];go_wp2_with fail;go_ret;exact⟨rfl,rfl⟩
def JX(h:Rd w rb (bs []) n 0) :
 Calls prog 228 #[.pointer (some ⟨rb,0,none⟩)] w (uT w rb n []):=by
 have f:=jh (uC h);have g:bits .and .i64 0 64=0:=ov
 have i:bits .and .i64 0 63=0:=ov
 clear h;go_enter func228,ntmps228;go_wp2_with fail;refine f.mono ?_;rintro e w' ⟨rfl,a,b⟩;have c:=jh a;have d:=jh b;clear a b;go_wp2_with fail;refine jd2 1 ?_;rw[jg4];go_wp2_with fail;go_ret;exact⟨d,rfl,_,ZR,c⟩
def AR (w:World) (rb:Nat) (n:Int) (f:UInt8) (l:List UInt8) (sz la sh:Value) (wr:World):Prop :=
 w.grownBy wr (some rb)/\((∃(k size:Nat) (last:UInt8) (l1:List UInt8),k<=8/\size<2 ^ (6+7*(8 - k))/\l1.length<=maxLen/\sz =.i size/\la =.i last.toNat/\sh =.i (6+7*(8 - k):Nat)/\Rd wr rb (bs l1) n 0 /\
  numTail k (6+7*(8 - k)) size last l1=numTail 8 6 (f.toNat % 64) f l/\(128<=last.toNat->128<=f.toNat)) \/
  (∃(size k:Nat) (s:ByteArray),size<9223372036854775808/\k<=8/\sz =.i size/\la =.i 0/\sh =.i (6+7*(8 - k):Nat)/\s.size<=maxLen/\Rd wr rb s n 1/\numTail 8 6 (f.toNat % 64) f l=none/\128<=f.toNat))
def Kb(k:Nat)(hk:k<=8):2 ^ (6+7*(8 - k))<=4611686018427387904:=by
 have : ∀k:Fin 9,2 ^ (6+7*(8 - k.val))<=4611686018427387904:=Ks
 exact this ⟨k,od⟩
def KS(x:Nat)(h:x<9223372036854775808):wrap64 (x:Int)=(x:Int):=ZV
def Xt(sh size x:Nat)(h:size<2 ^ sh)(hx:x<128)(hs:sh<=55):bits .or .i64 (size:Int) (wrap64 ((x:Int)*2 ^ sh))=((size+x*2 ^ sh:Nat):Int)/\size+x*2 ^ sh<2 ^ (sh+7):=by
 have hp:2 ^ sh<=36028797018963968:=by
  have : (36028797018963968:Nat)=2 ^ 55:=Ks
  rw[this];exact Nat.pow_le_pow_right od hs
 have hp0:0<2 ^ sh:=Nat.pow_pos od;have hxs:x*2 ^ sh+2 ^ sh<=128*2 ^ sh:=by have:=jb7 (2 ^ sh) (show x+1<=128 by omega);rw[jb1,Nat.one_mul]at this;exact this
 have e:((x:Int)*2 ^ sh)=((x*2 ^ sh:Nat):Int):=by push_cast;rfl
 rw[e,KS _ od,oO _ _ od od];have h2:=Nat.two_pow_add_eq_or_of_lt h x;rw[Nat.or_comm,ja6 x,<-h2];refine⟨by congr 1;omega,?_⟩;rw[Nat.pow_add,ja6];have : (2:Nat) ^ 7=128:=rfl;rw[this];omega
def Ea{b:World}(e:(f::l).length<=maxLen)(h:Rd b rb (bs l) n 0)(d:w.grownBy b (some rb))(c:a=((f.toNat % 64:Nat):Int)) :
 AR w rb n f l (.i a) (.i f.toNat) (.i 6) b:=by
 subst c;exact⟨d,.inl ⟨8,f.toNat % 64,f,l,od,by show _<64;omega,by simp at e;omega,rfl,rfl,rfl,h,rfl,λh=>h⟩⟩
def Ib{f b d:UInt8}{l2:List UInt8}{k c sh:Nat}(o:sh=6+7*(8 - (k+1)))(hk:k+1<=8)(g:c<2 ^ sh)(m:(b::l2).length<=maxLen)
 (hN:numTail (k+1) sh c d (b::l2)=numTail 8 6 (f.toNat % 64) f l) (hlast:128<=d.toNat) (hf:128<=f.toNat) (hg:w.grownBy wr (some rb)) (h:Rd w2 rb (bs l2) n 0) (hg2:wr.grownBy w2 (some rb)) (ha:a=bits .or .i64 (c:Int) (wrap64 (((b.toNat % 128:Nat):Int)*2 ^ sh))) :
 AR w rb n f l (.i a) (.i b.toNat) (.i ((sh:Int)+7)) w2:=by
 have j:=Xt sh c (b.toNat % 128) g od od;rw[j.1]at ha;subst ha;rw[xX _ _ _ _ _ _ od]at hN;have e:6+7*(8 - k)=sh+7:=od
 exact⟨fF hg hg2,.inl ⟨k,_,b,l2,od,by rw[e];exact j.2,by simp at m;omega,rfl,rfl,by rw[e];rfl,h,by rw[e];exact hN,λ_=>hf⟩⟩
def Ia{f c:UInt8}{k b sh:Nat}(g:sh=6+7*(8 - (k+1)))(hk:k+1<=8)(m:b<2 ^ sh)
 (hN:numTail (k+1) sh b c []=numTail 8 6 (f.toNat % 64) f l) (hlast:128<=c.toNat) (hf:128<=f.toNat) (hg:w.grownBy wr (some rb)) (h:Rd w2 rb (bs []) n 1) (hg2:wr.grownBy w2 (some rb)) (ha:a=bits .or .i64 (b:Int) 0) :
 AR w rb n f l (.i a) (.i 0) (.i ((sh:Int)+7)) w2:=by
 have j:=Kb (k+1) hk;rw[<-g]at j;have d:=oO b 0 od od;rw[Nat.or_zero]at d;rw[show ((0:Nat):Int)=0 from rfl]at d;rw[d]at ha;subst ha;rw[zR _ _ _ _ od]at hN;have e:6+7*(8 - k)=sh+7:=od
 exact⟨fF hg hg2,.inr ⟨b,k,_,od,od,rfl,rfl,by rw[e];rfl,ZR,h,hN.symm,hf⟩⟩
def eD(b:pNum l=none)(a:w.grownBy w' (some rb))(c:s.size<=maxLen)(h:Rd w' rb s n 1):uT w rb n l (.returned (.i 0)) w':=by refine⟨a,?_⟩;rw[b];exact⟨rfl,s,c,h⟩
def kY{m m':Int}(c:pNum l=some (m,l'))(b:m'=m)(a:w.grownBy w' (some rb))(h:Rd w' rb (bs l') n 0):uT w rb n l (.returned (.i m')) w':=by subst b;refine⟨a,?_⟩;rw[c];exact⟨rfl,h⟩
def JW (h:Rd w rb (bs (f::l)) n 0) (Q:(f::l).length<=maxLen) :
 Calls prog 228 #[.pointer (some ⟨rb,0,none⟩)] w (uT w rb n (f::l)):=by
 have HT:=jh (jB h Q);have hf:=f.toNat_lt;have T:=VZ f.toNat od;rcases (show f.toNat / 64 % 2=0\/f.toNat / 64 % 2=1 by omega)with r|r
 case' inl=>rw[r,show (((0:Nat)*64:Nat):Int)=0 from rfl]at T
 case' inr=>rw[r,show (((1:Nat)*64:Nat):Int)=64 from rfl]at T
 all_goals
  have a2:=Le f.toNat od;have A:=jh r;have HL:=jh Q;clear h r Q;go_enter func228,ntmps228;go_wp2_with fail;refine HT.mono ?_;rintro e w1 ⟨rfl,H,I⟩;have H1:=jh H;have L:=jh I;clear H I;go_wp2_with fail;go_loopw [5,6,7] (λsz Z sh wr=>AR w rb n f l sz Z sh wr) (λsz Z sh wr=>(2*(100 - intOf sh)).toNat)
  case atStart=>exact Ea HL H1 L (by push_cast;rfl)
  case round =>
   obtain⟨B,hr⟩:=hrel;rcases hr with⟨k,g,i,K,J,u,q,rfl,rfl,rfl,x,v,hF⟩|⟨g,k,s,u,J,rfl,rfl,rfl,V,x,v,hF⟩
   .by_cases t:128<=i.toNat
    .have hF:=hF t
     cases k with
     | zero =>
      have N:Hid (pNum (f::l)=none):=by show _=_;rw[numTail.eq_def]at v;simp[show ¬i.toNat<128 by omega]at v;rw[pNum,<-v]
      have j:=jh (lI x 1);have p:=jh B;have y:Hid ((bs K).size<=maxLen):=by show _<=_;rw[eQ];exact q
      clear x v u q B hF;go_wp2_with (go_at_call 233;refine (DL _).mono ?_;rintro e w' ⟨rfl,rfl⟩);refine j.mono ?_;rintro e w2 ⟨rfl,z,a⟩;have o:=jh z;have d:=jh a;clear z a;go_wp2_with fail;go_ret;exact eD N (fF p d) y o
     | succ k =>
      obtain⟨sh,C⟩:∃sh,sh=6+7*(8 - (k+1)):=⟨_,rfl⟩;rw[<-C]at v u|-;have W:6<=sh:=od
      have X:sh<=55:=od
      obtain⟨F,S,G,M,R,p⟩:=wj C v u q hF B
      cases K with
      | nil =>
       have P:=jh (uC x);have a4:bits .and .i64 0 127=0:=ov
       clear C x v u q hF B;go_wp2_with (go_at_call 233;refine (DL _).mono ?_;rintro e w' ⟨rfl,rfl⟩);refine P.mono ?_;rintro e w2 ⟨rfl,z,a⟩;have o:=jh z;have d:=jh a;clear z a;go_wp2_with fail;go_roundw
       case rel=>exact Ia F J G S t R p o d ot
       case measure=>simp[intOf];omega
      | cons b l2 =>
       have P:=jh (jB x q);have a4:=Jc b.toNat (by have:=b.toNat_lt;omega);clear C x v u q hF B;go_wp2_with (go_at_call 233;refine (DL _).mono ?_;rintro e w' ⟨rfl,rfl⟩);refine P.mono ?_;rintro e w2 ⟨rfl,z,a⟩;have o:=jh z;have d:=jh a;clear z a;go_wp2_with fail;go_roundw
       case rel=>exact Ib F J G M S t R p o d (by push_cast;rfl)
       case measure=>simp[intOf];omega
    .rw [wK _ _ _ _ _ od]at v;have m:Hid (pNum (f::l)=if (128<=f.toNat/\i.toNat=0)\/1152921504606846976<g\/(f.toNat / 64 % 2=1/\g=0)then none else some (if f.toNat / 64 % 2=1 then -(g:Int)else g,K)):=by show _=_;rw[pNum,<-v]
     have hp:=Kb k J;obtain⟨j,E,p⟩:=JY (lI x 1) x B;have y:Hid ((bs K).size<=maxLen):=by show _<=_;rw[eQ];exact q
     have Y:g<4611686018427387904:=od
     clear x v u q B hF hp J
     by_cases h3:1152921504606846976<g
     .by_cases H:128<=f.toNat
      .by_cases z:i.toNat=0
       .go_wp2_with fail;refine j.mono ?_;rintro e w2 ⟨rfl,c,a⟩;have o:=jh c;have d:=jh a;clear c a;go_wp2_with fail;go_ret;exact eD (by rw[m.out,oc]) (fF p d) y o
       .go_wp2_with fail;refine j.mono ?_;rintro e w2 ⟨rfl,c,a⟩;have o:=jh c;have d:=jh a;clear c a;go_wp2_with fail;go_ret;exact eD (by rw[m.out,oc]) (fF p d) y o
      .go_wp2_with fail;refine j.mono ?_;rintro e w2 ⟨rfl,c,a⟩;have o:=jh c;have d:=jh a;clear c a;go_wp2_with fail;go_ret;exact eD (by rw[m.out,oc]) (fF p d) y o
     .by_cases h4:g=0
      .by_cases H:128<=f.toNat
       .by_cases z:i.toNat=0
        .go_wp2_with fail;refine j.mono ?_;rintro e w2 ⟨rfl,c,a⟩;have o:=jh c;have d:=jh a;clear c a;go_wp2_with fail;go_ret;exact eD (by rw[m.out,oc]) (fF p d) y o
        .have O:((i.toNat:Int)==0)=false:=by simp;omega
         go_wp2_with fail;have D:=A.out
         first
         | (go_ret
            exact kY (by rw[m.out,oa]) Kx p E)
         | (refine j.mono ?_;rintro e w2 ⟨rfl,c,a⟩
            have o:=jh c;have d:=jh a;clear c a;go_wp2_with fail;go_ret;exact eD (by rw[m.out,oc]) (fF p d) y o)
       .go_wp2_with fail;have D:=A.out
        first
        | (go_ret
           exact kY (by rw[m.out,oa]) Kx p E)
        | (refine j.mono ?_;rintro e w2 ⟨rfl,c,a⟩
           have o:=jh c;have d:=jh a;clear c a;go_wp2_with fail;go_ret;exact eD (by rw[m.out,oc]) (fF p d) y o)
      .have aa:((g:Int)==0)=false:=by simp;omega
       have U:-(g:Int)≠0:=od
       by_cases H:128<=f.toNat
       .by_cases z:i.toNat=0
        .go_wp2_with fail;refine j.mono ?_;rintro e w2 ⟨rfl,c,a⟩;have o:=jh c;have d:=jh a;clear c a;go_wp2_with fail;go_ret;exact eD (by rw[m.out,oc]) (fF p d) y o
        .have O:((i.toNat:Int)==0)=false:=by simp;omega
         go_wp2_with fail;have D:=A.out;go_ret;exact kY (by rw[m.out,oa]) Kx p E
       .go_wp2_with fail;have D:=A.out;go_ret;exact kY (by rw[m.out,oa]) Kx p E
   .have N:Hid (pNum (f::l)=none):=by
     show _=_;rw[pNum,v]
    obtain⟨j,E,p,y⟩:=JT (oG x ov 1) x B V;clear x v V B;have ab:(128:Int)<=f.toNat:=od
    go_wp2_with fail;refine j.mono ?_;rintro e w2 ⟨rfl,rfl⟩;go_wp2_with fail;go_ret;exact eD N p y E
def rZ(h:Rd w rb (bs l) n 0)(a:l.length<=maxLen) :
 Calls prog 228 #[.pointer (some ⟨rb,0,none⟩)] w (uT w rb n l):=by
 cases l with
 | nil=>exact JX h
 | cons f l =>
  exact JW h a
def kR (l:List UInt8):Option (Nat×List UInt8):=match pNum l with
 | some (m,l')=>if m<0 then none else some (m.toNat,l')
 | none=>none
def A8(h:Rd w rb (bs l) n 0)(g:l.length<=maxLen)(a:kR l=some (m,l')) :
 Calls prog 234 #[.pointer (some ⟨rb,0,none⟩)] w λr w'=>r =.returned (.i m)/\w.grownBy w' (some rb)/\Rd w' rb (bs l') n 0:=by
 have q:=jh (rZ h g);clear h g;unfold kR at a
 cases c:pNum l with
 | none=>rw[c]at a;simp at a
 | some r =>
  obtain⟨x,s⟩:=r;rw[c]at a;simp only at a
  by_cases j:x<0
  .rw[if_pos j]at a;simp at a
  .rw[if_neg j]at a;simp only[qk,zd]at a;obtain⟨rfl,rfl⟩:=a;have o:=jh c;clear c;have d:((x.toNat:Nat):Int)=x:=by omega
   rw[d];go_enter func234,ntmps234;go_wp2_with fail;refine q.mono ?_;rintro e t ⟨f,b⟩;rw[o.out]at b;obtain⟨rfl,b⟩:=b;have p:=jh b;have k:=jh f;clear b f;go_wp2_with fail;go_ret;exact⟨rfl,k,p⟩
def Gp(h:Rd w rb (bs l) n 0)(t:l.length<=maxLen)(b:kR l=none) :
 Calls prog 234 #[.pointer (some ⟨rb,0,none⟩)] w λr w'=>r =.returned (.i 0)/\w.grownBy w' (some rb)/\∃s,s.size<=maxLen/\Rd w' rb s n 1:=by
 have v:=jh (rZ h t);have g:∀x j,pNum l=some (x,j)->j.length<=maxLen:=λx j e=>by have:=(oQ e).2;rw[this,qS]at t;omega
 clear h t;unfold kR at b
 cases c:pNum l with
 | none =>
  have o:=jh c;clear c b;go_enter func234,ntmps234;go_wp2_with fail;refine v.mono ?_;rintro e A ⟨d,a⟩;rw[o.out]at a;obtain⟨rfl,a⟩:=a;have p:=jh a;have k:=jh d;clear a d;go_wp2_with fail;go_ret;exact⟨rfl,k,p⟩
 | some r =>
  obtain⟨x,j⟩:=r;have u:=g x j c;rw[c]at b;simp only at b
  by_cases z:x<0
  .have o:=jh c;clear c b;go_enter func234,ntmps234;go_wp2_with fail;refine v.mono ?_;rintro e A ⟨d,a⟩;rw[o.out]at a;obtain⟨rfl,a⟩:=a;have p:=jh a;have k:=jh d;clear a d;go_wp2_with fail;refine (lI p 1).mono ?_;rintro e w2 ⟨rfl,y,f⟩;have q:=jh y;have m:=jh f;clear y f;go_wp2_with fail;go_ret;exact⟨rfl,fF k m,_,by rw[eQ];exact u,q⟩
  .rw[if_neg z]at b;simp at b
def Gq{x:Int}(h:Rd w rb s n x)(b:s.size<=maxLen)(c:x≠0) :
 Calls prog 234 #[.pointer (some ⟨rb,0,none⟩)] w λr w'=>r =.returned (.i 0)/\w'=w:=by
 have a:=jh (xY h b c);clear h;go_enter func234,ntmps234;go_wp2_with fail;refine a.mono ?_;rintro e w' ⟨rfl,rfl⟩;go_wp2_with fail;go_ret;exact⟨rfl,rfl⟩
def yf (l:List UInt8):Option (List UInt8×List UInt8):=match kR l with
 | some (m,l')=>if 200<m\/l'.length<m then none else some (l'.take m,l'.drop m)
 | none=>none
def wL(h:kR l=some (m,l')):l'.length<=l.length:=by
 unfold kR at h
 cases a:pNum l with
 | none=>rw[a]at h;simp at h
 | some r =>
  obtain⟨x,c⟩:=r;have:=(oQ a).2;rw[a]at h;simp only at h
  by_cases b:x<0
  .rw[if_pos b]at h;simp at h
  .rw[if_neg b]at h;simp only[qk,zd]at h;obtain⟨_,rfl⟩:=h;rw[this,qS];omega
def Vv{s:List UInt8}(h:Rd w rb (bs l) n 0)(t:l.length<=maxLen)(a:yf l=some (s,l')) :
 Calls prog 229 #[.pointer (some ⟨rb,0,none⟩)] w λr w'=>r =.returned (.string (bs s))/\w.grownBy w' (some rb)/\Rd w' rb (bs l') n 0:=by
 unfold yf at a
 cases c:kR l with
 | none=>rw[c]at a;simp at a
 | some r =>
  obtain⟨m,o⟩:=r;have y:=jh (A8 h t c);have i:=wL c;rw[c]at a;simp only at a
  by_cases g:200<m\/o.length<m
  .rw[if_pos g]at a;simp at a
  rw[if_neg g]at a;simp only[qk,zd]at a;obtain⟨rfl,rfl⟩:=a;have z:(m:Int)<=200:=od
  have k:m<=o.length:=od
  have j:o.length<=maxLen:=od
  clear h t c i g;go_enter func229,ntmps229;go_wp2_with fail;refine y.mono ?_;rintro e A ⟨rfl,q,u⟩;have x:=jh u;have v:=jh q;clear u q;go_wp2_with fail;refine (Mf x j m k).mono ?_;rintro e w2 ⟨rfl,p,b⟩;have f:=jh p;have d:=jh b;clear p b;go_wp2_with fail;go_ret;exact⟨rfl,fF v d,f⟩
def Vu(h:Rd w rb (bs l) n 0)(u:l.length<=maxLen)(j:yf l=none) :
 Calls prog 229 #[.pointer (some ⟨rb,0,none⟩)] w λr w'=>r =.returned (.string ⟨#[]⟩)/\w.grownBy w' (some rb)/\∃s,s.size<=maxLen/\Rd w' rb s n 1:=by
 unfold yf at j
 cases o:kR l with
 | none =>
  have t:=jh (Gp h u o);clear h u j o;go_enter func229,ntmps229;go_wp2_with fail;refine t.mono ?_;rintro e B ⟨rfl,d,s,A,f⟩;have k:=jh f;have p:=jh d;clear f d;go_wp2_with fail;refine (wO k A ov 0).mono ?_;rintro e w2 ⟨rfl,rfl⟩;go_wp2_with fail;go_ret;exact⟨rfl,p,s,A,k⟩
 | some r =>
  obtain⟨m,y⟩:=r;have t:=jh (A8 h u o);have v:=wL o;have c:y.length<=maxLen:=od
  rw[o]at j;simp only at j
  by_cases C:200<m\/y.length<m
  .clear h u o v j
   by_cases z:200<m
   .have i:(200:Int)<m:=by omega
    go_enter func229,ntmps229;go_wp2_with fail;refine t.mono ?_;rintro e B ⟨rfl,d,f⟩;have k:=jh f;have p:=jh d;clear f d;go_wp2_with fail;refine (lI k 1).mono ?_;rintro e w2 ⟨rfl,q,a⟩;have b:=jh q;have g:=jh a;clear q a;go_wp2_with fail;refine (wO b (by rw[eQ];exact c) ov m).mono ?_;rintro e D ⟨rfl,rfl⟩;go_wp2_with fail;go_ret;exact⟨rfl,fF p g,_,by rw[eQ];exact c,b⟩
   .have i:(m:Int)<=200:=by omega
    have x:(y.length:Int)<m:=od
    go_enter func229,ntmps229;go_wp2_with fail;refine t.mono ?_;rintro e B ⟨rfl,d,f⟩;have k:=jh f;have p:=jh d;clear f d;go_wp2_with fail;refine (Me k c m x).mono ?_;rintro e w2 ⟨rfl,q,a⟩;have b:=jh q;have g:=jh a;clear q a;go_wp2_with fail;go_ret;exact⟨rfl,fF p g,_,by rw[eQ];exact c,b⟩
  .rw[if_neg C]at j;simp at j
def Rk{b:UInt8}(h:Rd w rb (bs (b::l)) n 0)(c:(b::l).length<=maxLen)(k:Lf.gD b.toNat=true) :
 Calls prog 230 #[.pointer (some ⟨rb,0,none⟩)] w λr w'=>r =.returned (.i b.toNat)/\w.grownBy w' (some rb)/\Rd w' rb (bs l) n 0:=by
 have j:=jh (jB h c);clear h c;go_enter func230,ntmps230;go_wp2_with fail;refine j.mono ?_;rintro e m ⟨rfl,d,a⟩;have g:=jh d;have f:=jh a;clear d a;go_wp2_with fail;refine (Lf.rQ _ _).mono ?_;rintro e w2 ⟨rfl,rfl⟩;go_wp2_with fail;go_ret;exact⟨rfl,f,g⟩
def UI(h:Rd w rb (bs l) n 0)(g:l.length<=maxLen)(q:∀b l',l=b::l'->Lf.gD b.toNat=false) :
 Calls prog 230 #[.pointer (some ⟨rb,0,none⟩)] w λr w'=>(∃p:Int,r =.returned (.i p))/\w.grownBy w' (some rb)/\∃s,s.size<=maxLen/\Rd w' rb s n 1:=by
 cases l with
 | nil =>
  have o:=jh (uC h);have u:Lf.gD 0=false:=ov
  clear h g q;go_enter func230,ntmps230;go_wp2_with fail;refine o.mono ?_;rintro e v ⟨rfl,d,a⟩;have f:=jh d;have j:=jh a;clear d a;go_wp2_with fail;refine (Lf.rQ _ _).mono ?_;rintro e w2 ⟨rfl,rfl⟩;go_wp2_with fail;refine (oG f ov 1).mono ?_;rintro e x ⟨rfl,rfl⟩;go_wp2_with fail;go_ret;exact⟨⟨0,rfl⟩,j,_,ZR,f⟩
 | cons b l =>
  have o:=jh (jB h g);have u:=q b l rfl;have HL:Hid (l.length<=maxLen):=by show _<=_;simp at g;omega
  clear h g q;go_enter func230,ntmps230;go_wp2_with fail;refine o.mono ?_;rintro e v ⟨rfl,d,a⟩;have f:=jh d;have j:=jh a;clear d a;go_wp2_with fail;refine (Lf.rQ _ _).mono ?_;rintro e w2 ⟨rfl,rfl⟩;go_wp2_with fail;refine (lI f 1).mono ?_;rintro e x ⟨rfl,t,c⟩;have m:=jh t;have k:=jh c;clear t c;go_wp2_with fail;go_ret;exact⟨⟨_,rfl⟩,fF j k,_,by rw[eQ];exact HL,m⟩
def zm (f:Nat->List UInt8->Except Int (Tr×Nat×List UInt8)):Nat->Nat->List UInt8->Except Int (List Tr×Nat×List UInt8)
 | 0,n,l=>.ok ([],n,l)
 | k+1,n,l=>match f n l with
  | .error e=>.error e
  | .ok (t,n',l')=>match zm f k n' l' with
   | .error e=>.error e
   | .ok (ts,n'',l'')=>.ok (t::ts,n'',l'')
def pQ (f:Nat->List UInt8->Except Int (Tr×Nat×List UInt8)) (n:Nat) (l:List UInt8):Except Int (List Tr×Nat×List UInt8) :=
 match kR l with
 | none=>.error 1
 | some (c,l')=>zm f c n l'
def pNode:Nat->Nat->List UInt8->Except Int (Tr×Nat×List UInt8)
 | 0,_,_=>.error 4
 | d+1,n,l=>if n=300 then .error 4 else match l with
  | []=>.error 1
  | b::l =>
   if b.toNat=0 then match pNum l with
    | none=>.error 1
    | some (m,l')=>.ok (.nd 0 m 0 (bs []) [],n+1,l')
   else if b.toNat=1 then match yf l with
    | none=>.error 1
    | some (s,l')=>.ok (.nd 1 0 0 (bs s) [],n+1,l')
   else if b.toNat=2 then match l with
    | []=>.error 1
    | p::l=>if Lf.gD p.toNat=false then .error 1 else match pQ (λn l=>pNode d n l) (n+1) l with
     | .error e=>.error e
     | .ok (ts,n',l')=>.ok (.nd 2 0 p.toNat (bs []) ts,n',l')
   else if b.toNat=3 then match pQ (λn l=>pNode d n l) (n+1) l with
    | .error e=>.error e
    | .ok (ts,n',l')=>.ok (.nd 3 0 0 (bs []) ts,n',l')
   else .error 1
def TK(l:List UInt8):(bs l).data.toList=l:=by simp[bs]
def sF(h:kR l=some (c,l')):c<=1152921504606846976/\l=pE c++l':=by
 unfold kR at h
 cases a:pNum l with
 | none=>rw[a]at h;simp at h
 | some r =>
  obtain⟨x,f⟩:=r;obtain⟨e,d⟩:=oQ a;rw[a]at h;simp only at h
  by_cases b:x<0
  .rw[if_pos b]at h;simp at h
  .rw[if_neg b]at h;simp only[qk,zd]at h;obtain⟨rfl,rfl⟩:=h;rw[Int.toNat_of_nonneg od];exact⟨od,d⟩
def zS{s:List UInt8}(h:yf l=some (s,l')):s.length<=200/\l=pE s.length++s++l':=by
 unfold yf at h
 cases a:kR l with
 | none=>rw[a]at h;simp at h
 | some r =>
  obtain⟨m,c⟩:=r;obtain⟨f,d⟩:=sF a;rw[a]at h;simp only at h
  by_cases b:200<m\/c.length<m
  .rw[if_pos b]at h;simp at h
  rw[if_neg b]at h;simp only[qk,zd]at h;obtain⟨rfl,rfl⟩:=h;have e:(c.take m).length=m:=Kd
  rw[e];exact⟨od,by rw[ub,qc6];exact d⟩
def Sound (d:Nat) (n:Nat) (l:List UInt8) (t:Tr) (n':Nat) (l':List UInt8):Prop:=l=encTr t++l'/\n'=n+t.size/\n'<=300/\bC (25 - d) t=0
def J7{f:Nat->List UInt8->Except Int (Tr×Nat×List UInt8)}(y:∀n l t a l',n<=300->f n l =.ok (t,a,l')->Sound d n l t a l') :
 ∀(k n:Nat) (l:List UInt8) (ts:List Tr) (a:Nat) (l':List UInt8),n<=300->zm f k n l =.ok (ts,a,l')->l=encTrs ts++l'/\a=n+sizes ts/\a<=300/\bG (25 - d) ts=0/\ts.length=k:=by
 intro k
 induction k with
 | zero =>
  intro n l ts a l' g h;simp only[zm,jg1,zd]at h;obtain⟨rfl,rfl,rfl⟩:=h;exact⟨by simp[encTrs],by simp[sizes],g,by simp[bG],rfl⟩
 | succ k z =>
  intro n l ts a l' g h;rw[zm]at h
  cases b:f n l with
  | error e=>rw[b]at h;simp at h
  | ok r =>
   obtain⟨t,n1,i⟩:=r;rw[b]at h;simp only at h
   cases c:zm f k n1 i with
   | error e=>rw[c]at h;simp at h
   | ok r =>
    obtain⟨j,B,A⟩:=r;rw[c]at h;simp only[jg1,zd]at h;obtain⟨rfl,rfl,rfl⟩:=h;obtain⟨m,o,p,q⟩:=y n l t n1 i g b;obtain⟨s,u,v,w,x⟩:=z n1 i j B A p c;refine⟨by rw[m,s,encTrs];simp,by rw[u,o,sizes];omega,v,?_,by simp[x]⟩;rw[bG,q];simpa using w
def vM(k n p:Int)(s:ByteArray)(l:Nat)(a:Lf.rP k=true)(b:¬(k=2/\Lf.gD p=false))(c:Lf.qM k n p s l=false)(d:-1152921504606846976<=n/\n<=1152921504606846976)(e:s.size<=200):Lf.fD k n p s l=0:=by unfold Lf.fD;rw[if_neg (by simp[a]),if_neg b,if_neg (by simp[c]),oa,oa]
def pR{f:Nat->List UInt8->Except Int (Tr×Nat×List UInt8)}(o:∀n l t a l',n<=300->f n l =.ok (t,a,l')->Sound d n l t a l'){n:Nat}{ts:List Tr}{a:Nat}(p:n<=300)
 (h:pQ f n l =.ok (ts,a,l')):l=pE ts.length++encTrs ts++l'/\a=n+sizes ts/\a<=300/\bG (25 - d) ts=0:=by
 unfold pQ at h
 cases b:kR l with
 | none=>rw[b]at h;simp at h
 | some r =>
  obtain⟨c,q⟩:=r;obtain⟨s,m⟩:=sF b;rw[b]at h;obtain⟨e,g,i,j,k⟩:=J7 o c n q ts a l' p h;subst k;exact⟨by rw[m,e];simp,g,i,j⟩
def pU(d:Nat):d<=24->∀(n:Nat) (l:List UInt8) (t:Tr) (q:Nat) (l':List UInt8),n<=300->pNode d n l =.ok (t,q,l')->Sound d n l t q l':=by
 induction d with
 | zero=>intro _ n l t q l' D h;simp[pNode]at h
 | succ d o =>
  intro H n l t q l' D h;have o:=o od;rw[pNode.eq_def]at h;simp only at h
  by_cases g:n=300
  .rw[if_pos g]at h;simp at h
  rw[if_neg g]at h;have hF:∀(k m p:Int) (s:ByteArray) (f:List Tr),Lf.fD k m p s f.length=0->bG (25 - d) f=0->bC (25 - (d+1)) (.nd k m p s f)=0:=by intro k m p s f F E;rw[bC,oa,if_neg (by simpa using F),show 25 - (d+1)+1=25 - d from by omega];exact E
  cases l with
  | nil=>simp at h
  | cons b l =>
   simp only at h
   by_cases w:b.toNat=0
   .rw[if_pos w]at h
    cases c:pNum l with
    | none=>rw[c]at h;simp at h
    | some r =>
     obtain⟨m,B⟩:=r;obtain⟨i,j⟩:=oQ c;rw[c]at h;simp only[jg1,zd]at h;obtain⟨rfl,rfl,rfl⟩:=h;refine⟨?_,by simp[Tr.size,sizes],od,?_⟩
     .rw[encTr,if_pos rfl,j,yE w];rfl
     .exact hF 0 m 0 (bs []) [] (vM _ _ _ _ _ ov ov (by rfl) i ZR) (by simp[bG])
   rw[if_neg w]at h
   by_cases x:b.toNat=1
   .rw[if_pos x]at h
    cases c:yf l with
    | none=>rw[c]at h;simp at h
    | some r =>
     obtain⟨s,B⟩:=r;obtain⟨i,j⟩:=zS c;rw[c]at h;simp only[jg1,zd]at h;obtain⟨rfl,rfl,rfl⟩:=h;refine⟨?_,by simp[Tr.size,sizes],od,?_⟩
     .rw[encTr,if_neg ov,if_pos rfl,j,yE x,eQ,TK];rfl
     .exact hF 1 0 0 (bs s) [] (vM _ _ _ _ _ ov ov (by rfl) od (by rw[eQ];exact i)) (by simp[bG])
   rw[if_neg x]at h
   by_cases y:b.toNat=2
   .rw[if_pos y]at h
    cases l with
    | nil=>simp at h
    | cons p l =>
     simp only at h
     by_cases A:Lf.gD p.toNat=false
     .rw[if_pos A]at h;simp at h
     rw[if_neg A]at h
     cases c:pQ (λn l=>pNode d n l) (n+1) l with
     | error e=>rw[c]at h;simp at h
     | ok r =>
      obtain⟨C,G,B⟩:=r;obtain⟨i,j,u,v⟩:=pR o od c;rw[c]at h;simp only[jg1,zd]at h;obtain⟨rfl,rfl,rfl⟩:=h;refine⟨?_,by rw[j,Tr.size];omega,u,?_⟩
      .rw[encTr,if_neg ov,if_neg ov,if_pos rfl,i,yE y];simp only[qd2,Int.toNat_natCast];rw[<-yE (a:=p) rfl];rfl
      .exact hF 2 0 p.toNat (bs []) C (vM _ _ _ _ _ ov (by simpa using A) (by rfl) od ZR) v
   rw[if_neg y]at h
   by_cases z:b.toNat=3
   .rw[if_pos z]at h
    cases c:pQ (λn l=>pNode d n l) (n+1) l with
    | error e=>rw[c]at h;simp at h
    | ok r =>
     obtain⟨C,G,B⟩:=r;obtain⟨i,j,u,v⟩:=pR o od c;rw[c]at h;simp only[jg1,zd]at h;obtain⟨rfl,rfl,rfl⟩:=h;refine⟨?_,by rw[j,Tr.size];omega,u,?_⟩
     .rw[encTr,if_neg ov,if_neg ov,if_neg ov,i,yE z];rfl
     .exact hF 3 0 0 (bs []) C (vM _ _ _ _ _ ov ov (by rfl) od ZR) v
   .rw[if_neg z]at h;simp at h
def mE (l:List UInt8):Except Int Tr:=match pNode 24 0 l with
 | .ok (t,_,l')=>if l'=[]then .ok t else .error 1
 | .error e=>.error e
def jw (T:Ty):List UInt8->Option Va
 | []=>none
 | b::r=>if b=5/\r.length<=199 then (match mE r with
  | .error _=>none
  | .ok t=>match jf T t with
   | none=>none
   | some x=>if eB T=true then some x else none)else none
def TR (T:Ty) (x:Va):Bool:=pY T x&&eB T
def M8(h:TR T x=true):bn T=true/\hasV x T=true/\eB T=true:=by unfold TR pY at h;simp only[qu]at h;exact⟨h.1.1,h.1.2,h.2⟩
def P9(h:TR T x=true):(dR x).size<=301:=by obtain⟨a,b,c⟩:=M8 h;exact (OD b c (dE a).1).2.2
mutual
def vsum:Va->Nat
 | .mk _ _ _ s args _ _=>s.size / 8+1+vsums args
def vsums:List Va->Nat
 | []=>0
 | x::xs=>vsum x+vsums xs
end
def VD(x:Va):vsum x=x.s.size / 8+1+vsums x.args:=by cases x;rw[vsum];rfl
def pushS:List Va->List (List Va)
 | []=>[]
 | x::xs=>(if x.args.length=0 then []else [x.args])++pushS xs
def BV(l:List Va)(x:Va):pushS (l++[x])=pushS l++(if x.args.length=0 then []else [x.args]):=by
 induction l with
 | nil=>simp[pushS]
 | cons y l a=>simp[pushS,a]
def CY (M:List (List Va)):Nat:=(M.map vsums).sum
def nD (M:List (List Va)):Nat:=(M.map λl=>vsizes l+1).sum
def zY(a b:List (List Va)):CY (a++b)=CY a+CY b:=by simp[CY]
def Cr(l:List Va):CY [l]=vsums l:=by simp[CY]
def gQ(a b:List (List Va)):nD (a++b)=nD a+nD b:=by simp[nD]
def qH(l:List Va):nD [l]=vsizes l+1:=by simp[nD]
def ve(M:List (List Va)):M.length<=nD M:=by
 induction M with
 | nil=>simp
 | cons r l a=>simp only[nD,qb7,jh3,jn]at a|-;omega
def wM(l:List Va):nD (pushS l)<=vsizes l:=by
 induction l with
 | nil=>simp[pushS,nD,vsizes]
 | cons x l a =>
  have h:=eP x;rw[pushS,gQ,vsizes];split
  .simp[nD]at a|-;omega
  .rw[qH];omega
def gM.last: ∀{M:List (List Va)},gM w M (us++[u])->∃b l,M=b++[l]/\gM w b us/\∃a c V,u =.slice a l.length c/\aT (λ_=>True) w l a V/\vsizes l<=20000000:=by
 induction us with
 | nil =>
  intro M h
  match M,h with
  | [r],h=>exact⟨[],r,rfl,trivial,h.1⟩
  | r::i::g,h=>exact h.2.elim
  | [],h=>exact h.elim
 | cons x us f =>
  intro M h
  match M,h with
  | r::g,h =>
   obtain⟨b,l,rfl,d,e⟩:=f h.2;exact⟨r::b,l,rfl,⟨h.1,d⟩,e⟩
  | [],h=>exact h.elim
def Mj(a b:Int):wrap64 (wrap64 a+b)=wrap64 (a+b):=ZV
def Ey(a:Int):wrap64 (wrap64 a)=wrap64 a:=ZV
def PO (W:World) (R:Int) (N n:Nat) (sv tv:Value) (wr:World):Prop :=
 ∃(us:List Value) (M:List (List Va)) (a:Int),kD W.heap.size wr tv us/\gM W M us/\nD M=n/\n<=N/\sv =.i a/\wrap64 a=a/\wrap64 (a+(CY M:Nat))=R/\W.grownBy wr none
def Y1 (W:World) (R:Int) (M':List (List Va)) (l:List Va) (j:Nat) (sv tv:Value) (wr:World):Prop :=
 ∃(us:List Value) (a:Int),kD W.heap.size wr tv us/\gM W (M'++pushS (l.take j)) us/\sv =.i a/\wrap64 a=a/\wrap64 (a+((CY (M'++pushS (l.take j))+vsums (l.drop j):Nat):Int))=R/\W.grownBy wr none
def KQ(l:List Va)(j:Nat)(h:j<l.length):vsums (l.drop j)=vsum l[j]+vsums (l.drop (j+1)):=by rw[qa1 h,vsums]
def take_left(l:List Va)(j:Nat):nD (pushS (l.take j))<=vsizes l:=by refine ki (wM _) ?_;have h:=kK (l.take j) (l.drop j);rw[qc6]at h;omega
def Ri{c:Option Addr}{al ac:Nat}{ta:Option Addr}{tl tc:Nat}{na:Option Addr}{m nc:Nat}(h:aA ok w x (bg k n a s c al ac ta tl tc na m nc)) :
 s=x.s/\s.size<=maxLen/\al=x.args.length/\∃V,aT ok w x.args c V:=by
 obtain⟨d,e,o,p,j,l,V,r,q,b,⟨_,_,_,i,g⟩,f,_,_⟩:=h.inv;unfold bg at b;simp only[qb3,qc1,xj,qg6,jf4,ke,true_and,and_true]at b;obtain⟨_,_,_,rfl,⟨rfl,rfl,rfl⟩,_⟩:=b;exact⟨rfl,i,rfl,V,f⟩
def RL{v:Value}(hV:aA (λ_=>True) w x v)(hz:x.size<=20000000)(W:World)(hW:w.grownBy W none) :
 Calls prog 192 #[v] W λe w'=>e =.returned (.i (wrap64 (vsum x:Nat)))/\W.grownBy w' none:=by
 obtain⟨k1,n1,a1,s1,C,E,D,J,fE,K,G,I,H,rfl⟩:=hV.bg;have HV:=jh (aA.up hV hW);have HZ:=jh hz;clear hV hz hW;generalize t:wrap64 (vsum x:Nat)=R;have HR:=jh t;clear t;unfold bg at *;go_enter func192,ntmps192;go_wp2_with fail;have bk:=iR W (.cells #[.i k1,.i n1,.i a1,.string s1,.slice C E D,.slice J fE K,.slice G I H] 36) (.cells #[.i k1,.i n1,.i a1,.string s1,.slice C E D,.slice J fE K,.slice G I H] 36);have bw:((W.alloc (.cells #[.i k1,.i n1,.i a1,.string s1,.slice C E D,.slice J fE K,.slice G I H] 36)).alloc (.cells #[.i k1,.i n1,.i a1,.string s1,.slice C E D,.slice J fE K,.slice G I H] 36)).heap.size=W.heap.size+1+1:=ot
 have ah:W.grownBy ((W.alloc (.cells #[.i k1,.i n1,.i a1,.string s1,.slice C E D,.slice J fE K,.slice G I H] 36)).alloc (.cells #[.i k1,.i n1,.i a1,.string s1,.slice C E D,.slice J fE K,.slice G I H] 36)) none:=aJ (aK _) (aK _);generalize (W.alloc _).alloc _=X at *;obtain⟨cd,aO,A⟩:=JY ah bw (vF bk (aA.up HV.out ah));obtain⟨μ,hμ⟩:=mM (λn (p:Value×Value×World)=>PO X R (x.size+1) n p.1 p.2.1 p.2.2);have HM:=jh hμ;clear ah bw bk hμ;go_loopw [3,4] (λsv tv wr=>∃n,PO X R (x.size+1) n sv tv wr) (λsv tv wr=>μ (sv,tv,wr))
 case atStart =>
  refine⟨_,[.slice (some ⟨W.heap.size+1,0,none⟩) 1 1],[[x]],0,?_,⟨⟨_,_,_,rfl,A.out,by have:=HZ.out;simp[vsizes];omega⟩,trivial⟩,rfl,by rw[qH];simp[vsizes],rfl,by simp[wrap64],by rw[<-HR.out,Cr];simp[vsums],aK _⟩;refine⟨rfl,.inr ⟨W.heap.size+1+1,1,#[.slice (some ⟨W.heap.size+1,0,none⟩) 1 1],rfl,by have:=aO.out;omega,?_,qv _,ov,rfl,rfl⟩⟩;rw[<-aO.out];exact qT _ _
 case round =>
  obtain⟨n0,bp⟩:=hrel;obtain⟨us,M,a,b,d,hn,aj,bt,k,t,F⟩:=(HM.out (u3,u4,wr) n0 bp).1;simp only at b bt F;subst bt;have hz:=HZ.out;clear bp
  by_cases hv:us.length=0
  .obtain⟨a0,cF,rfl⟩:=mg b hv;have cu:=d.len;have br:M=[]:=qd7.1 od;have Y:R=a:=by rw[<-t,br];simpa[CY]using k
   have cm:=jh Y;have HG:=jh (aJ cd.out F);clear b d hn aj t F Y br cu hv HM k HV A HR;go_wp2_with fail;go_ret;exact Lf.lX cm.out.symm HG.out
  .have aq:us≠[]:=λe=>hv (by rw[e];rfl);have e1:=(qb4 aq).symm;generalize us.dropLast=q at e1;generalize us.getLast aq=u at e1;subst e1;obtain⟨U,l,rfl,f,ai,ci,Vi,rfl,ae,cy⟩:=d.last;have ao:(q++[Value.slice ai l.length ci]).length=q.length+1:=by simp
   have N:=jb4 b ot;rw[ao]at N;obtain⟨g,ba,rfl,cH,cD⟩:=N;unfold kD at b;rw[ao]at b;have bl:=QX b;have cr:q.length<=ba:=od
   have d0:=yy b (g:=g) rfl q.length (.slice ai l.length ci) ot;rw[gI,qa5]at d0;have aC:=jh (Av b);have ct:=ae.1;unfold maxLen at ct;rw[gQ,qH]at hn;rw[zY,Cr]at t;obtain⟨aE,ab,HN,T,cn,HG,cq⟩:=wg ae f hn aj t F k;have bd:q.length=U.length:=f.len;have cJ:q.length<=20000001:=by have h1:=ve U;omega
   have cE:=jh bd;obtain⟨cz,P⟩:∃m0,m0=μ (.i a,.slice (some ⟨g,0,none⟩) (q.length+1) ba,wr):=⟨_,rfl⟩;have cg:=jh P;rw[<-P]at HN T;clear P;clear b d f ae hn aj t F aq hv bl ao k cy bd;go_wp2_with fail;go_loopw [3,4,27] (λsv tv iv wz=>∃j:Nat,j<=l.length/\iv =.i j/\Y1 X R U l j sv tv wz) (λ_ _ iv _=>l.length - (intOf iv).toNat)
   case atStart =>
    refine⟨0,kB _,rfl,q,a,aC.out,by simpa[pushS]using ab.out,rfl,cq.out,?_,HG.out⟩;simpa[pushS]using cn.out
   case round =>
    obtain⟨j,hj,rfl,L,a2,b,d,rfl,k,t,F⟩:=hrel
    by_cases O:j<l.length
    .obtain⟨b1,o1,rfl,_,k3,n3,a3,s3,r,o,s,ay,IC,az,ar,ax,au,bx,e0,e1,e2,e3,e4,e5,e6⟩:=(aE.out.2.1 j O).same (ni F);have ad:=aE.out.2.2 j O;rw[bx]at ad;obtain⟨es,cv,el,VA,bh⟩:=Ri ad;have cw:=eP l[j];have cx:(l[j]).size<=vsizes l:=fO (zj O);have Q:=VD l[j];rw[<-es]at Q;rw[KQ l j O,Q]at t;have z:=BV (l.take j) l[j];rw[<-ur O]at z;have an:=take_left l j;have y:L.length<=50000000:=by
      have h1:=d.len;have h2:=ve (U++pushS (l.take j));rw[gQ]at h2;have h3:=HN.out;have h4:=T.out;omega
     have ca:vsizes (l[j]).args<=20000000:=by have h3:=HN.out;have h4:=T.out;omega
     have bb:X.heap.size<=wr.heap.size:=F.size;have cA:=jh F;unfold maxLen at cv;have bj:wr.grownBy (wr.alloc (.cells #[.i k3,.i n3,.i a3,.string s3,.slice r o s,.slice ay IC az,.slice ar ax au] 36)) none:=aK _;obtain⟨aa,Z,HR,B,cl,cp,cC,S,HP⟩:=wq (xo b (.cells #[.i k3,.i n3,.i a3,.string s3,.slice r o s,.slice ay IC az,.slice ar ax au] 36)) (aJ F bj) t d bh ca k el z;have w2:(j:Int)<(l.length:Int):=od
     clear t d bh ca k bx ad cw cx Q z an F b bj es el
     by_cases ha:o=0
     .have HA:=jh ha;subst ha;clear y bb;go_wp2_with fail;go_roundw
      case rel =>
       have hp:pushS (l.take (j+1))=pushS (l.take j):=by rw[HP.out,if_pos S.out.symm,qe3]
       refine⟨j+1,od,OF,L,_,aa.out,by rw[hp];exact B.out,rfl,?_,?_,Z.out⟩
       .exact Ey _
       .have hA:(l[j]).args=[]:=ju S.out.symm;have h:=HR.out;rw[hA]at h;simp only[vsums]at h;rw[hp,Mj,<-h]
        congr 1
        omega
      case measure=>simp[intOf];omega
     .have cG:(0:Int)<(o:Int):=by omega
      have cb:=jh Z.out.size;have cf:=jh y;have ch:Hid (¬(l[j]).args.length=0):=by have:=S.out;show ¬_;omega
      have A:Hid (∃a c V,(Value.slice r o s) =.slice a (l[j]).args.length c/\aT (λ_=>True) X (l[j]).args a V/\vsizes (l[j]).args<=20000000):=⟨r,s,VA,by rw[S.out],cl.out,cp.out⟩;clear ha y bb;go_wp2_with (at_builtin;refine TC X.heap.size L r o s (wr.alloc (.cells #[.i k3,.i n3,.i a3,.string s3,.slice r o s,.slice ay IC az,.slice ar ax au] 36)) u4 rfl _ _ rfl rfl rfl ot aa.out cb.out cf.out ?_;intro v' w9 bq bm;have ck:=jh bq;have cc:=jh (dX Z.out aa.out (qv _) bm.1);clear bq bm);go_roundw
      case rel =>
       have hp:pushS (l.take (j+1))=pushS (l.take j)++[(l[j]).args]:=by rw[HP.out,if_neg ch.out]
       refine⟨j+1,od,OF,L++[.slice r o s],_,ck.out,by rw[hp,<-ub];exact gM.snoc A.out B.out,rfl,?_,?_,cc.out⟩
       .exact Ey _
       .have h:=HR.out;rw[hp,<-ub,zY (_++_),Cr,Mj,<-h]
        congr 1
        omega
      case measure=>simp[intOf];omega
    .have bo:j=l.length:=by omega
     have cI:¬(j:Int)<(l.length:Int):=od
     have bc:gM X (U++pushS l) L:=by rw[bo,qe2]at d;exact d
     have bf:wrap64 (a2+(CY (U++pushS l):Nat))=R:=by rw[bo,qe2,List.drop_length]at t;simpa[vsums]using t
     have cj:Hid (∃m,m<cz/\PO X R (x.size+1) m (.i a2) u4 wr):=by have h1:=wM l;have h2:=HN.out;have h3:=T.out;refine⟨nD (U++pushS l),by rw[gQ];omega,L,U++pushS l,a2,b,bc,rfl,by rw[gQ];omega,rfl,k,bf,F⟩
     clear t d b k F bc bf;go_wp2_with fail;obtain⟨m,h1,h2⟩:=cj.out;rw[cg.out]at h1;go_roundw
     case rel=>exact⟨m,h2⟩
     case measure=>exact qf3 (HM.out _ m h2).2 h1
def argsN:Tr->List Tr
 | .nd _ _ _ _ l=>l
def kN:Tr->Int
 | .nd k _ _ _ _=>k
def nN:Tr->Int
 | .nd _ n _ _ _=>n
def pN:Tr->Int
 | .nd _ _ p _ _=>p
def sN:Tr->ByteArray
 | .nd _ _ _ s _=>s
def QW(t:Tr):t.size=sizes (argsN t)+1:=by cases t;simp[Tr.size,argsN]
mutual
def Ot (c:Tr->Tr->Int):Tr->Tr->Int
 | .nd k n p s args,y=>if c (.nd k n p s args) y≠0 then c (.nd k n p s args) y else jk c args (argsN y)
def jk (c:Tr->Tr->Int):List Tr->List Tr->Int
 | [],[]=>0
 | [],_::_=>-1
 | _::_,[]=>1
 | x::xs,y::ys=>if Ot c x y≠0 then Ot c x y else jk c xs ys
end
def L8(c:Tr->Tr->Int)(x y:Tr):Ot c x y=if c x y≠0 then c x y else jk c (argsN x) (argsN y):=by
 cases x;rw[Ot];rfl
def RS (c:Tr->Tr->Int):List (List Tr×List Tr)->Int
 | []=>0
 | r::R=>if jk c r.1 r.2≠0 then jk c r.1 r.2 else RS c R
def Cq (c:Tr->Tr->Int) (rows:List (List Tr×List Tr)):Int:=RS c rows.reverse
def mo(c:Tr->Tr->Int)(rows:List (List Tr×List Tr))(r:List Tr×List Tr):Cq c (rows++[r])=if jk c r.1 r.2≠0 then jk c r.1 r.2 else Cq c rows:=by simp[Cq,RS]
def RV(c:Tr->Tr->Int)(r:List Tr×List Tr):Cq c [r]=jk c r.1 r.2:=by
 have:=mo c [] r;rw[qf0]at this;rw[this]
 by_cases h:jk c r.1 r.2=0
 .rw[if_neg (by simpa using h),h];rfl
 .rw[if_pos h]
def RX(c:Tr->Tr->Int)(rows:List (List Tr×List Tr)):Cq c (rows++[([],[])])=Cq c rows:=by rw[mo];simp[jk]
def RU(c:Tr->Tr->Int)(rows:List (List Tr×List Tr))(x y:List Tr)(h:x=[]\/y=[])(f:¬(x=[]/\y=[])):Cq c (rows++[(x,y)])=gP x.length y.length:=by
 rw[mo]
 cases x with
 | nil=>cases y with
  | nil=>simp at f
  | cons b y =>
   have d:jk c [] (b::y) = -1:=by rw[jk]
   have e:gP (([]:List Tr).length:Nat) ((b::y).length:Nat) = -1:=by rw[gP,if_pos ot]
   rw[e];simp[d]
 | cons a x=>cases y with
  | nil =>
   have d:jk c (a::x) []=1:=by rw[jk]
   have e:gP ((a::x).length:Nat) (([]:List Tr).length:Nat)=1:=by rw[gP,if_neg oB,if_pos ot]
   rw[e];simp[d]
  | cons b y=>simp at h
def RY(c:Tr->Tr->Int)(rows:List (List Tr×List Tr))(x y:Tr)(xs ys:List Tr)(h:c x y≠0):Cq c (rows++[(x::xs,y::ys)])=c x y:=by
 have a:Ot c x y=c x y:=by rw[L8,if_pos h]
 have b:jk c (x::xs) (y::ys)=c x y:=by rw[jk,a,if_pos h]
 rw[mo];simp only[b];rw[if_pos h]
def Oy(c:Tr->Tr->Int)(rows:List (List Tr×List Tr))(x y:Tr)(xs ys:List Tr)(h:c x y=0):Cq c (rows++[(x::xs,y::ys)])=Cq c (rows++[(xs,ys)]++[(argsN x,argsN y)]):=by
 have b:Ot c x y=jk c (argsN x) (argsN y):=by rw[L8,if_neg (by simpa using h)]
 rw[mo,mo,mo];simp only;rw[jk,b]
 by_cases a:jk c (argsN x) (argsN y)=0
 .simp[a]
 .rw[if_pos a,if_pos a];simp[a]
def uy (rows:List (List Tr×List Tr)):Nat:=(rows.map λr=>2*sizes r.1+1).sum
def iP(a b:List (List Tr×List Tr)):uy (a++b)=uy a+uy b:=by simp[uy]
def jV(r:List Tr×List Tr):uy [r]=2*sizes r.1+1:=by simp[uy]
def NG(rows:List (List Tr×List Tr)):rows.length<=uy rows:=by
 induction rows with
 | nil=>simp
 | cons r l a=>simp only[uy,qb7,jh3,jn]at a|-;omega
def vG{x:Tr}{b o:Nat}(h:cK (λ_=>True) w (x::xs) (some ⟨b,o,none⟩) V):cK (λ_=>True) w xs (some ⟨b,o+5,none⟩) (λi=>V (i+1)):=by
 refine⟨by have:=h.1;simp at this;omega,λi a=>?_,λi a=>?_⟩
 .obtain⟨t,v,l,u,k,n,p,s,m,al,q,r,c,d,f,g,j⟩:=h.2.1 (i+1) (by simpa using a);simp only[qk,qb2,and_true]at l;obtain⟨rfl,rfl⟩:=l;have e:o+(i+1)*5=o+5+i*5:=by omega
  rw[e]at c d f g j;exact⟨b,o+5,rfl,trivial,k,n,p,s,m,al,q,r,c,d,f,g,j⟩
 .have:=h.2.2 (i+1) (by simpa using a);simpa using this
def Lh{x:Tr}{p:Int}{a:Option Addr}{l:Nat}(h:bI ok w x (af k n p s a l c)) :
 l=(argsN x).length/\(argsN x).length<=c/\∃V,cK ok w (argsN x) a V:=by
 generalize b:af k n p s a l c=u at h
 cases h with
 | mk V e g j i m d f =>
  unfold af at b;simp only[qb3,qc1,xj,ke,qg6,jf4,true_and,and_true]at b;obtain⟨rfl,rfl,rfl,rfl,rfl,rfl,rfl⟩:=b;exact⟨rfl,oS,V,e,d,f⟩
def Hg(k n p:Int)(s:ByteArray)(a:Option Addr)(l c:Nat)(w:World) :
 Calls prog 60 #[af k n p s a l c] w λe w'=>e =.returned (.slice a l c)/\w.grownBy w' none:=by
 unfold af;go_enter func60,ntmps60;go_wp2_with fail;go_ret;exact⟨rfl,aK _⟩
def GI:(prog.info? 121).map (λi=>(i.zero,i.size,i.bytes))=some (some (.agg #[.n0,.n0]),2,48):=oA
def mV (B:Nat) (w:World) (v:Value) (vs:List Value):Prop:=w.ownsRow B 121 2 v vs.length (bX vs)
def PK (w:World) (r:List Tr×List Tr) (u:Value):Prop:=∃a1 c1 V1 a2 c2 V2,u=wC a1 r.1.length c1 a2 r.2.length c2/\(r.1.length<=c1/\r.2.length<=c2)/\cK (λ_=>True) w r.1 a1 V1/\cK (λ_=>True) w r.2 a2 V2
def lC (w:World):List (List Tr×List Tr)->List Value->Prop
 | [],[]=>True
 | r::rows,u::us=>PK w r u/\lC w rows us
 | [],_::_=>False
 | _::_,[]=>False
def lC.len: ∀{rows:List (List Tr×List Tr)}{us:List Value},lC w rows us->us.length=rows.length
 | [],[],_=>rfl
 | _::_,_::_,h=>by simp[lC.len h.2]
 | [],_::_,h=>h.elim
 | _::_,[],h=>h.elim
def lC.snoc{r:List Tr×List Tr}(a:PK w r u):∀{rows:List (List Tr×List Tr)}{us:List Value},lC w rows us->lC w (rows++[r]) (us++[u])
 | [],[],_=>⟨a,trivial⟩
 | _::_,_::_,h=>⟨h.1,lC.snoc a h.2⟩
 | [],_::_,h=>h.elim
 | _::_,[],h=>h.elim
def lC.last: ∀{rows:List (List Tr×List Tr)},lC w rows (us++[u])->∃a r,rows=a++[r]/\lC w a us/\PK w r u:=by
 induction us with
 | nil =>
  intro rows h
  match rows,h with
  | [r],h=>exact⟨[],r,rfl,trivial,h.1⟩
  | r::g::f,h=>exact h.2.elim
  | [],h=>exact h.elim
 | cons x us d =>
  intro rows h
  match rows,h with
  | r::f,h =>
   obtain⟨a,e,rfl,b,c⟩:=d h.2;exact⟨r::a,e,rfl,⟨h.1,b⟩,c⟩
  | [],h=>exact h.elim
def Zq{rest:List Oper}{a:Act}(B:Nat)(vs:List Value)(b:Option Addr)(g d:Nat)(c:Option Addr)(l2 e:Nat)(w0:World)(v:Value)(f:o.guard=none)(s x:Operand)
 (ho:o.op =.call { callee:=.builtin .append,args:=#[s,x],argTypes:=#[122,122] }) (hs:a.eval s=v) (hx:a.eval x =.slice (some ⟨H,0,none⟩) 1 1) (hH:w0.heap.size=H)
 (hown:mV B w0 v vs) (hB:B<=w0.heap.size) (hlen:vs.length<=100000000)
 (h:∀v' w',mV B w' v' (vs++[wC b g d c l2 e])->Gr w0 v w' v'->wpList prog ops Q rest (a.put o.dst v') w') :
 wpList prog ops Q (o::rest) a (w0.alloc (.cells #[.slice b g d,.slice c l2 e] 121)):=by
 subst hH;refine ed f s x 122 ho B 121 underlying122 GI rfl ov v vs.length (bX vs) hs (xo hown _) _ 1 [.slice b g d,.slice c l2 e] hx rfl (gZ.new _ _ _ _ _) ?_ ?_ ?_ ?_ ?_
 .intro u i;simp at i;rcases i with rfl|rfl<;>rfl
 .unfold maxLen;omega
 .omega
 .simp;omega
 .intro v' w' j k _;exact h v' w' (by unfold mV;rw[dx,qS];exact j) (Gr.trans (Gr.alloc (Gr.refl w0 v) _) k)
def XK{a:Act}{K:Act->World->Prop}{E:Prop}(B:Nat)(vs:List Value)(b:Option Addr)(g d:Nat)(c:Option Addr)(l2 e:Nat)(w0:World)(v:Value)(f:o.guard=none)(s x:Operand)
 (ho:o.op =.call { callee:=.builtin .append,args:=#[s,x],argTypes:=#[122,122] }) (hs:a.eval s=v) (hx:a.eval x =.slice (some ⟨H,0,none⟩) 1 1) (hH:w0.heap.size=H)
 (hown:mV B w0 v vs) (hB:B<=w0.heap.size) (hlen:vs.length<=100000000)
 (h:∀v' w',mV B w' v' (vs++[wC b g d c l2 e])->Gr w0 v w' v'->K (a.put o.dst v') w') :
 if Region.wanted o (yielded ops a.tmps)=true then Oper.wp prog o a (w0.alloc (.cells #[.slice b g d,.slice c l2 e] 121)) K Q else E:=by
 subst hH;refine yx f s x 122 ho B 121 underlying122 GI rfl ov v vs.length (bX vs) hs (xo hown _) _ 1 [.slice b g d,.slice c l2 e] hx rfl (gZ.new _ _ _ _ _) ?_ ?_ ?_ ?_ ?_
 .intro u i;simp at i;rcases i with rfl|rfl<;>rfl
 .unfold maxLen;omega
 .omega
 .simp;omega
 .intro v' w' j k _;exact h v' w' (by unfold mV;rw[dx,qS];exact j) (Gr.trans (Gr.alloc (Gr.refl w0 v) _) k)
def EI (w0:World) (c:Tr->Tr->Int) (res:Int) (N n:Nat) (tv:Value) (wr:World):Prop :=
 ∃(us:List Value) (rows:List (List Tr×List Tr)),mV w0.heap.size wr tv us/\lC w0 rows us/\uy rows=n/\n<=N/\Cq c rows=res/\w0.grownBy wr none
def Ov(c:Tr->Tr->Int)(k:Nat)(eg:∀args w,(callFunc k args).run prog w =.ok (.enter k args) w){w0:World}{ys:List Tr}{a b:Option Addr}{ca cb:Nat}{V2:Nat->Value}(cH:xs.length<=ca)(cJ:ys.length<=cb)(hx:cK (λ_=>True) w0 xs a V)(hy:cK (λ_=>True) w0 ys b V2)
 (hcmp:∀(x y:Tr) (u v:Value) (W:World),w0.grownBy W none->bI (λ_=>True) w0 x u->bI (λ_=>True) w0 y v->x.size<=sizes xs->Calls prog k #[u,v] W λe w'=>e =.returned (.i (c x y))/\W.grownBy w' none) (hz:sizes xs<=20000000) :
 Calls prog 61 #[.slice a xs.length ca,.slice b ys.length cb,.func (.func 60) #[] #[],.func (.func k) #[] #[]] w0 λe w'=>e =.returned (.i (jk c xs ys))/\w0.grownBy w' none:=by
 generalize j:jk c xs ys=res;obtain⟨μ,hμ⟩:=mM (λn (p:Value×World)=>EI w0 c res (2*sizes xs+1) n p.1 p.2);have cM:=hx.1;have cN:=hy.1;obtain⟨HX,HY,HC,HM,aq,db,dc,HZ⟩:=wi hx hy hcmp hμ j cH cJ hz;unfold maxLen at cM cN;clear hx hy hcmp hμ j cH cJ hz;go_enter func61,ntmps61;go_wp2_with fail;go_loopw [9] (λtv wr=>∃n,EI w0 c res (2*sizes xs+1) n tv wr) (λtv wr=>μ (tv,wr))
 case atStart =>
  refine⟨_,[wC a xs.length ca b ys.length cb],[(xs,ys)],?_,⟨⟨a,ca,V,b,cb,V2,rfl,⟨db.out,dc.out⟩,HX.out,HY.out⟩,trivial⟩,rfl,by rw[jV];exact qv _,by rw[RV];exact aq.out,aK _⟩;exact⟨rfl,.inr ⟨_,1,_,rfl,qv _,qT _ _,qv _,ov,rfl,rfl⟩⟩
 case round =>
  obtain⟨n0,cP⟩:=hrel;obtain⟨us,rows,z,E,hn,cg,R,hg⟩:=(HM.out (u9,wr) n0 cP).1;simp only at z;have hz:=HZ.out;clear cP cM cN
  by_cases hv:us.length=0
  .obtain⟨a0,eE,rfl⟩:=mg z hv;have en:=E.len;have cR:rows=[]:=qd7.1 od;have j:res=0:=by rw[<-R,cR];rfl
   have HR:=jh j;have HG:=jh hg;clear z E hn cg R hg j cR en hv aq HM HC HX HY;go_wp2_with fail;go_ret;exact Lf.lX HR.out.symm HG.out
  .have ch:us≠[]:=λe=>hv (by rw[e];rfl);have e1:=(qb4 ch).symm;generalize us.dropLast=f at e1;generalize us.getLast ch=u at e1;subst e1;obtain⟨B,r,rfl,Q,ek⟩:=E.last;obtain⟨x,y⟩:=r;obtain⟨a3,c3,V3,a4,c4,V4,rfl,⟨bf,bh⟩,bb,bc⟩:=ek;simp only at bf bh bb bc;have bj:(f++[wC a3 x.length c3 a4 y.length c4]).length=f.length+1:=by simp
   have ax:=jb4 z ot;rw[bj]at ax;obtain⟨g,L,rfl,I,ay⟩:=ax;unfold mV at z;rw[bj]at z;have cI:=QX z;have ei:f.length<=L:=od
   obtain⟨d0,d1⟩:=zk z;have eL:f.length<=50000000:=by have h1:=E.len;have h2:=NG (B++[(x,y)]);rw[qS,yW]at h2;rw[bj,qS,yW]at h1;omega
   have ck:=bb.1;have cl:=bc.1;unfold maxLen at ck cl;obtain⟨F,H,T,U,HN,ao,G,HG⟩:=wi z Q bb bc hn cg R hg;clear z E Q bb bc hn cg R hg ch hv cI bj HX HY aq
   by_cases A:x=[]\/y=[]
   .by_cases hb:x=[]/\y=[]
    .obtain⟨rfl,rfl⟩:=hb;have S:Hid (∀w,Calls prog 58 #[.i 0,.i 0] w λe w'=>e =.returned (.i 0)/\w'=w):=λw=>tT 0 0 w;have eh:Hid (∀q,∃m,m<μ (.slice (some ⟨g,0,none⟩) (f.length+1) L,wr)/\EI w0 c res (2*sizes xs+1) m (.slice (some ⟨g,0,none⟩) f.length L) (wr.drewN q)):=by
      intro q;refine⟨uy B,?_,f,B,BN (w:=wr.drewN q) F.out rfl,H.out,rfl,?_,?_,iW HG.out⟩
      .have h:=HN.out;rw[iP,jV]at h;omega
      .have h:=HN.out;have h2:=ao.out;rw[iP,jV]at h;omega
      .rw[<-G.out,RX]
     clear A ck cl bf bh HC HZ hz F H T U HN ao G;go_wp2_with fail
     go_quiet ((go_at_call 58;exact qd3 (S.out _)))
     go_wp2_with fail;obtain⟨m,h1,h2⟩:=eh.out _;go_roundw
     case rel=>exact⟨m,h2⟩
     case measure=>exact qf3 (HM.out _ m h2).2 h1
    .have cS:=RU c B x y A hb;have j:gP (x.length:Nat) (y.length:Nat)=res:=by rw[<-cS];exact G.out
     have cQ:¬res=0:=by
      rw[<-j];rcases A with rfl|rfl
      .have : 0<y.length:=je6.2 (λe=>hb ⟨rfl,e⟩);rw[gP,if_pos oB];decide
      .have : 0<x.length:=je6.2 (λe=>hb ⟨e,rfl⟩);rw[gP,if_neg ot,if_pos oB];decide
     have z1:(res==0)=false:=by simpa using cQ
     have z2:(res != 0)=true:=by simpa using cQ
     have S:Hid (∀w,Calls prog 58 #[.i (x.length:Nat),.i (y.length:Nat)] w λe w'=>e =.returned (.i res)/\w'=w):=λw=>by rw[<-j];exact tT _ _ w
     clear cS j bf bh HC HZ hz F H T U HN ao G
     by_cases cj:x.length=0
     .have cW:(x.length:Int)=0:=by omega
      have eC:=jh cW;rw[cW]at S;clear cj A hb;go_wp2_with fail
      go_quiet ((go_at_call 58;exact qd3 (S.out _)))
      go_wp2_with fail;go_ret;exact Lf.lX rfl (iW HG.out)
     .have ep:y.length=0:=by
       rcases A with rfl|rfl
       .simp at cj
       .rfl
      have eo:¬(x.length:Int)=0:=od
      have eM:((x.length:Int)==0)=false:=by rw[ud];exact eo
      have er:(y.length:Int)=0:=od
      rw[er]at S;clear A hb cj ep;go_wp2_with fail
      go_quiet ((go_at_call 58;exact qd3 (S.out _)))
      go_wp2_with fail;go_ret;exact Lf.lX rfl (iW HG.out)
   .obtain⟨x1,s,rfl⟩:∃p l,x=p::l:=by
     cases x with
     | nil=>simp at A
     | cons p l=>exact⟨p,l,rfl⟩
    obtain⟨y1,t,rfl⟩:∃p l,y=p::l:=by
     cases y with
     | nil=>simp at A
     | cons p l=>exact⟨p,l,rfl⟩
    clear A;have aO:=T.out.2.2 0 ot;have ba:=U.out.2.2 0 ot;simp only[qh3]at aO ba;obtain⟨b3,o3,rfl,_,k1,n1,a1,s1,X,bw,Z,cU,e0,e1,e2,e3,e4⟩:=(T.out.2.1 0 ot).same (ni HG.out);obtain⟨N,o4,rfl,_,k2,n2,a2,s2,Y,bx,aa,cV,f0,f1,f2,f3,f4⟩:=(U.out.2.1 0 ot).same (ni HG.out);rw[cU]at aO;rw[cV]at ba;rw[qh1,qc0]at e0 e1 e2 e3 e4 f0 f1 f2 f3 f4;have cn:=jh aO;have cp:=jh ba;have cL:∀o,wr.frozen? ⟨g,o,none⟩=false:=by
     rcases F.out.2 with⟨hq,_⟩|⟨g',ey,eI,hq,q1,q2,_⟩
     .simp at hq
     .simp only[ke,qk,qb2,and_true]at hq;obtain⟨rfl,_,_⟩:=hq;intro o;simp[World.frozen?,q2]
    clear aO ba cU cV;simp only[jn]at ck cl bf bh d0 d1|-;have z1:¬((s.length:Int)+1=0):=od
    have z2:(((s.length:Int)+1)==0)=false:=by rw[ud];exact z1
    have z3:¬((t.length:Int)+1=0):=od
    have z4:(((t.length:Int)+1)==0)=false:=by rw[ud];exact z3
    have q3:b3<wr.heap.size:=kd wr _ e0;have q4:N<wr.heap.size:=kd wr _ f0;have q5:¬b3=wr.heap.size:=od
    have q6:¬N=wr.heap.size:=od
    have q7:¬N=wr.heap.size+1:=od
    have q8:¬g=wr.heap.size:=od
    have q9:¬g=wr.heap.size+1:=od
    have dr:∀d:World,wr.grownBy d none->d.cell? ⟨b3,o3,none⟩=some (.i k1):=λd h=>(qn (h.block b3 q3 ot)).trans e0;have ds:∀d:World,wr.grownBy d none->d.cell? ⟨b3,o3+1,none⟩=some (.i n1):=λd h=>(qn (h.block b3 q3 ot)).trans e1;have du:∀d:World,wr.grownBy d none->d.cell? ⟨b3,o3+2,none⟩=some (.i a1):=λd h=>(qn (h.block b3 q3 ot)).trans e2;have dv:∀d:World,wr.grownBy d none->d.cell? ⟨b3,o3+3,none⟩=some (.string s1):=λd h=>(qn (h.block b3 q3 ot)).trans e3;have dy:∀d:World,wr.grownBy d none->d.cell? ⟨b3,o3+4,none⟩=some (.slice X bw Z):=λd h=>(qn (h.block b3 q3 ot)).trans e4;have dz:∀d:World,wr.grownBy d none->d.cell? ⟨N,o4,none⟩=some (.i k2):=λd h=>(qn (h.block N q4 ot)).trans f0;have dT:∀d:World,wr.grownBy d none->d.cell? ⟨N,o4+1,none⟩=some (.i n2):=λd h=>(qn (h.block N q4 ot)).trans f1;have ea:∀d:World,wr.grownBy d none->d.cell? ⟨N,o4+2,none⟩=some (.i a2):=λd h=>(qn (h.block N q4 ot)).trans f2;have eb:∀d:World,wr.grownBy d none->d.cell? ⟨N,o4+3,none⟩=some (.string s2):=λd h=>(qn (h.block N q4 ot)).trans f3;have ee:∀d:World,wr.grownBy d none->d.cell? ⟨N,o4+4,none⟩=some (.slice Y bx aa):=λd h=>(qn (h.block N q4 ot)).trans f4;have cy:∀d:World,wr.grownBy d none->d.cell? ⟨g,f.length*2,none⟩=some (.slice (some ⟨b3,o3,none⟩) (s.length+1) c3):=λd h=>(qn (h.block g ay ot)).trans d0;have cz:∀d:World,wr.grownBy d none->d.cell? ⟨g,f.length*2+1,none⟩=some (.slice (some ⟨N,o4,none⟩) (t.length+1) c4):=λd h=>(qn (h.block g ay ot)).trans d1
    go_upto_region 9 with (fail)
    go_cut [12,13] (λp q wx=>∃O P:Nat,p =.pointer (some ⟨O,0,none⟩)/\q =.pointer (some ⟨P,0,none⟩)/\wr.heap.size<=O/\wr.heap.size<=P/\wx.heap[O]?=some (.cells #[.i k1,.i n1,.i a1,.string s1,.slice X bw Z] 26 (0,0))/\wx.heap[P]?=some (.cells #[.i k2,.i n2,.i a2,.string s2,.slice Y bx aa] 26 (0,0))/\wr.grownBy wx none)
    case first =>
     go_region_held3 (λw'=>wr.grownBy w' none) (first|assumption|exact fK (bM _ _)|exact fK (aK _)|exact fK (aJ (aK _) (aK _))|exact aK _|exact aJ (aK _) (aK _)) (fail)
     all_goals
      go_wp2_with fail;go_meet
      first
      | exact⟨_,_,rfl,rfl,od,od,CJ _ _ _,rX _ _ _,fK (aJ (aK _) (aK _))⟩
      | exact⟨_,_,rfl,rfl,od,od,rX _ _ _,CJ _ _ _,fK (aJ (aK _) (aK _))⟩
    case rest =>
     obtain⟨O,P,rfl,rfl,eJ,eK,ab,ad,ah⟩:=hcut;have g0:=cy wc ah;have g1:=cz wc ah;have ej:∀o,wc.frozen? ⟨g,o,none⟩=false:=by intro o;have h1:=ah.block g ay ot;have h2:=cL o;simp only[World.frozen?]at h2|-;rw[h1];exact h2
     obtain⟨K,an,ar,au⟩:=JT (zp F.out ah (.inr oX)) (aJ HG.out ah) ab ad;have C:g≠O:=od
     have D:g≠P:=od
     clear dr ds du dv dy dz dT ea eb ee cy cz e0 e1 e2 e3 e4 f0 f1 f2 f3 f4 d0 d1 ab ad ah cL
     go_upto_region 10 with (fail)
     go_cut [] (λwx=>∃(p3 p4:Option Addr) (U3 U4:Nat->Value),cK (λ_=>True) w0 s p3 U3/\cK (λ_=>True) w0 t p4 U4/\wx.ownsRow w0.heap.size 121 2 (.slice (some ⟨g,0,none⟩) (f.length+1) L) (f.length+1) (bX (f++[wC p3 s.length (c3 - 1) p4 t.length (c4 - 1)]))/\w0.grownBy wx none/\wx.heap[O]?=some (.cells #[.i k1,.i n1,.i a1,.string s1,.slice X bw Z] 26 (0,0))/\wx.heap[P]?=some (.cells #[.i k2,.i n2,.i a2,.string s2,.slice Y bx aa] 26 (0,0)))
     case first =>
      by_cases cE:c3=1
      .by_cases cd:c4=1
       .obtain rfl:s=[]:=ju od;subst cE;obtain rfl:t=[]:=ju od;subst cd
        go_region_with (fail)
        all_goals
         go_wp2_with fail;go_meet;exact⟨_,_,_,_,cK.nil _ _ _ V3,cK.nil _ _ _ V4,ji (w:=wc) K.out,fK (aX (aX an.out I _ _ _) I _ _ _),bH (bH ar.out C.symm _) C.symm _,bH (bH au.out D.symm _) D.symm _⟩
       .obtain rfl:s=[]:=ju od;subst cE;have cG:¬c4 - 1=0:=by omega
        go_region_with (fail)
        all_goals
         go_wp2_with fail;go_meet;exact⟨_,_,_,_,cK.nil _ _ _ V3,vG U.out,ji (w:=wc) K.out,fK (aX (aX an.out I _ _ _) I _ _ _),bH (bH ar.out C.symm _) C.symm _,bH (bH au.out D.symm _) D.symm _⟩
      .by_cases cd:c4=1
       .have cF:¬c3 - 1=0:=by omega
        obtain rfl:t=[]:=ju od;subst cd
        go_region_with (fail)
        all_goals
         go_wp2_with fail;go_meet;exact⟨_,_,_,_,vG T.out,cK.nil _ _ _ V4,ji (w:=wc) K.out,fK (aX (aX an.out I _ _ _) I _ _ _),bH (bH ar.out C.symm _) C.symm _,bH (bH au.out D.symm _) D.symm _⟩
       .have cF:¬c3 - 1=0:=by omega
        have cG:¬c4 - 1=0:=od
        go_region_with (fail)
        all_goals
         go_wp2_with fail;go_meet;exact⟨_,_,_,_,vG T.out,vG U.out,ji (w:=wc) K.out,fK (aX (aX an.out I _ _ _) I _ _ _),bH (bH ar.out C.symm _) C.symm _,bH (bH au.out D.symm _) D.symm _⟩
     case rest =>
      obtain⟨p3,p4,U3,U4,cA,cC,aC,cf,ab,ad⟩:=hcut;obtain⟨x0,ev,x2,x3,x4⟩:=bE ab;obtain⟨y0,ew,y2,y3,y4⟩:=bE ad;have cT:x1.size<=sizes xs:=by have h1:=HN.out;have h2:=ao.out;rw[iP,jV]at h1;simp only[sizes]at h1;omega
      have cc:=HC.out x1 y1 _ _ wc cf cn.out cp.out cT;unfold af at cc;obtain⟨bt,cm,dk,dn,dj,cv,cx⟩:=wg cc cf cA cC aC ab ad;clear cc cf cA cC aC ab ad cT K an ar au F;go_wp2_with fail;refine bt.out.mono ?_;rintro e J ⟨rfl,M⟩
      by_cases ae:c x1 y1=0
      .have da:=jh ae;have cu:=jh ((M.block _ (qq.1 cv.out).1 ot).trans cv.out);have cw:=jh ((M.block _ (qq.1 cx.out).1 ot).trans cx.out);have aE:=jh (aJ cm.out M);have cq:=jh (zp dj.out M (.inr oX));clear M bt x0 ev x2 x3 x4 y0 ew y2 y3 y4 g0 g1 ej;rw[ae];clear ae;obtain⟨rfl,bo,W1,bl⟩:=Lh cn.out;obtain⟨rfl,br,W2,bm⟩:=Lh cp.out;have cr:=jh bl;have ct:=jh bm;have cX:=jh bo;have cY:=jh br;have eA:mV w0.heap.size J.drew (.slice (some ⟨g,0,none⟩) (f.length+1) L) (f++[wC p3 s.length (c3 - 1) p4 t.length (c4 - 1)]):=by
        unfold mV;rw[qS];exact cq.out
       have de:Hid (∀v' w',mV w0.heap.size w' v' ((f++[wC p3 s.length (c3 - 1) p4 t.length (c4 - 1)])++[wC X (argsN x1).length Z Y (argsN y1).length aa])->w0.grownBy w' none->∃m,m<μ (.slice (some ⟨g,0,none⟩) (f.length+1) L,wr)/\EI w0 c res (2*sizes xs+1) m v' w'):=by
        intro v' w' bk bd;have h1:=HN.out;rw[iP,jV]at h1;simp only[sizes]at h1;have h2:=QW x1;refine⟨uy (B++[(s,t)]++[((argsN x1),(argsN y1))]),?_,_,_,bk,lC.snoc ⟨X,Z,W1,Y,aa,W2,rfl,⟨cX.out,cY.out⟩,cr.out,ct.out⟩ (lC.snoc ⟨p3,c3 - 1,U3,p4,c4 - 1,U4,rfl,⟨by show s.length<=_;omega,by show t.length<=_;omega⟩,dk.out,dn.out⟩ H.out),rfl,?_,?_,bd⟩
        .rw[iP,iP,jV,jV];simp only;omega
        .have h3:=ao.out;rw[iP,iP,jV,jV];simp only;omega
        .rw[<-G.out,Oy c B x1 y1 s t da.out]
       have ef:w0.heap.size<=J.heap.size:=aE.out.size;have ez:g<J.heap.size:=by have:=cq.out;exact (kp this g rfl).2
       have et:O≠g:=od
       have eu:P≠g:=od
       have ai:∀d:World,J.grownBy d (some g)->d.heap[O]?=_:=λd h=>(h.block O (qq.1 cu.out).1 (by simpa using et)).trans cu.out;have eN:∀d:World,J.grownBy d (some g)->d.cell? ⟨O,0,none⟩=some (.i k1):=λd h=>(bE (ai d h)).1;have eR:∀d:World,J.grownBy d (some g)->d.cell? ⟨O,1,none⟩=some (.i n1):=λd h=>(bE (ai d h)).2.1;have eS:∀d:World,J.grownBy d (some g)->d.cell? ⟨O,2,none⟩=some (.i a1):=λd h=>(bE (ai d h)).2.2.1;have eV:∀d:World,J.grownBy d (some g)->d.cell? ⟨O,3,none⟩=some (.string s1):=λd h=>(bE (ai d h)).2.2.2.1;have eW:∀d:World,J.grownBy d (some g)->d.cell? ⟨O,4,none⟩=some (.slice X (argsN x1).length Z):=λd h=>(bE (ai d h)).2.2.2.2;clear ai;have aj:∀d:World,J.grownBy d (some g)->d.heap[P]?=_:=λd h=>(h.block P (qq.1 cw.out).1 (by simpa using eu)).trans cw.out;have fa:∀d:World,J.grownBy d (some g)->d.cell? ⟨P,0,none⟩=some (.i k2):=λd h=>(bE (aj d h)).1;have fc:∀d:World,J.grownBy d (some g)->d.cell? ⟨P,1,none⟩=some (.i n2):=λd h=>(bE (aj d h)).2.1;have ff:∀d:World,J.grownBy d (some g)->d.cell? ⟨P,2,none⟩=some (.i a2):=λd h=>(bE (aj d h)).2.2.1;have fg:∀d:World,J.grownBy d (some g)->d.cell? ⟨P,3,none⟩=some (.string s2):=λd h=>(bE (aj d h)).2.2.2.1;have fh:∀d:World,J.grownBy d (some g)->d.cell? ⟨P,4,none⟩=some (.slice Y (argsN y1).length aa):=λd h=>(bE (aj d h)).2.2.2.2;clear aj;have az:(f++[wC p3 s.length (c3 - 1) p4 t.length (c4 - 1)]).length<=100000000:=oB
       have dd:=jh az;clear bl bm bo br az;go_wp2_with fail;go_region_held3 (λw'=>J.grownBy w' (some g)) (first|assumption|exact fK (bM _ _)|exact fF oS (kL (aK _))) (first
        | (go_at_call 60;refine (Hg _ _ _ _ _ _ _ _).mono ?_;rintro e w' ⟨rfl,hg⟩;have hS:=fF (r:=some g) oS (kL hg);have hO:mV w0.heap.size w' (.slice (some ⟨g,0,none⟩) (f.length+1) L) (f++[wC p3 s.length (c3 - 1) p4 t.length (c4 - 1)]):=zp oS hg (.inr oX))
        | (refine XK w0.heap.size (f++[wC p3 s.length (c3 - 1) p4 t.length (c4 - 1)]) _ _ _ _ _ _ _ (.slice (some ⟨g,0,none⟩) (f.length+1) L) rfl (.tmp 95) (.tmp 103) rfl rfl rfl rfl oS (ki ef (show J.grownBy _ (some g) from by assumption).size) dd.out ?_;intro v' w9 bk bd;have cD:J.grownBy w9 (some g):=fF oS bd.1;have dg:=jh bk;clear bk bd))
       all_goals
        have dq:=jh (aG aE.out cD I);clear cD;go_wp2_with fail;obtain⟨m,h1,h2⟩:=de.out _ _ dg.out dq.out;go_roundw
        case rel=>exact⟨m,h2⟩
        case measure=>exact qf3 (HM.out _ m h2).2 h1
      .have z5:(c x1 y1==0)=false:=by simpa using ae
       have z6:(c x1 y1 != 0)=true:=by simpa using ae
       have j:c x1 y1=res:=by rw[<-G.out,RY c _ x1 y1 s t ae]
       have dp:=jh j;have aE:=jh (aJ cm.out M);clear M bt j;go_wp2_with fail;go_ret;exact Lf.lX dp.out aE.out
