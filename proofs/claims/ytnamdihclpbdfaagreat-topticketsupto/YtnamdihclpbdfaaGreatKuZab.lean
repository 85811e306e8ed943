import Derived.Test.YtnamdihclpbdfaaGreatKuZaa
import Derived.Lib.AppendStr
namespace Go.Proofs.YtnamdihclpbdfaaGreat.Lf
set_option linter.all false
open Go.Proofs.Tryz
set_option maxRecDepth 100000
set_option maxHeartbeats 4000000
open Go.ChangeShapes Go.WideShapes Go.ChangeAt Go.RowKit
def rP (k:Int):Bool:=decide (0<=k/\k<=3)
def gD (k:Int):Bool:=decide (1<=k/\k<=15\/20<=k/\k<=28\/40<=k/\k<=95)
def qM (k n p:Int) (s:bp) (l:Nat):Bool :=
 if k=0 then decide (p≠0\/s.size≠0\/l≠0)else if k=1 then decide (n≠0\/p≠0\/l≠0)else if k=2 then decide (n≠0\/s.size≠0)else decide (n≠0\/p≠0\/s.size≠0)
def fD (k n p:Int) (s:bp) (l:Nat):Int :=
 if rP k=false then 3 else if k=2/\gD p=false then 3 else if qM k n p s l then 1
 else if n < -1152921504606846976\/1152921504606846976<n then 2 else if 200<s.size then 4 else 0
def JH(k:Int)(w:cg) :
 Calls prog 139 #[.i k] w λe w'=>e =.returned (.bool (rP k))/\w'=w:=by
 go_enter func139,ntmps139
 go_wp2
 all_goals
  go_ret;exact kZ (by simp[rP];try omega) rfl
def rQ(k:Int)(w:cg) :
 Calls prog 140 #[.i k] w λe w'=>e =.returned (.bool (gD k))/\w'=w:=by
 go_enter func140,ntmps140
 go_wp2
 all_goals
  go_ret;refine kZ ?_ rfl;rw[jd1];simp[gD]
  try omega
def GH(k n p:Int)(s:bp)(a:bj)(l c:Nat)(w:cg)(d:l<=maxLen) :
 Calls prog 141 #[.agg #[.i k,.i n,.i p,.string s,.slice a l c]] w λe w'=>e =.returned (.bool (qM k n p s l))/\cq w w' none:=by
 unfold maxLen at d;have b:Hid (s.toList=[] ↔ s.size=0):=Au s;go_enter func141,ntmps141
 go_wp2
 all_goals
  go_ret;refine kZ ?_ (gb _);have f:=b.out;clear b;rw[jd1];simp_all [qM]
  try omega
def OO(k n p:Int)(s:bp)(a:bj)(l c:Nat)(w:cg)(d:l<=maxLen)(f:s.size<=maxLen) :
 Calls prog 114 #[.agg #[.i k,.i n,.i p,.string s,.slice a l c]] w λe w'=>e =.returned (.i (fD k n p s l))/\cq w w' none:=by
 unfold maxLen at f;go_enter func114,ntmps114;go_wp2_with (first
  | (go_at_call 139;refine (JH _ _).mono ?_;rintro e w' ⟨rfl,rfl⟩)
  | (go_at_call 140;refine (rQ _ _).mono ?_;rintro e w' ⟨rfl,rfl⟩)
  | (go_at_call 141;refine (GH _ _ _ _ _ _ _ _ d).mono ?_;rintro e w' ⟨rfl,b⟩;have g:=Qr b;have h:w.heap.size<w'.heap.size:=(by have:=b.size;simp at this;omega)))
 all_goals
  go_ret;refine lX ?_ (by first|exact gb _|exact Zt (gb _) oR);unfold fD;simp_all<;>omega
end Go.Proofs.YtnamdihclpbdfaaGreat.Lf
namespace Go.Proofs.YtnamdihclpbdfaaGreat
set_option linter.all false
open Go.Proofs.Tryz
set_option maxRecDepth 100000
set_option maxHeartbeats 4000000
open Go.ChangeShapes Go.WideShapes Go.ChangeAt Go.RowKit
variable {a:Act}{ops:Array Oper}{Q:Exit->Act->cg->Prop}{l:bw}{B:Nat}{o:Oper}{v:cm}{w:cg}
mutual
def bC (d:Nat):Tr->Int
 | .nd k n p s args=>if 24<d then 4 else if Lf.fD k n p s args.length≠0 then Lf.fD k n p s args.length else bG (d+1) args
def bG (d:Nat):aE->Int
 | []=>0
 | t::ts=>if bC d t≠0 then bC d t else bG d ts
end
def dS (t:Tr):Int:=if bC 1 t≠0 then bC 1 t else if 300<t.size then 4 else 0
open Go.RowKit
def iD(n:Nat)(h:n<9223372036854775808):IntKind.i64.wrap (n:Int)=(n:Int):=by have e:(n:Int) % 2 ^ 64=n:=Int.emod_eq_of_lt od od;simp only[IntKind.wrap,IntKind.bits,IntKind.signed,e];rw[if_neg];simp;omega
def ofInt64(a:Nat)(h:a<9223372036854775808):(BitVec.ofInt 64 (a:Int)).toNat=a:=by rw[BitVec.ofInt_natCast,BitVec.toNat_ofNat];exact je5 od
def tQ(a b:Nat)(c:a<9223372036854775808)(hb:b<9223372036854775808):bits .and .i64 (a:Int) (b:Int)=((a &&& b:Nat):Int):=by have d:a &&& b<2 ^ 63:=Nat.and_lt_two_pow _ od;show IntKind.i64.wrap ((BitVec.ofInt 64 (a:Int) &&& BitVec.ofInt 64 (b:Int)).toNat:Int)=_;rw[BitVec.toNat_and,ofInt64 a c,ofInt64 b hb];exact iD _ od
def oO(a b:Nat)(c:a<9223372036854775808)(hb:b<9223372036854775808):bits .or .i64 (a:Int) (b:Int)=((a ||| b:Nat):Int):=by have d:a ||| b<2 ^ 63:=Nat.or_lt_two_pow od od;show IntKind.i64.wrap ((BitVec.ofInt 64 (a:Int) ||| BitVec.ofInt 64 (b:Int)).toNat:Int)=_;rw[BitVec.toNat_or,ofInt64 a c,ofInt64 b hb];exact iD _ od
def Le(a:Nat)(h:a<9223372036854775808):bits .and .i64 (a:Int) 63=((a % 64:Nat):Int):=by have:=tQ a 63 h od;rw[show a &&& 63=a % 64 from jg7 a 6]at this;exact this
def Jc(a:Nat)(h:a<9223372036854775808):bits .and .i64 (a:Int) 127=((a % 128:Nat):Int):=by have:=tQ a 127 h od;rw[show a &&& 127=a % 128 from jg7 a 7]at this;exact this
def VZ(a:Nat)(h:a<256):bits .and .i64 (a:Int) 64=((a / 64 % 2*64:Nat):Int):=by
 have:=tQ a 64 od od;rw[show a &&& 64=a / 64 % 2*64 from by
  have : ∀x:Fin 256,x.val &&& 64=x.val / 64 % 2*64:=vx
  exact this ⟨a,h⟩]at this
 exact this
def ZH(a:Nat)(h:a<64):bits .or .i64 0 (a:Int)=(a:Int):=by have:=oO 0 a od od;rw[Nat.zero_or]at this;exact this
def Zh(a:Nat)(h:a<64):bits .or .i64 64 (a:Int)=((64+a:Nat):Int):=by have:=oO 64 a od od;rw[<-Nat.two_pow_add_eq_or_of_lt (i:=6) h 1]at this;exact this
def Yz(a:Nat)(h:a<128):bits .or .i64 (a:Int) 128=((128+a:Nat):Int):=by have:=oO a 128 od od;rw[Nat.or_comm,<-Nat.two_pow_add_eq_or_of_lt (i:=7) h 1]at this;exact this
def wD (last m:Nat):bw:=if m=0 then [last.toUInt8]else (128+last).toUInt8::wD (m % 128) (m / 128)
 termination_by m
 decreasing_by omega
def pE (n:Int):bw:=wD ((if n<0 then 64 else 0)+n.natAbs % 64) (n.natAbs / 64)
def Bd(m:Nat):∀last,1<=(wD last m).length/\(∀k,m<128 ^ k->(wD last m).length<=k+1):=by
 induction m using Nat.strongRecOn with
 | _ m b =>
  intro last;rw[wD]
  by_cases h:m=0
  .simp[h]
  .rw[if_neg h];refine⟨oe,λk a=>?_⟩
   cases k with
   | zero=>simp at a;omega
   | succ k =>
    have:=(b (m / 128) od (m % 128)).2 k (by rw[Nat.pow_succ]at a;omega);simp;omega
def xx(n:Int)(h:bD n):1<=(pE n).length/\(pE n).length<=10:=by have⟨a,b⟩:=h;have:=Bd (n.natAbs / 64) ((if n<0 then 64 else 0)+n.natAbs % 64);exact⟨this.1,this.2 9 (by show _<9223372036854775808;omega)⟩
def info5:(prog.info? 5).map (λi=>(i.zero,i.size,i.bytes))=some (some (.int .u8 0),1,1):=oA
def cs (l:bw):bo:=l.map λb=>Value.int .u8 b.toNat
def Nb(l:bw):(cs l).length=l.length:=by simp[cs]
def Dj(a b:bw):cs (a++b)=cs a++cs b:=by simp[cs]
def om (B:Nat) (w:cg) (v:cm) (l:bw):Prop:=w.ownsRow B 5 1 v l.length (cs l)
def om.drew(h:om B w v l):om B w.drew v l:=h
def Gr.below{a:cg}{e:cm}(h:Gr w v a e)(d:om B w v l)(b:B<=w.heap.size):Below B w a :=
 (Below.refl B w).grown h.1 b (λk c=>(qb5 d k c).1)
def app1{rest:List Oper}(B:Nat)(pre:bw)(b:UInt8)(z:Int)(c:cg)(v:cm)(f:o.guard=none)(s x:Operand)
 (ho:o.op =.call { callee:=.builtin .append,args:=#[s,x],argTypes:=#[273,273] }) (hs:a.eval s=v) {H:Nat} (hx:a.eval x =.o H 1 1) (hH:c.heap.size=H)
 (hz:z=b.toNat) (hown:om B c v pre) (hB:B<=c.heap.size) (hlen:pre.length<=10000000)
 (h:∀v' w',om B w' v' (pre++[b])->Gr c v w' v'->wpList prog ops Q rest (a.put o.dst v') w'):wpList prog ops Q (o::rest) a (c.alloc (.cells #[.int .u8 z] 5)):=by
 have⟨t,r,i,k,l⟩:=jg2 info5;subst hz;subst hH;refine wpList_append_lies _ f s x 273 ho B 5 t (.int .u8 0) 1 1 underlying273 r i k l rfl ot v pre.length (cs pre) hs (qg4 hown _) ⟨c.heap.size,0,none⟩ 1 1 [.int .u8 b.toNat] hx rfl ?_ ?_ ot ?_ ?_ ?_ _ rfl ?_
 .intro j u e
  match j,e with
  | 0,e=>simp at e;subst e;simp[Addr.add]
 .intro u m;simp at m;subst m;rfl
 .unfold maxLen;omega
 .omega
 .simp;omega
 .intro g n w' p q d _;refine h _ w' ?_ ?_
  .unfold om;rw[Dj,jx];exact p
  .refine Gr.trans (Gr.alloc (Gr.refl c v) _) ⟨q,?_⟩;rcases d with d|d
   .exact .inl d.symm
   .exact .inr ⟨g,rfl,od⟩
def Xa(s:bp):Lib.strCells s=cs s.data.toList:=rfl
def Cf(B:Nat)(ty:TypeId)(v:cm)(pre:bw)(s:bp)(w:cg)(b:om B w v pre)(G:0<pre.length)(q:pre.length+s.size<=10000000)(y:B<=w.heap.size) :
 ∃v' w',(Builtin.append_ #[273,9] ty #[v,.string s]).run prog w =.ok v' w'/\om B w' v' (pre++s.data.toList)/\Gr w v w' v':=by
 have⟨p,l,f,e,h⟩:=jg2 info5;have⟨v',w',n,t,x,_⟩:=Lib.run_append_own_string (P:=prog) w B 273 9 ty 5 p underlying273 underlying9 l f e h v pre.length (cs pre) b s ZS od y;refine⟨v',w',n,?_,x,?_⟩
 .unfold om;rw[Dj,jx,<-Xa];exact t
 .have m:=b;unfold om at m;rcases m.2 with⟨rfl,F⟩|⟨g,c,i,rfl,z,D,E,A,C,o⟩
  .omega
  .by_cases d:pre.length+s.size<=c
   .have a:=Lib.run_append_room_string (P:=prog) w 273 9 ty 5 p underlying273 underlying9 l e g pre.length c i D s d od;rw[n]at a;injection a with k r;subst k;exact .inl rfl
   .have holds:∀j u,(cs pre)[j]?=some u->w.cell? ((⟨g,0,none⟩:Addr).add j)=some u:=qd7 m (g:=g) rfl;have a:=Lib.run_append_grow_string (P:=prog) w 273 9 ty 5 p (.int .u8 0) underlying273 underlying9 l f ⟨g,0,none⟩ pre.length c (cs pre) (by rw[e,Nb,Nat.mul_one]) holds s od od (by rw[h];exact growslice_fits od od);rw[n]at a;injection a with k r;subst k;exact .inr ⟨_,rfl,jj _⟩
def Ai{K:Act->cg->Prop}{E:Prop}(B:Nat)(pre:bw)(s:bp)(w:cg)(v:cm)(b:o.guard=none)(c x:Operand)
 (ho:o.op =.call { callee:=.builtin .append,args:=#[c,x],argTypes:=#[273,9] }) (hs:a.eval c=v) (hx:a.eval x =.string s)
 (hown:om B w v pre) (hp:0<pre.length) (hlen:pre.length+s.size<=10000000) (hB:B<=w.heap.size)
 (h:∀v' w',om B w' v' (pre++s.data.toList)->Gr w v w' v'->K (a.put o.dst v') w') :
 if Region.wanted o (yielded ops a.tmps)then Oper.wp prog o a w K Q else E:=by
 have g:Region.wanted o (yielded ops a.tmps):=by simp[Region.wanted,b]
 rw[if_pos g];have⟨v',w',f,d,e⟩:=Cf B o.type v pre s w hown hp hlen hB;unfold Oper.wp execOp;simp only[ho,resolve,invoke,builtin,qc2,je3,Result.andThen_ok,List.map_toArray,qc0,qh5,hs,hx,f];exact h v' w' d e
def qf(B:Nat)(n:Int)(hn:bD n)(O:-9223372036854775808<n)(v:cm)(xs:bw)(w:cg)(f:om B w v xs)(V:B<=w.heap.size)(J:xs.length<=1000000) :
 Calls prog 254 #[v,.i n] w λe w'=>∃v',e =.returned v'/\om B w' v' (xs++pE n)/\Gr w v w' v':=by
 have⟨S,T⟩:=hn;have⟨i0,X,P,Q,R⟩:=jg2 info5;have C:∃a m:Nat,a<128/\m<9223372036854775808/\pE n=wD a m/\(n<0->bits .or .i64 64 (bits .and .i64 (-n) 63)=(a:Int) /\ -n / 64=(m:Int))/\(¬n<0->bits .or .i64 0 (bits .and .i64 n 63)=(a:Int)/\n / 64=(m:Int)):=by
  refine⟨_,_,?_,?_,rfl,λh=>?_,λh=>?_⟩
  .split<;>omega
  .omega
  .have e:-n=(n.natAbs:Int):=by omega
   rw[e,Le _ od,Zh _ od,if_pos h];exact⟨rfl,od⟩
  .have e:n=(n.natAbs:Int):=by omega
   rw[e,Le _ od,ZH _ od,oa];exact⟨oe,od⟩
 have⟨c,D,M,N,I,r,q⟩:=C;have E:=jh I;clear I;have L:=xx n ⟨S,T⟩;rw[E.out]at L|-;rcases (show (n<0/\bits .or .i64 64 (bits .and .i64 (-n) 63)=(c:Int) /\ -n / 64=(D:Int))\/(0<=n/\bits .or .i64 0 (bits .and .i64 n 63)=(c:Int)/\n / 64=(D:Int)) from by
  by_cases h:n<0
  .exact .inl ⟨h,r h⟩
  .exact .inr ⟨od,q h⟩)with⟨s,G,H⟩|⟨s,G,H⟩
 all_goals
  clear r q;go_enter func254,ntmps254;go_wp2_with fail;clear G H E;go_loopw [0,6,1] (λK l n wr=>∃(d:bw) (a m:Nat),a<128/\m<9223372036854775808/\l =.i a/\n =.i m/\d++wD a m=xs++wD c D/\om B wr K d/\Gr w v wr K) (λ_ _ n _=>(intOf n).toNat)
  case atStart=>exact⟨xs,_,_,M,N,rfl,rfl,rfl,f,Gr.refl _ _⟩
  case round =>
   obtain⟨d,a,m,y,A,rfl,rfl,j,b,x⟩:=hrel;have k:=congrArg List.length j;simp only[jx]at k;have Z:=x.1.size;have⟨F,HO,HB⟩:=JT j b x;clear j b x f
   by_cases o:m=0
   .have p:¬(0:Int)<(m:Int):=by omega
    have z:=(Bd m a).1;have t:((a:Nat):Int)=(a.toUInt8).toNat:=by rw[show a.toUInt8.toNat=a % 256 from rfl,je5 od]
    have u:=jh t;clear t;go_wp2_with (at_builtin;refine app1 B d a.toUInt8 _ wr _ rfl _ _ rfl rfl rfl rfl u HO od od ?_;intro v' U b g);go_ret;refine⟨v',rfl,?_,HB.trans g⟩;have:=F.out;rw[wD,if_pos o]at this;rw[<-this];exact b
   .have p:(0:Int)<(m:Int):=by omega
    have Y:=Yz a y;have W:=Jc m A;have z:=(Bd m a).1;have t:(128+(a:Nat):Int)=((128+a).toUInt8).toNat:=by rw[show (128+a).toUInt8.toNat=(128+a) % 256 from rfl,je5 od];rfl
    have u:=jh t;clear t;go_wp2_with (at_builtin;refine app1 B d (128+a).toUInt8 _ wr _ rfl _ _ rfl rfl rfl rfl u HO od od ?_;intro v' U b g);go_roundw
    case rel=>exact⟨d++[(128+a).toUInt8],m % 128,m / 128,od,od,by go_num,by go_num,by have:=F.out;rw[wD,if_neg o]at this;simpa using this,b,HB.trans g⟩
    case measure=>simp[intOf];omega
