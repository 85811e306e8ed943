import Derived.Test.YtkglnoimbekhhaaGreatKZa
import Derived.Deep.RegionHeld3
import Derived.Deep.DeepCutAuto
import Derived.Lib.AppendStr
import Derived.Test.YtkglnoimbekhhaaGreatRows
import Derived.WalkKit
import Derived.ProofKit
namespace Go.Proofs.YtkglnoimbekhhaaGreat
set_option maxRecDepth 100000
set_option maxHeartbeats 4000000
open Go.ChangeShapes Go.WideShapes Go.ChangeAt Go.RowKit
set_option linter.unusedVariables false
theorem RowT.drop {ok:Nat -> Prop} {w:World} {ts:List Ty} {b o:Nat} {V:Nat -> Value} (h:RowT ok w ts (some ⟨b,o,none⟩) V) (k:Nat):RowT ok w (ts.drop k) (some ⟨b,o + k * 2,none⟩) (fun i=>V (i + k)):=by
 refine ⟨by have:=h.1;simp;omega,fun i hi=>?_,fun i hi=>?_⟩
 ·have hi2:i + k < ts.length:=by simp at hi;omega
  obtain ⟨b',o',e,hb,t,a',l,c,hv,h0,h1⟩:=h.2.1 (i + k) hi2
  simp only [Option.some.injEq,Addr.mk.injEq,and_true] at e
  obtain ⟨rfl,rfl⟩:=e
  refine ⟨b,o + k * 2,rfl,hb,t,a',l,c,hv,?_,?_⟩
  ·rw [show o + k * 2 + i * 2 = o + (i + k) * 2 from by omega];exact h0
  ·rw [show o + k * 2 + i * 2 + 1 = o + (i + k) * 2 + 1 from by omega];exact h1
 ·have hi2:i + k < ts.length:=by simp at hi;omega
  have:=h.2.2 (i + k) hi2
  rw [List.getElem_drop]
  simpa [Nat.add_comm] using this
theorem RowT.take {ok:Nat -> Prop} {w:World} {ts:List Ty} {a:Option Addr} {V:Nat -> Value} (h:RowT ok w ts a V) (k:Nat):RowT ok w (ts.take k) a V:=by
 refine ⟨by have:=h.1;simp;omega,fun i hi=>h.2.1 i (by simp at hi;omega),fun i hi=>?_⟩
 rw [List.getElem_take]
 exact h.2.2 i (by simp at hi;omega)
theorem RowT.base {ok:Nat -> Prop} {w:World} {ts:List Ty} {a:Option Addr} {V:Nat -> Value} (h:RowT ok w ts a V) (hl:0 < ts.length):∃ b o,a = some ⟨b,o,none⟩:=by
 obtain ⟨b,o,e,_⟩:=h.2.1 0 hl
 exact ⟨b,o,e⟩
theorem LiesT.ofRow {ok:Nat -> Prop} {w:World} {t:Int} {args:List Ty} {a:Option Addr} {c:Nat} {V:Nat -> Value} (it:I64 t) (hlc:args.length <= c) (h:RowT ok w args a V):LiesT ok w (.nd t args) (Go.Proofs.YtkglnoimbekhhaaGreat.tyV t a args.length c) :=
 .mk V h.1 hlc it h.2.1 h.2.2
def RowC (w:World) (ts:List Ty) (u:Value):Prop:=∃ a c V,u = .slice a ts.length c /\ ts.length <= c /\ RowT (fun _=>True) w ts a V
theorem RowC.grow {w W:World} {ts:List Ty} {u:Value} (h:RowC w ts u) (hg:w.grownBy W none):RowC W ts u:=by
 obtain ⟨a,c,V,e,h1,h2⟩:=h
 exact ⟨a,c,V,e,h1,h2.same (sAl hg)⟩
theorem rCq {w W:World} {ts:List Ty} {u:Value} (h:Hid (RowC w ts u)) (g:w.grownBy W none):Hid (RowC W ts u):=h.out.grow g
theorem RowC.nil (w:World) (a:Option Addr) (c:Nat):RowC w [] (.slice a 0 c):=⟨a,c,fun _=>.int .i64 0,rfl,Nat.zero_le _,RowT.nil _ _ _ _⟩
theorem LiesT.args {w:World} {T:Ty} {t:Int} {a:Option Addr} {l c:Nat} (h:LiesT (fun _=>True) w T (Go.Proofs.YtkglnoimbekhhaaGreat.tyV t a l c)):T.t = t /\ RowC w T.args (.slice a l c):=by
 have hc:=h.cap
 obtain ⟨a',c',V,e,_,hr⟩:=h.inv
 simp only [Go.Proofs.YtkglnoimbekhhaaGreat.tyV,Value.agg.injEq,Array.mk.injEq,List.cons.injEq,Value.int.injEq,Value.slice.injEq,true_and,and_true] at e
 obtain ⟨e1,rfl,rfl,rfl⟩:=e
 exact ⟨e1.symm,_,_,V,rfl,hc,hr⟩
theorem LiesT.oq {w:World} {t:Int} {args:List Ty} {a:Option Addr} {l c:Nat} (it:I64 t) (h:RowC w args (.slice a l c)):LiesT (fun _=>True) w (.nd t args) (Go.Proofs.YtkglnoimbekhhaaGreat.tyV t a l c):=by
 obtain ⟨a',c',V,e,h1,hr⟩:=h
 simp only [Value.slice.injEq] at e
 obtain ⟨rfl,rfl,rfl⟩:=e
 exact LiesT.ofRow it h1 hr
theorem RowC.cons {w:World} {T:Ty} {ts:List Ty} {u:Value} (h:RowC w (T :: ts) u):∃ b o c t a l k,u = .slice (some ⟨b,o,none⟩) (ts.length + 1) c /\ ts.length + 1 <= c /\ w.cell? ⟨b,o,none⟩ = some (.int .i64 t) /\ w.cell? ⟨b,o + 1,none⟩ = some (.slice a l k) /\ LiesT (fun _=>True) w T (Go.Proofs.YtkglnoimbekhhaaGreat.tyV t a l k):=by
 obtain ⟨a',c,V,e,h1,hr⟩:=h
 obtain ⟨b,o,rfl,_,t,a,l,k,hv,h0,h2⟩:=hr.2.1 0 (by simp)
 have hL:=hr.2.2 0 (by simp)
 rw [hv] at hL
 exact ⟨b,o,c,t,a,l,k,e,by simpa using h1,by simpa using h0,by simpa using h2,hL⟩
theorem RowC.len {w:World} {ts:List Ty} {a:Option Addr} {l c:Nat} (h:RowC w ts (.slice a l c)):l = ts.length /\ ts.length <= c /\ ts.length <= maxLen:=by
 obtain ⟨a',c',V,e,h1,hr⟩:=h
 simp only [Value.slice.injEq] at e
 obtain ⟨rfl,rfl,rfl⟩:=e
 exact ⟨rfl,h1,hr.1⟩
theorem RowC.form {w:World} {ts:List Ty} {u:Value} (h:RowC w ts u):∃ a c,u = .slice a ts.length c /\ ts.length <= c /\ ts.length <= 9223372036854775807:=by
 obtain ⟨a',c',V,e,h1,hr⟩:=h
 exact ⟨a',c',e,h1,by have:=hr.1;unfold maxLen at this;omega⟩
theorem RowC.form3 {w:World} {ts:List Ty} {u:Value} (h:RowC w ts u):∃ a l c,u = .slice a l c:=by
 obtain ⟨a,c,_,e,_⟩:=h
 exact ⟨a,_,c,e⟩
theorem RowC.drop {w:World} {ts:List Ty} {b o l c:Nat} (h:RowC w ts (.slice (some ⟨b,o,none⟩) l c)) (k:Nat) (hk:k <= ts.length):RowC w (ts.drop k) (.slice (some ⟨b,o + k * 2,none⟩) (l - k) (c - k)):=by
 obtain ⟨a',c',V,e,h1,hr⟩:=h
 simp only [Value.slice.injEq] at e
 obtain ⟨rfl,rfl,rfl⟩:=e
 exact ⟨_,_,_,by rw [List.length_drop],by rw [List.length_drop];omega,hr.drop k⟩
theorem RowC.dropAll {w:World} {ts:List Ty} {a:Option Addr} {l c:Nat} (h:RowC w ts (.slice a l c)) (k:Nat) (hk:ts.length <= k) (a':Option Addr) (c':Nat):RowC w (ts.drop k) (.slice a' 0 c'):=by
 rw [List.drop_of_length_le hk];exact RowC.nil _ _ _
theorem RowC.take {w:World} {ts:List Ty} {a:Option Addr} {l c:Nat} (h:RowC w ts (.slice a l c)) (k c':Nat) (hk:k <= ts.length) (hc:k <= c'):RowC w (ts.take k) (.slice a k c'):=by
 obtain ⟨a',c2,V,e,h1,hr⟩:=h
 simp only [Value.slice.injEq] at e
 obtain ⟨rfl,rfl,rfl⟩:=e
 exact ⟨_,_,V,by rw [List.length_take,Nat.min_eq_left hk],by rw [List.length_take];omega,hr.take k⟩
theorem RowC.one {w:World} {b:Nat} {t:Int} {a:Option Addr} {l k:Nat} {T:Ty} (hb:w.heap[b]? = some (.cells #[.int .i64 t,.slice a l k] 24 (0,0))) (hL:LiesT (fun _=>True) w T (Go.Proofs.YtkglnoimbekhhaaGreat.tyV t a l k)):RowC w [T] (.slice (some ⟨b,0,none⟩) 1 1):=by
 refine ⟨_,_,fun _=>Go.Proofs.YtkglnoimbekhhaaGreat.tyV t a l k,rfl,by simp,by simp [maxLen],fun i hi=>?_,fun i hi=>?_⟩
 ·have : i = 0:=by simpa using hi
  subst this
  exact ⟨b,0,rfl,trivial,t,a,l,k,rfl,c0q hb,c1q hb⟩
 ·have : i = 0:=by simpa using hi
  subst this
  exact hL
theorem RowC.two {w:World} {b:Nat} {t t2:Int} {a a2:Option Addr} {l k l2 k2:Nat} {T U:Ty} (hb:w.heap[b]? = some (.cells #[.int .i64 t,.slice a l k,.int .i64 t2,.slice a2 l2 k2] 24 (0,0))) (hL:LiesT (fun _=>True) w T (Go.Proofs.YtkglnoimbekhhaaGreat.tyV t a l k)) (hU:LiesT (fun _=>True) w U (Go.Proofs.YtkglnoimbekhhaaGreat.tyV t2 a2 l2 k2)):RowC w [T,U] (.slice (some ⟨b,0,none⟩) 2 2):=by
 refine ⟨_,_,fun i=>if i = 0 then Go.Proofs.YtkglnoimbekhhaaGreat.tyV t a l k else Go.Proofs.YtkglnoimbekhhaaGreat.tyV t2 a2 l2 k2,rfl,by simp,by simp [maxLen],fun i hi=>?_,fun i hi=>?_⟩
 ·rcases (show i = 0 \/ i = 1 by simp at hi;omega) with rfl | rfl
  ·exact ⟨b,0,rfl,trivial,t,a,l,k,rfl,by simp [World.cell?,hb],by simp [World.cell?,hb]⟩
  ·exact ⟨b,0,rfl,trivial,t2,a2,l2,k2,rfl,by simp [World.cell?,hb],by simp [World.cell?,hb]⟩
 ·rcases (show i = 0 \/ i = 1 by simp at hi;omega) with rfl | rfl
  ·exact hL
  ·exact hU
theorem addr_add (b o j:Nat):(⟨b,o,none⟩:Addr).add j = ⟨b,o + j,none⟩:=by
 unfold Addr.add
 by_cases h:j = 0
 ·subst h;rfl
 ·rw [if_neg h]
theorem RowT.src {w:World} {ts:List Ty} {a:Option Addr} {V:Nat -> Value} (h:RowT (fun _=>True) w ts a V) (c:Nat):∃ vs:List Value,vs.length = ts.length /\ SrcAt w (.slice a ts.length c) ts.length (flatT vs) /\ (flatT vs).length = ts.length * 2 /\ (∀ u ∈ flatT vs,u.oneCell' = true) /\ ∀ (i:Nat) (t:Ty) (u:Value),ts[i]? = some t -> vs[i]? = some u -> LiesT (fun _=>True) w t u:=by
 let vs:=(List.range ts.length).map V
 have hlen:vs.length = ts.length:=by simp [vs]
 have hget:∀ i,i < ts.length -> vs[i]? = some (V i):=fun i hi=>by simp [vs,hi]
 have hty:∀ i,i < ts.length -> ∃ t a' l k,V i = Go.Proofs.YtkglnoimbekhhaaGreat.tyV t a' l k:=fun i hi=>by
  obtain ⟨_,_,_,_,t,a',l,k,hv,_⟩:=h.2.1 i hi
  exact ⟨t,a',l,k,hv⟩
 have h2:∀ u ∈ vs,∃ t a' l k,u = Go.Proofs.YtkglnoimbekhhaaGreat.tyV t a' l k:=fun u hu=>by
  simp only [vs,List.mem_map,List.mem_range] at hu
  obtain ⟨i,hi,rfl⟩:=hu
  exact hty i hi
 have h2x:∀ u ∈ vs,(tyCells u).length = 2:=fun u hu=>by obtain ⟨t,a',l,k,rfl⟩:=h2 u hu;rfl
 have hfl:∀ (us:List Value),(∀ u ∈ us,(tyCells u).length = 2) -> (flatT us).length = us.length * 2:=fun us=>by
  induction us with
  | nil=>intro _;rfl
  | cons x us ih =>
   intro hx
   have e1:=hx x (by simp)
   have e2:=ih (fun u hu=>hx u (by simp [hu]))
   simp only [flatT,List.flatMap_cons,List.length_append,List.length_cons] at e2 ⊢
   omega
 refine ⟨vs,hlen,?_,by rw [hfl vs h2x,hlen],fun u hu=>?_,fun i t u ht hu=>?_⟩
 ·cases a with
  | none =>
   have h0:ts.length = 0:=by
    rcases Nat.eq_zero_or_pos ts.length with e | e
    ·exact e
    ·obtain ⟨b,o,e2⟩:=h.base e;cases e2
   exact .inl ⟨c,by rw [h0],h0,by rw [List.eq_nil_of_length_eq_zero (hlen.trans h0)];rfl⟩
  | some ad =>
   refine .inr ⟨ad,c,rfl,fun j u hu=>?_⟩
   have hj:j < (flatT vs).length:=(List.getElem?_eq_some_iff.1 hu).1
   rw [hfl vs h2x,hlen] at hj
   have hi:j / 2 < ts.length:=by omega
   obtain ⟨b,o,e,_,t,a',l,k,hv,c0,c1⟩:=h.2.1 (j / 2) hi
   have hf:=flatT_get vs h2x (j / 2) (j % 2) (V (j / 2)) (hget _ hi) (by omega)
   rw [show j / 2 * 2 + j % 2 = j from by omega,hu,hv] at hf
   simp only [Option.some.injEq] at e
   subst e
   rcases (show j % 2 = 0 \/ j % 2 = 1 by omega) with q | q
   ·rw [q] at hf
    simp [tyCells,Go.Proofs.YtkglnoimbekhhaaGreat.tyV] at hf
    rw [hf,← c0]
    rw [addr_add,show o + j = o + j / 2 * 2 from by omega]
   ·rw [q] at hf
    simp [tyCells,Go.Proofs.YtkglnoimbekhhaaGreat.tyV] at hf
    rw [hf,← c1]
    rw [addr_add,show o + j = o + j / 2 * 2 + 1 from by omega]
 ·simp only [flatT,List.mem_flatMap] at hu
  obtain ⟨x,hx,hu⟩:=hu
  obtain ⟨t,a',l,k,rfl⟩:=h2 x hx
  simp [tyCells,Go.Proofs.YtkglnoimbekhhaaGreat.tyV] at hu
  rcases hu with rfl | rfl <;> rfl
 ·have hi:i < ts.length:=(List.getElem?_eq_some_iff.1 ht).1
  rw [hget i hi] at hu
  rw [List.getElem?_eq_getElem hi] at ht
  simp only [Option.some.injEq] at ht hu
  subst ht;subst hu
  exact h.2.2 i hi
theorem SrcAt.grow {w w':World} {xv:Value} {m:Nat} {news:List Value} (h:SrcAt w xv m news) (hg:w.grownBy w' none):SrcAt w' xv m news:=by
 rcases h with h | ⟨ad,c,rfl,h⟩
 ·exact .inl h
 ·refine .inr ⟨ad,c,rfl,fun j u hu=>?_⟩
  have h1:=h j u hu
  exact (World.cell?_of_block (hg.block _ (World.block_lt_of_cell? w _ h1) (by simp))).trans h1
structure CatOk (W w:World) (v:Value) (ts:List Ty) (vs:List Value):Prop where
 own:OTq W.heap.size w v vs
 len:vs.length = ts.length
 lies:∀ (i:Nat) (t:Ty) (u:Value),ts[i]? = some t -> vs[i]? = some u -> LiesT (fun _=>True) W t u
theorem CatOk.more {W w w':World} {v v':Value} {ts us:List Ty} {vs ns:List Value} (h:CatOk W w v ts vs) (ho:OTq W.heap.size w' v' (vs ++ ns)) (hl:ns.length = us.length) (hu:∀ (i:Nat) (t:Ty) (u:Value),us[i]? = some t -> ns[i]? = some u -> LiesT (fun _=>True) W t u):CatOk W w' v' (ts ++ us) (vs ++ ns):=by
 refine ⟨ho,by simp [h.len,hl],fun i t u ht hv=>?_⟩
 by_cases hi:i < ts.length
 ·rw [List.getElem?_append_left hi] at ht
  rw [List.getElem?_append_left (by rw [h.len];exact hi)] at hv
  exact h.lies i t u ht hv
 ·rw [List.getElem?_append_right (by omega)] at ht
  rw [List.getElem?_append_right (by rw [h.len];omega),h.len] at hv
  exact hu _ t u ht hv
theorem CatOk.done {W w:World} {v:Value} {ts:List Ty} {vs:List Value} (h:CatOk W w v ts vs) (hg:W.grownBy w none):RowC w ts v:=by
 have hl:=h.len
 have hk:ListOkT 0 w v ts vs:=by
  refine ⟨?_,h.len,fun i t u ht hu=>?_⟩
  ·obtain ⟨h1,h2⟩:=h.own
   refine ⟨h1,?_⟩
   rcases h2 with h2 | ⟨g,cap,cur,e,_,h3⟩
   ·exact .inl h2
   ·exact .inr ⟨g,cap,cur,e,Nat.zero_le _,h3⟩
  ·have hb:=(h.lies i t u ht hu).okMono (ok':=(· < W.heap.size)) (fun b hb _=>hb)
   refine (hb.same (w':=w) (fun b o hb _=>World.cell?_of_block (hg.block b hb (by simp)))).okMono (fun b _ hb=>⟨Nat.zero_le _,fun e=>?_⟩)
   have h3:=(World.ownsRow.lt h.own b e.symm).1
   have : b < W.heap.size:=hb
   omega
 obtain ⟨a,c,V,e,h1,h2⟩:=hk.done
 have hm:ts.length <= maxLen /\ ts.length <= c:=by
  rcases h.own.2 with ⟨e2,h0⟩ | ⟨g,cap,cur,e2,_,_,h4,h5,_⟩
  ·rw [hl] at h0;rw [h0];exact ⟨Nat.zero_le _,Nat.zero_le _⟩
  ·rw [e2] at e
   simp only [Value.slice.injEq] at e
   obtain ⟨_,e3,e4⟩:=e
   exact ⟨by omega,by omega⟩
 exact ⟨a,c,V,e,hm.2,hm.1,fun i hi=>(h1 i hi).okMono (fun _ _ _=>trivial),fun i hi=>(h2 i hi).okMono (fun _ _ _=>trivial)⟩
theorem growT_any (n:Nat) (hn:n <= 20000000) (W:World) :
 Calls Tryz.prog 122 #[.slice none 0 0,.int .i64 n] W fun e w'=>∃ v,e = .returned v /\ w'.ownsRow W.heap.size 24 2 v 0 [] /\ W.grownBy w' none:=by
 have h63:(n:Int) <= 20000000:=by omega
 have h0n:¬ (n:Int) < 0:=by omega
 by_cases h:n = 0
 ·subst h
  go_enter Tryz.func122,Tryz.ntmps122
  go_wp2_with fail
  go_ret
  exact ⟨_,rfl,World.ownsRow_nil _ _ _ _,gRf _ _⟩
 ·obtain ⟨g,cap,w1,hr,ho,hg,hc,hc2⟩:=zeros_own W 22 3 22 24 .i64 .i64 _ 2 32 info_ty Tryz.underlying22 Tryz.underlying3 n (by omega) (by decide) rfl (by omega) (by decide)
  have hpos:(n:Int) > 0:=by omega
  have HO:=jh ho
  have HG:=jh hg
  clear ho hg
  go_enter Tryz.func122,Tryz.ntmps122
  go_wp2_with (at_builtin;refine Lib.wpList_append_run _ rfl _ _ _ _ rfl _ _ rfl rfl _ _ hr ?_)
  go_ret
  exact ⟨_,rfl,HO.out,HG.out⟩
theorem concat_any {W:World} {x y:List Ty} {xv yv:Value} {b:Nat} (hb:W.heap[b]? = some (.cells #[xv,yv] 22 (0,0))) (hx:RowC W x xv) (hy:RowC W y yv) (hn:x.length + y.length <= 20000000) :
 Calls Tryz.prog 110 #[.slice (some ⟨b,0,none⟩) 2 2] W fun e w'=>∃ v,e = .returned v /\ RowC w' (x ++ y) v /\ W.grownBy w' none:=by
 have HX:=jh hx
 have HY:=jh hy
 obtain ⟨xa,xc,VX,rfl,hxc,hrx⟩:=hx
 obtain ⟨ya,yc,VY,rfl,hyc,hry⟩:=hy
 have HRX:=jh hrx
 have HRY:=jh hry
 have HB:=jh hb
 have c0:=c0q hb
 have c1:=c1q hb
 have HGR:=jh (growT_any (x.length + y.length) hn)
 have hi:(x.length:Int) + (y.length:Int) <= 20000000:=by omega
 have hbl:b < W.heap.size:=(Array.getElem?_eq_some_iff.1 hb).1
 clear hrx hry hb
 go_enter Tryz.func110,Tryz.ntmps110
 go_wp2_with fail
 go_loopw [3,11] (fun sv iv wr=>wr = W /\ ((iv = .int .i64 0 /\ sv = .int .i64 0) \/ (iv = .int .i64 1 /\ sv = .int .i64 x.length) \/ (iv = .int .i64 2 /\ sv = .int .i64 ((x.length + y.length:Nat):Int)))) (fun _ iv _=>2 - (intOf iv).toNat)
 case atStart=>exact ⟨rfl,.inl ⟨rfl,rfl⟩⟩
 case round =>
  obtain ⟨hw,hh⟩:=hrel
  replace hw:=hw.symm
  subst hw
  rcases hh with ⟨rfl,rfl⟩ | ⟨rfl,rfl⟩ | ⟨rfl,rfl⟩
  ·go_wp2_with fail
   go_roundw
   case rel=>exact ⟨by trivial,.inr (.inl ⟨rfl,by go_num⟩)⟩
   case measure=>simp [intOf]
  ·go_wp2_with fail
   go_roundw
   case rel=>exact ⟨by trivial,.inr (.inr ⟨rfl,by go_num⟩)⟩
   case measure=>simp [intOf]
  ·go_wp2_with fail
   refine (HGR.out _).mono ?_;rintro e w1 ⟨v0,rfl,hown0,hg0⟩
   have HO0:Hid (CatOk W w1 v0 [] []):=⟨hown0,rfl,fun i t u h=>by simp at h⟩
   have HG0:=jh hg0
   clear hown0 hg0 HGR c0 c1
   go_wp2_with fail
   go_loopw [6,27] (fun nv iv wx=>W.grownBy wx none /\ ((iv = .int .i64 0 /\ ∃ vs,CatOk W wx nv [] vs) \/ (iv = .int .i64 1 /\ ∃ vs,CatOk W wx nv x vs) \/ (iv = .int .i64 2 /\ ∃ vs,CatOk W wx nv (x ++ y) vs))) (fun _ iv _=>2 - (intOf iv).toNat)
   case atStart=>exact ⟨HG0.out,.inl ⟨rfl,[],HO0.out⟩⟩
   case round =>
    obtain ⟨hgx,hh⟩:=hrel
    have hb2:=(hgx.block _ hbl (by simp)).trans HB.out
    have c0:=c0q hb2
    have c1:=c1q hb2
    have HGX:=jh hgx
    clear hb2 hgx
    rcases hh with ⟨rfl,vs,hK⟩ | ⟨rfl,vs,hK⟩ | ⟨rfl,vs,hK⟩
    ·obtain ⟨ns,n1,n2,n3,n4,n5⟩:=HRX.out.src xc
     have HK:=jh hK
     have HS:=jh (n2.grow HGX.out)
     have HN5:=jh n5
     have hvl:vs.length = 0:=hK.len
     clear hK n2 n5
     go_wp2_with (at_builtin;refine wpList_app rfl _ _ 22 rfl W.heap.size 24 Tryz.underlying22 info_ty rfl (by decide) _ vs.length (flatT vs) rfl HK.out.own _ x.length (flatT ns) rfl n3 HS.out n4 (by unfold maxLen;omega) (by omega) HGX.out.size ?_;intro v' w' ho hg _;have HG2:=jh (grow_own HGX.out HK.out.own (Nat.le_refl _) hg.1);have HK2:=jh (HK.out.more (v':=v') (w':=w') (ns:=ns) (us:=x) (by unfold OTq;rw [flatT_append,List.length_append,n1];exact ho) n1 HN5.out);clear ho hg)
     go_roundw
     case rel=>exact ⟨HG2.out,.inr (.inl ⟨rfl,_,HK2.out⟩)⟩
     case measure=>simp [intOf]
    ·obtain ⟨ns,n1,n2,n3,n4,n5⟩:=HRY.out.src yc
     have HK:=jh hK
     have HS:=jh (n2.grow HGX.out)
     have HN5:=jh n5
     have hvl:=hK.len
     clear hK n2 n5
     go_wp2_with (at_builtin;refine wpList_app rfl _ _ 22 rfl W.heap.size 24 Tryz.underlying22 info_ty rfl (by decide) _ vs.length (flatT vs) rfl HK.out.own _ y.length (flatT ns) rfl n3 HS.out n4 (by unfold maxLen;omega) (by omega) HGX.out.size ?_;intro v' w' ho hg _;have HG2:=jh (grow_own HGX.out HK.out.own (Nat.le_refl _) hg.1);have HK2:=jh (HK.out.more (v':=v') (w':=w') (ns:=ns) (us:=y) (by unfold OTq;rw [flatT_append,List.length_append,n1];exact ho) n1 HN5.out);clear ho hg)
     go_roundw
     case rel=>exact ⟨HG2.out,.inr (.inr ⟨rfl,_,HK2.out⟩)⟩
     case measure=>simp [intOf]
    ·have HD:=jh (hK.done HGX.out)
     clear hK
     go_wp2_with fail
     go_ret
     exact ⟨_,rfl,HD.out,HGX.out⟩
def primHere (k n:Int) (s:ByteArray):Bool:=decide (k = 2 /\ n = 0 /\ s.size = 0)
mutual
def primB:Tr -> Bool
 | .nd k n _ s args=>primHere k n s && primBs args
def primBs:List Tr -> Bool
 | []=>true
 | t :: ts=>primB t && primBs ts
end
mutual
def kreadT:Tr -> Ty
 | .nd _ _ p _ args=>.nd p (kreadTs args)
def kreadTs:List Tr -> List Ty
 | []=>[]
 | t :: ts=>kreadT t :: kreadTs ts
end
theorem readTs_map (l:List Tr):kreadTs l = l.map kreadT:=by
 induction l with
 | nil=>rfl
 | cons t ts ih=>simp [kreadTs,ih]
theorem primBs_all (l:List Tr):primBs l = l.all primB:=by
 induction l with
 | nil=>rfl
 | cons t ts ih=>simp [primBs,ih]
def readAt (m:Nat) (t:Tr):Bool:=primB t && decide (m + t.size <= 300)
def KReadPost (m:Nat) (t:Tr) (cb:Nat) (w2:World) (e:Ending) (w':World):Prop :=
 w2.grownBy w' (some cb) /\ ((readAt m t = true /\ ∃ u,e = .returned (.tuple #[u,.bool true]) /\ LiesT (w2.heap.size <= ·) w' (kreadT t) u /\ CountAt w' cb (m + t.size)) \/
  (readAt m t = false /\ e = .returned (.tuple #[tyV 0 none 0 0,.bool false])))
def set2 (w:World) (b:Nat) (x y:Value):World:=(w.setCell ⟨b,0,none⟩ x).setCell ⟨b,1,none⟩ y
theorem set2_block {w:World} {b:Nat} {x0 y0:Value} {T:TypeId} (h:w.heap[b]? = some (.cells #[x0,y0] T (0,0))) (x y:Value):(set2 w b x y).heap[b]? = some (.cells #[x,y] T (0,0)):=by
 unfold set2
 have h1:=heap_setCell_same w b 0 #[x0,y0] T x h
 have h2:=heap_setCell_same (w.setCell ⟨b,0,none⟩ x) b 1 _ T y h1
 simpa using h2
theorem set2_grow (w:World) (b:Nat) (x y:Value):w.grownBy (set2 w b x y) (some b):=gSq (gSq (gRf _ _) _ _ _) _ _ _
theorem read_no {cb:Nat} {t:Tr} {k n p:Int} {s:ByteArray} {a:Option Addr} {l c:Nat} (m:Nat) (w2:World) (hcb:CountAt w2 cb m) (hm:m <= 300) (hl:l <= maxLen) (hT:readAt m t = false) (hw:m = 300 \/ primHere k n s = false) :
 Calls Tryz.prog 131 #[nodeV k n p s a l c,.pointer (some ⟨cb,0,none⟩)] w2 (KReadPost m t cb w2):=by
 have hs:Hid (s.toList = [] ↔ s.size = 0):=Lf.nil_iff s
 have c1:=cell_of_one hcb
 have c2:=free_of_one hcb
 have l1:cb < w2.heap.size:=lt_of_block hcb
 have l2:cb < w2.heap.size + 1:=by omega
 have l3:cb < w2.heap.size + 1 + 1:=by omega
 have HT:=jh hT
 clear hcb hT
 unfold nodeV
 by_cases hm3:m = 300
 ·have hm':(300:Int) < (m:Int) + 1:=by omega
  clear hw
  go_enter Tryz.func131,Tryz.ntmps131
  go_wp2_with fail
  refine bodyPost_ret (v:=.tuple #[tyV 0 none 0 0,.bool false]) (by simp [results,Tryz.results131,go_sem,tyV]) rfl ⟨?_,.inr ⟨HT.out,rfl⟩⟩
  exact gTr (gTr (gSq (gRf _ _) _ _ _) (gAq (gBq _))) (gAq (gBq _))
 ·have hm':(m:Int) + 1 <= 300:=by omega
  have hp:primHere k n s = false:=by
   rcases hw with h | h
   ·exact absurd h hm3
   ·exact h
  have hq:¬ (k = 2 /\ n = 0 /\ s.size = 0):=by simpa [primHere] using hp
  rcases (show k ≠ 2 \/ (k = 2 /\ n ≠ 0) \/ (k = 2 /\ n = 0 /\ s.size ≠ 0) from by omega) with h | ⟨rfl,h⟩ | ⟨rfl,rfl,h⟩
  ·have h1:(k == 2) = false:=by simpa using h
   clear hw hp hq
   go_enter Tryz.func131,Tryz.ntmps131
   go_wp2_with fail
   refine bodyPost_ret (v:=.tuple #[tyV 0 none 0 0,.bool false]) (by simp [results,Tryz.results131,go_sem,tyV]) rfl ⟨?_,.inr ⟨HT.out,rfl⟩⟩
   exact gTr (gTr (gSq (gRf _ _) _ _ _) (gAq (gBq _))) (gAq (gBq _))
  ·have h1:(n == 0) = false:=by simpa using h
   clear hw hp hq
   go_enter Tryz.func131,Tryz.ntmps131
   go_wp2_with fail
   refine bodyPost_ret (v:=.tuple #[tyV 0 none 0 0,.bool false]) (by simp [results,Tryz.results131,go_sem,tyV]) rfl ⟨?_,.inr ⟨HT.out,rfl⟩⟩
   exact gTr (gTr (gSq (gRf _ _) _ _ _) (gAq (gBq _))) (gAq (gBq _))
  ·have h1:s.toList.isEmpty = false:=by
    have:=hs.out
    cases hl:s.toList with
    | nil=>exact absurd (this.1 hl) h
    | cons x y=>rfl
   clear hw hp hq hs
   go_enter Tryz.func131,Tryz.ntmps131
   go_wp2_with fail
   refine bodyPost_ret (v:=.tuple #[tyV 0 none 0 0,.bool false]) (by simp [results,Tryz.results131,go_sem,tyV]) rfl ⟨?_,.inr ⟨HT.out,rfl⟩⟩
   exact gTr (gTr (gSq (gRf _ _) _ _ _) (gAq (gBq _))) (gAq (gBq _))
structure RInv (w2 w:World) (cb tb rb H m:Nat) (p:Int) (lv:Value) (ts:List Ty) (vs:List Value):Prop where
 grown:w2.grownBy w (some cb)
 count:CountAt w cb m
 small:m <= 300
 blk:w.heap[tb]? = some (.cells #[.int .i64 p,lv] 24 (0,0))
 res:w.heap[rb]? = some (.cells #[.int .i64 0,.slice none 0 0] 24 (0,0))
 list:ListOkT H w lv ts vs
 hz:H <= w.heap.size
theorem RInv.next {w2 w w':World} {cb tb rb H m m':Nat} {p:Int} {lv:Value} {ts:List Ty} {vs:List Value} (h:RInv w2 w cb tb rb H m p lv ts vs) (hg:w.grownBy w' (some cb)) (ht:tb ≠ cb) (hr:rb ≠ cb) (hcH:cb < H) (hc:CountAt w' cb m') (hm:m' <= 300):RInv w2 w' cb tb rb H m' p lv ts vs :=
 ⟨gTr h.grown hg,hc,hm,(hg.block _ (lt_of_block h.blk) (by simpa using ht)).trans h.blk,(hg.block _ (lt_of_block h.res) (by simpa using hr)).trans h.res,h.list.keep hg hcH,Nat.le_trans h.hz hg.size⟩
theorem RInv.alloc {w2 w:World} {cb tb rb H m:Nat} {p:Int} {lv:Value} {ts:List Ty} {vs:List Value} (h:RInv w2 w cb tb rb H m p lv ts vs) (hcH:cb < H) (o:Obj):RInv w2 (w.alloc o) cb tb rb H m p lv ts vs :=
 ⟨gTr h.grown (gAq (gBq _)),heap_keep h.count,h.small,heap_keep h.blk,heap_keep h.res,h.list.keep (gAq (gBq _)) hcH,by rw [World.size_alloc];exact Nat.le_succ_of_le h.hz⟩
theorem own_lt_ne {w:World} {B:Nat} {e:TypeId} {size n:Nat} {v:Value} {xs:List Value} (h:w.ownsRow B e size v n xs) {y:Nat} (hy:y < B):some y ≠ v.ownBlock:=fun e=>by have:=(World.ownsRow.lt h y e.symm).1;omega
theorem RInv.push {w2 w w':World} {cb tb rb H m S:Nat} {p:Int} {lv lv' u:Value} {ts:List Ty} {vs:List Value} {t:Ty} (h:RInv w2 w cb tb rb H m p lv ts vs) (hcb:cb < w2.heap.size) (ht:w2.heap.size <= tb) (htH:tb < H) (hr:w2.heap.size <= rb) (hrH:rb < H) (hrt:rb ≠ tb) (hS:H <= S)
 (hvS:∀ k,lv.ownBlock = some k -> k < S) (hL:LiesT (S <= ·) w t u) (hg:Gr w lv w' lv') (ho:OTq H w' lv' (vs ++ [u])):RInv w2 (w'.setCell ⟨tb,1,none⟩ lv') cb tb rb H m p lv' (ts ++ [t]) (vs ++ [u]):=by
 have hset:w'.grownBy (w'.setCell ⟨tb,1,none⟩ lv') (some tb):=gSq (gRf _ _) _ _ _
 have kb:w'.heap[tb]? = _:=(hg.block (lt_of_block h.blk) (own_lt_ne h.list.own htH)).trans h.blk
 have kr:w'.heap[rb]? = _:=(hg.block (lt_of_block h.res) (own_lt_ne h.list.own hrH)).trans h.res
 have kc:w'.heap[cb]? = _:=(hg.block (lt_of_block h.count) (own_lt_ne h.list.own (by omega))).trans h.count
 refine ⟨?_,?_,h.small,?_,?_,(h.list.push hS hvS hL hg ho).keep hset htH,?_⟩
 ·refine ⟨hg.1.os.trans h.grown.os,hg.1.tape.trans h.grown.tape,hg.1.output.trans h.grown.output,Nat.le_trans h.grown.size (Nat.le_trans hg.1.size hset.size),fun i hi hr=>?_⟩
  rw [hset.block i (by have:=h.grown.size;have:=hg.1.size;omega) (by simp;omega),hg.block (by have:=h.grown.size;omega) (own_lt_ne h.list.own (by omega))]
  exact h.grown.block i hi hr
 ·exact (hset.block cb (lt_of_block kc) (by simp;omega)).trans kc
 ·have:=heap_setCell_same w' tb 1 _ _ lv' kb
  simpa using this
 ·exact (hset.block rb (lt_of_block kr) (by simpa using hrt)).trans kr
 ·have:=h.hz;have:=hg.1.size;have:=hset.size;omega
def rw0 (w:World) (cb m:Nat) (k n p:Int) (s:ByteArray) (a:Option Addr) (l c:Nat):World :=
 (((w.setCell ⟨cb,0,none⟩ (.int .i64 ((m:Int) + 1))).alloc (.cells #[.int .i64 k,.int .i64 n,.int .i64 p,.string s,.slice a l c] 48)).alloc (.cells #[.int .i64 0,.slice none 0 0] 24)).alloc (.cells #[.int .i64 p,.slice none 0 0] 24)
theorem rw0_inv {w:World} {cb m:Nat} {k n p:Int} {s:ByteArray} {a:Option Addr} {l c:Nat} (h:CountAt w cb m) (hm:m + 1 <= 300):RInv w (rw0 w cb m k n p s a l c) cb (w.heap.size + 1 + 1) (w.heap.size + 1) (w.heap.size + 1 + 1 + 1) (m + 1) p (.slice none 0 0) [] []:=by
 have e1:=heap_alloc_new ((w.setCell ⟨cb,0,none⟩ (.int .i64 ((m:Int) + 1))).alloc (.cells #[.int .i64 k,.int .i64 n,.int .i64 p,.string s,.slice a l c] 48)) (.cells #[.int .i64 0,.slice none 0 0] 24)
 have e2:=heap_alloc_new (((w.setCell ⟨cb,0,none⟩ (.int .i64 ((m:Int) + 1))).alloc (.cells #[.int .i64 k,.int .i64 n,.int .i64 p,.string s,.slice a l c] 48)).alloc (.cells #[.int .i64 0,.slice none 0 0] 24)) (.cells #[.int .i64 p,.slice none 0 0] 24)
 simp only [World.size_alloc,set_size] at e1 e2
 refine ⟨gTr (gTr (gTr (gSq (gRf _ _) _ _ _) (gAq (gBq _))) (gAq (gBq _))) (gAq (gBq _)),heap_keep (heap_keep (heap_keep (one_setCell h))),hm,e2,heap_keep e1,ListOkT.nil _ _,?_⟩
 unfold rw0
 simp only [World.size_alloc,set_size]
 exact Nat.le_refl _
theorem readAt_nd (m:Nat) (k n p:Int) (s:ByteArray) (args:List Tr) (h:primHere k n s = true):readAt m (.nd k n p s args) = (primBs args && decide (m + 1 + sizes args <= 300)):=by
 simp only [readAt,primB,Tr.size,h,Bool.true_and,show m + (sizes args + 1) = m + 1 + sizes args from by omega]
theorem readAt_no {m:Nat} {args:List Tr} {j:Nat} (hj:j < args.length) (h:readAt (m + sizes (args.take j)) args[j] = false):(primBs args && decide (m + sizes args <= 300)) = false:=by
 cases hq:(primBs args && decide (m + sizes args <= 300)) with
 | false=>rfl
 | true =>
  simp only [Bool.and_eq_true,decide_eq_true_eq,primBs_all,List.all_eq_true] at hq
  have h1:=hq.1 args[j] (List.getElem_mem hj)
  have h2:=sizes_take_succ args j hj
  have h3:=sizes_take_le args (j + 1)
  simp [readAt,h1] at h
  omega
theorem grow_set2 {w0 w:World} {b:Nat} {r:Option Nat} (h:w0.grownBy w r) (hb:w0.heap.size <= b) (x y:Value):w0.grownBy (set2 w b x y) r:=by
 have hg:=set2_grow w b x y
 exact ⟨hg.os.trans h.os,hg.tape.trans h.tape,hg.output.trans h.output,Nat.le_trans h.size hg.size,fun i hi hr=>(hg.block i (Nat.lt_of_lt_of_le hi h.size) (by simp;omega)).trans (h.block i hi hr)⟩
theorem read_any {cb:Nat} {w:World} {t:Tr} {v:Value} (hL:Lies (· ≠ cb) w t v):∀ (m:Nat) (w2:World),Same (· ≠ cb) w w2 -> w.heap.size <= w2.heap.size -> CountAt w2 cb m -> m <= 300 ->
 Calls Tryz.prog 131 #[v,.pointer (some ⟨cb,0,none⟩)] w2 (KReadPost m t cb w2):=by
 induction hL with
 | @mk k n p s args a c _ V hl hS ik iN ip hc hr ih =>
  intro m w2 hsame hz hcb hm
  by_cases hw:m = 300 \/ primHere k n s = false
  ·refine read_no m w2 hcb hm hl ?_ hw
   simp only [readAt,primB,Tr.size]
   rcases hw with h | h
   ·simp [show ¬ m + (sizes args + 1) <= 300 from by omega]
   ·simp [h]
  have hm3:m + 1 <= 300:=by omega
  have hpr:primHere k n s = true:=by
   cases h:primHere k n s with
   | true=>rfl
   | false=>exact absurd (.inr h) hw
  have hI0:=rw0_inv (k:=k) (n:=n) (p:=p) (s:=s) (a:=a) (l:=args.length) (c:=c) hcb hm3
  have hres:=readAt_nd m k n p s args hpr
  have hrt:kreadT (.nd k n p s args) = .nd p (args.map kreadT):=by rw [kreadT,readTs_map]
  have hsz:(Tr.nd k n p s args).size = sizes args + 1:=by rw [Tr.size]
  simp only [primHere,decide_eq_true_eq] at hpr
  obtain ⟨rfl,rfl,hs0⟩:=hpr
  have hs1:s.toList.isEmpty = true:=by
   have:=(Lf.nil_iff s).2 hs0
   rw [this];rfl
  have c1:=cell_of_one hcb
  have c2:=free_of_one hcb
  have l1:cb < w2.heap.size:=lt_of_block hcb
  have l2:cb < w2.heap.size + 1:=by omega
  have l3:cb < w2.heap.size + 1 + 1:=by omega
  have hm':(m:Int) + 1 <= 300:=by omega
  have IH:=jh ih
  have HC:=jh hc
  have HS:=jh hsame
  have HI0:=jh hI0
  have HRES:=jh hres
  have HRT:=jh hrt
  have HSZ:=jh hsz
  unfold maxLen at hl
  clear ih hc hr hsame hI0 hres hrt hsz hcb hw
  unfold nodeV
  go_enter Tryz.func131,Tryz.ntmps131
  go_wp2_with fail
  go_loopw [41] (fun i wr=>∃ (j:Nat) (lv:Value) (vs:List Value),j <= args.length /\ i = .int .i64 j /\ RInv w2 wr cb (w2.heap.size + 1 + 1) (w2.heap.size + 1) (w2.heap.size + 1 + 1 + 1) (m + 1 + sizes (args.take j)) p lv ((args.take j).map kreadT) vs /\ primBs (args.take j) = true) (fun i _=>args.length - (intOf i).toNat)
  case atStart=>exact ⟨0,_,_,Nat.zero_le _,rfl,HI0.out,by simp [primBs]⟩
  case round =>
   obtain ⟨j,lv,vs,hj,rfl,hI,hpb⟩:=hrel
   have hlv:∃ la lc,lv = .slice la (List.map kreadT (List.take j args)).length lc:=by
    obtain ⟨la,lc,_,h,_,_⟩:=hI.list.done
    exact ⟨la,lc,h⟩
   obtain ⟨la,lc,rfl⟩:=hlv
   generalize hql:(List.map kreadT (List.take j args)).length = ql at *
   have hqv:ql = vs.length:=by rw [← hql];exact hI.list.len.symm
   have b0:=c0q hI.blk
   have b1:=c1q hI.blk
   have r0:=c0q hI.res
   have r1:=c1q hI.res
   by_cases hlt:j < args.length
   ·obtain ⟨b,o,rfl,hne,k',n',p',s',a',l',c',hv,e0,e1,e2,e3,e4⟩:=(HC.out j hlt).same (HS.out.grown hz hI.grown (by simp))
    have hI1:=hI.alloc (by omega) (.cells #[.int .i64 k',.int .i64 n',.int .i64 p',.string s',.slice a' l' c'] 48)
    have hih:=IH.out j hlt (m + 1 + sizes (args.take j)) (wr.alloc (.cells #[.int .i64 k',.int .i64 n',.int .i64 p',.string s',.slice a' l' c'] 48)) (HS.out.grown hz hI1.grown (by simp)) (by have:=hI1.grown.size;omega) hI1.count hI1.small
    rw [hv] at hih
    unfold nodeV at hih
    have HIH:=jh hih
    have HI1:=jh hI1
    have HPB:=jh hpb
    have HQ:=jh hqv
    have HQL:=jh hql
    have hzw:w2.heap.size + 1 + 1 + 1 <= wr.heap.size:=hI.hz
    have HOB:Hid (∀ k,(Value.slice la ql lc).ownBlock = some k -> k < wr.heap.size):=fun k hk=>(World.ownsRow.lt hI.list.own k hk).2
    clear hih hI1 hI hpb hv hqv hql
    go_wp2_with fail
    refine HIH.out.mono ?_;rintro e w3 ⟨hg3,hp3⟩
    have hz3:wr.heap.size < w3.heap.size:=by have:=hg3.size;simp at this;omega
    rcases hp3 with ⟨hra,u,rfl,hLu,hcu⟩ | ⟨hra,rfl⟩
    ·obtain ⟨kt,at',lt',ct',rfl⟩:=hLu.tyV
     have hsm:m + 1 + sizes (args.take j) + (args[j]).size <= 300:=by simp [readAt] at hra;exact hra.2
     have hI3:=HI1.out.next hg3 (by omega) (by omega) (by omega) hcu hsm
     have q0:=c0q hI3.blk
     have q1:=c1q hI3.blk
     have lq:w2.heap.size + 1 + 1 < w3.heap.size:=lt_of_block hI3.blk
     have lq':w2.heap.size + 1 + 1 < w3.heap.size + 1:=by omega
     have hI4:=hI3.alloc (by omega) (.cells #[.int .i64 kt,.slice at' lt' ct'] 24)
     have hLu4:=hLu.same (w':=w3.alloc (.cells #[.int .i64 kt,.slice at' lt' ct'] 24)) (fun b o _ hb=>World.cell?_alloc_lt _ _ _ hb)
     have HI4:=jh hI4
     have HLU:=jh hLu4
     have HRA:=jh hra
     have HSM:=jh hsm
     have hvl:vs.length <= 1000000000000:=by
      have h1:=HQ.out
      have h2:=HQL.out
      have h3:=length_le_sizes (args.take j)
      rw [List.length_map] at h2
      omega
     have hw4:w2.heap.size + 1 + 1 + 1 <= (w3.alloc (.cells #[.int .i64 kt,.slice at' lt' ct'] 24)).heap.size:=hI4.hz
     clear hI3 hI4 hLu hLu4 hcu hg3 hra hsm HIH HI1
     unfold tyV
     go_wp2_with (at_builtin;refine appT (w2.heap.size + 1 + 1 + 1) vs kt at' lt' ct' (w3.alloc (.cells #[.int .i64 kt,.slice at' lt' ct'] 24)) (.slice la ql lc) rfl (.tmp 55) (.tmp 57) rfl rfl rfl (World.size_alloc _ _) HI4.out.list.own hw4 hvl ?_;intro g cap w5 ho5 hg5;have HO5:=jh ho5;have HG5:=jh hg5;clear ho5 hg5;have HI5:=jh (HI4.out.push (S:=(wr.alloc (.cells #[.int .i64 k',.int .i64 n',.int .i64 p',.string s',.slice a' l' c'] 48)).heap.size) (by omega) (by omega) (by omega) (by omega) (by omega) (by omega) (by simp;omega) (fun k hk=>by have:=HOB.out k hk;simp;omega) HLU.out HG5.out HO5.out);have k5:=(HG5.out.block (lt_of_block HI4.out.blk) (own_lt_ne HI4.out.list.own (by omega))).trans HI4.out.blk;have m5:=c1q k5;have m6:=free2_of k5;clear k5)
     have h5:RInv w2 (w5.setCell ⟨w2.heap.size + 1 + 1,1,none⟩ (.slice (some ⟨g,0,none⟩) (vs.length + 1) cap)) cb (w2.heap.size + 1 + 1) (w2.heap.size + 1) (w2.heap.size + 1 + 1 + 1) (m + 1 + sizes (args.take (j + 1))) p (.slice (some ⟨g,0,none⟩) (vs.length + 1) cap) ((args.take (j + 1)).map kreadT) (vs ++ [tyV kt at' lt' ct']):=by
      have h:=HI5.out
      rw [sizes_take_succ args j hlt,← Nat.add_assoc,List.take_succ_eq_append_getElem hlt,List.map_append]
      exact h
     have h6:primBs (args.take (j + 1)) = true:=by
      have h:=HRA.out
      have h2:=HPB.out
      simp only [readAt,Bool.and_eq_true] at h
      rw [primBs_all] at h2 ⊢
      rw [List.take_succ_eq_append_getElem hlt,List.all_append,h2]
      simp [h.1]
     exact ⟨⟨j + 1,_,_,by omega,by go_num,h5,h6⟩,by simp [intOf];omega⟩
    ·have hres3:=HI1.out.next hg3 (m':=0) (by omega) (by omega) (by omega)
     have hrb3:w3.heap[w2.heap.size + 1]? = some (.cells #[.int .i64 0,.slice none 0 0] 24 (0,0)):=(hg3.block _ (lt_of_block HI1.out.res) (by simp;omega)).trans HI1.out.res
     have HRB3:=jh hrb3
     have q0:=c0q hrb3
     have q1:=c1q hrb3
     have q2:=free2_of hrb3
     have lq:w2.heap.size + 1 < w3.heap.size:=lt_of_block hrb3
     have HG3:=jh (gTr HI1.out.grown hg3)
     have HRA:=jh hra
     clear hres3 hrb3 hg3 hra HIH HI1
     unfold tyV
     go_wp2_with fail
     change bodyPost _ _ _ _ _ ((set2 w3 (w2.heap.size + 1) (.int .i64 0) (.slice none 0 0)).alloc (.cells #[.int .i64 0,.slice none 0 0] 24))
     have hb':=heap_keep (o:=.cells #[.int .i64 0,.slice none 0 0] 24) (set2_block HRB3.out (.int .i64 0) (.slice none 0 0))
     have hg':=gTr (grow_set2 HG3.out (b:=w2.heap.size + 1) (by omega) (.int .i64 0) (.slice none 0 0)) (gAq (gBq (.cells #[.int .i64 0,.slice none 0 0] 24)))
     generalize (set2 w3 (w2.heap.size + 1) (.int .i64 0) (.slice none 0 0)).alloc (.cells #[.int .i64 0,.slice none 0 0] 24) = wf at *
     have z0:=c0q hb'
     have z1:=c1q hb'
     refine bodyPost_ret (v:=.tuple #[tyV 0 none 0 0,.bool false]) (by simp [results,Tryz.results131,go_sem,z0,z1,tyV]) rfl ⟨hg',.inr ⟨?_,rfl⟩⟩
     rw [HRES.out]
     exact readAt_no hlt HRA.out
   ·have hje:j = args.length:=by omega
    have f1:=free2_of hI.res
    have hz2:w2.heap.size + 1 + 1 < wr.heap.size:=lt_of_block hI.blk
    have HI:=jh hI
    have HJ:=jh hje
    have HPB:=jh hpb
    have HQL:=jh hql
    clear hI hje hpb hqv hql HC IH HS HI0
    go_wp2_with fail
    change bodyPost _ _ _ _ _ (set2 wr (w2.heap.size + 1) (.int .i64 p) (.slice la ql lc))
    have hb':=set2_block HI.out.res (.int .i64 p) (.slice la ql lc)
    have hg':=grow_set2 HI.out.grown (b:=w2.heap.size + 1) (by omega) (.int .i64 p) (.slice la ql lc)
    have hgs:=set2_grow wr (w2.heap.size + 1) (.int .i64 p) (.slice la ql lc)
    generalize set2 wr (w2.heap.size + 1) (.int .i64 p) (.slice la ql lc) = wf at *
    have z0:=c0q hb'
    have z1:=c1q hb'
    refine bodyPost_ret (v:=.tuple #[tyV p la ql lc,.bool true]) (by simp [results,Tryz.results131,go_sem,z0,z1,tyV]) rfl ⟨hg',.inl ⟨?_,_,rfl,?_,?_⟩⟩
    ·have h1:=HPB.out
     have h2:=HI.out.small
     rw [HJ.out,List.take_length] at h1 h2
     rw [HRES.out,h1]
     simp;omega
    ·obtain ⟨a1,c1,V1,hv1,hd1,hd2⟩:=HI.out.list.done
     have e1:List.map kreadT (List.take j args) = List.map kreadT args:=by rw [HJ.out,List.take_length]
     rw [e1] at hv1 hd1
     simp only [e1] at hd2
     have hlen:(List.map kreadT args).length <= maxLen:=by rw [List.length_map];unfold maxLen;omega
     have hrow:RowT (w2.heap.size + 1 + 1 + 1 <= ·) wr (List.map kreadT args) a1 V1:=⟨hlen,hd1,hd2⟩
     have hrow2:=(hrow.same (w':=wf) (fun b o hb hlt=>World.cell?_of_block (hgs.block b hlt (by have : w2.heap.size + 1 + 1 + 1 <= b:=hb;simp;omega)))).okMono (ok':=(w2.heap.size <= ·)) (fun b _ hb=>by have : w2.heap.size + 1 + 1 + 1 <= b:=hb;show _ <= b;omega)
     rw [HRT.out]
     have hv2:tyV p la ql lc = tyV p a1 (List.map kreadT args).length c1:=by
      unfold tyV;rw [hv1]
     rw [hv2]
     exact LiesT.of ip hrow2 (own_capT HI.out.list.own hv1)
    ·have h:=(hgs.block cb (lt_of_block HI.out.count) (by simp;omega)).trans HI.out.count
     rw [HJ.out,List.take_length] at h
     rw [HSZ.out,show m + (sizes args + 1) = m + 1 + sizes args from by omega]
     exact h
def parseB (t:Tr):Bool:=readAt 0 t && gYq (kreadT t)
def KParsePost (t:Tr) (w:World) (e:Ending) (w':World):Prop :=
 w.grownBy w' none /\ ((parseB t = true /\ ∃ u,e = .returned (.tuple #[u,.int .i64 0]) /\ LiesT (w.heap.size <= ·) w' (kreadT t) u) \/ (parseB t = false /\ e = .returned (.tuple #[tyV 0 none 0 0,.int .i64 1])))
theorem Lies.grow {w w':World} {t:Tr} {v:Value} (h:Lies (· < w.heap.size) w t v) (hg:w.grownBy w' none):Lies (· < w'.heap.size) w' t v :=
 (h.same (w':=w') (fun b o hb _=>World.cell?_of_block (hg.block b hb (by simp)))).okMono (fun b hb _=>hb)
theorem Lies.form {ok:Nat -> Prop} {w:World} {t:Tr} {v:Value} (h:Lies ok w t v):∃ k n p s a l c,v = Go.Proofs.YtkglnoimbekhhaaGreat.nodeV k n p s a l c /\ l <= maxLen:=by
 cases h with
 | mk V hl=>exact ⟨_,_,_,_,_,_,_,rfl,hl⟩
theorem kparse_any {w:World} {t:Tr} {v:Value} (hL:Lies (· < w.heap.size) w t v):Calls Tryz.prog 120 #[v] w (KParsePost t w):=by
 obtain ⟨k,n,p,s,a,l,c,rfl,hl⟩:=hL.form
 have hgW:w.grownBy (((w.alloc (.cells #[.int .i64 k,.int .i64 n,.int .i64 p,.string s,.slice a l c] 48)).alloc (.cells #[.int .i64 0,.slice none 0 0] 24)).alloc (.cells #[.int .i64 0] 3)) none:=gTq (gBq _) (gTq (gBq _) (gBq _))
 have hcnt:CountAt (((w.alloc (.cells #[.int .i64 k,.int .i64 n,.int .i64 p,.string s,.slice a l c] 48)).alloc (.cells #[.int .i64 0,.slice none 0 0] 24)).alloc (.cells #[.int .i64 0] 3)) (w.heap.size + 1 + 1) 0:=by
  have:=heap_alloc_new ((w.alloc (.cells #[.int .i64 k,.int .i64 n,.int .i64 p,.string s,.slice a l c] 48)).alloc (.cells #[.int .i64 0,.slice none 0 0] 24)) (.cells #[.int .i64 0] 3)
  simp only [World.size_alloc] at this
  exact this
 have hrb:(((w.alloc (.cells #[.int .i64 k,.int .i64 n,.int .i64 p,.string s,.slice a l c] 48)).alloc (.cells #[.int .i64 0,.slice none 0 0] 24)).alloc (.cells #[.int .i64 0] 3)).heap[w.heap.size + 1]? = some (.cells #[.int .i64 0,.slice none 0 0] 24 (0,0)):=by
  have:=heap_alloc_new (w.alloc (.cells #[.int .i64 k,.int .i64 n,.int .i64 p,.string s,.slice a l c] 48)) (.cells #[.int .i64 0,.slice none 0 0] 24)
  simp only [World.size_alloc] at this
  exact heap_keep this
 have hL2:Lies (· ≠ w.heap.size + 1 + 1) (((w.alloc (.cells #[.int .i64 k,.int .i64 n,.int .i64 p,.string s,.slice a l c] 48)).alloc (.cells #[.int .i64 0,.slice none 0 0] 24)).alloc (.cells #[.int .i64 0] 3)) t (nodeV k n p s a l c) :=
  (hL.same (fun b o hb _=>World.cell?_of_block (hgW.block b hb (by simp)))).okMono (fun b _ hb=>by have : b < w.heap.size:=hb;show b ≠ _;omega)
 have hF:=read_any hL2 0 _ (Same.refl _ _) (Nat.le_refl _) hcnt (by omega)
 have HGW:=jh hgW
 have HRB:=jh hrb
 have HF:=jh hF
 clear hL hcnt hL2 hgW hrb hF
 unfold maxLen at hl
 unfold nodeV at HF ⊢
 go_enter Tryz.func120,Tryz.ntmps120
 go_wp2_with fail
 refine HF.out.mono ?_;rintro e w1 ⟨hg1,hp1⟩
 have hb1:w1.heap[w.heap.size + 1]? = _:=(hg1.block _ (lt_of_block HRB.out) (by simp)).trans HRB.out
 have hG1:=grow_fresh HGW.out (by omega) hg1
 have HB1:=jh hb1
 have q2:=free2_of hb1
 have q0:=c0q hb1
 have q1:=c1q hb1
 have lq:w.heap.size + 1 < w1.heap.size:=lt_of_block hb1
 rcases hp1 with ⟨hra,u,rfl,hLu,_⟩ | ⟨hra,rfl⟩
 ·obtain ⟨kt,at',lt',ct',rfl⟩:=hLu.tyV
  have hLu2:LiesT (w.heap.size + 1 + 1 + 1 <= ·) w1 (kreadT t) (tyV kt at' lt' ct'):=hLu.okMono (fun b _ hb=>by simp only [World.size_alloc] at hb;exact hb)
  have hgd:=kgood_any ((hLu2.okMono (ok':=(· < w1.heap.size)) (fun b hb _=>hb)).grow (gBq (.cells #[.int .i64 kt,.slice at' lt' ct'] 24)))
  have HGD:=jh hgd
  have HLU:=jh hLu2
  have HG1:=jh hG1
  have hpb:parseB t = gYq (kreadT t):=by simp [parseB,hra]
  have HPB:=jh hpb
  clear hgd hLu hLu2 hG1 hg1 hra hpb hb1 HF
  unfold tyV at HGD ⊢
  go_wp2_with fail
  refine HGD.out.mono ?_;rintro e w2 ⟨rfl,hg2⟩
  have hb2:w2.heap[w.heap.size + 1]? = _:=(hg2.block _ (by rw [World.size_alloc];omega) (by simp)).trans (heap_keep HB1.out)
  have q2':=free2_of hb2
  have q0':=c0q hb2
  have q1':=c1q hb2
  have ht2:w2.heap[w1.heap.size]? = some (.cells #[.int .i64 kt,.slice at' lt' ct'] 24 (0,0)):=(hg2.block _ (by rw [World.size_alloc];omega) (by simp)).trans (heap_alloc_new _ _)
  have t0:=c0q ht2
  have t1:=c1q ht2
  have HB2:=jh hb2
  have HG2:=jh (gTq HG1.out (gTq (gBq _) hg2))
  have HGG:=jh (gTq (gBq _) hg2)
  clear hg2 hb2 ht2 HGD q0 q1 q2
  cases hgt:gYq (kreadT t) with
  | true =>
   have HGT:=jh hgt
   clear hgt
   go_wp2_with fail
   change bodyPost _ _ _ _ _ (set2 w2 (w.heap.size + 1) (.int .i64 kt) (.slice at' lt' ct'))
   have hb':=set2_block HB2.out (.int .i64 kt) (.slice at' lt' ct')
   have hg':=grow_set2 HG2.out (b:=w.heap.size + 1) (by omega) (.int .i64 kt) (.slice at' lt' ct')
   have hgs:=set2_grow w2 (w.heap.size + 1) (.int .i64 kt) (.slice at' lt' ct')
   generalize set2 w2 (w.heap.size + 1) (.int .i64 kt) (.slice at' lt' ct') = wf at *
   have z0:=c0q hb'
   have z1:=c1q hb'
   refine bodyPost_ret (v:=.tuple #[tyV kt at' lt' ct',.int .i64 0]) (by simp [results,Tryz.results120,go_sem,z0,z1,tyV]) rfl ⟨hg',.inl ⟨by rw [HPB.out,HGT.out],_,rfl,?_⟩⟩
   have h1:=HLU.out.same (w':=w2) (fun b o _ hlt=>World.cell?_of_block (HGG.out.block b hlt (by simp)))
   exact (h1.same (w':=wf) (fun b o hb hlt=>World.cell?_of_block (hgs.block b hlt (by have : w.heap.size + 1 + 1 + 1 <= b:=hb;simp;omega)))).okMono (fun b _ hb=>by have : w.heap.size + 1 + 1 + 1 <= b:=hb;show _ <= b;omega)
  | false =>
   have HGT:=jh hgt
   clear hgt
   go_wp2_with fail
   change bodyPost _ _ _ _ _ (set2 w2 (w.heap.size + 1) (.int .i64 0) (.slice none 0 0))
   have hb':=set2_block HB2.out (.int .i64 0) (.slice none 0 0)
   have hg':=grow_set2 HG2.out (b:=w.heap.size + 1) (by omega) (.int .i64 0) (.slice none 0 0)
   generalize set2 w2 (w.heap.size + 1) (.int .i64 0) (.slice none 0 0) = wf at *
   have z0:=c0q hb'
   have z1:=c1q hb'
   exact bodyPost_ret (v:=.tuple #[tyV 0 none 0 0,.int .i64 1]) (by simp [results,Tryz.results120,go_sem,z0,z1,tyV]) rfl ⟨hg',.inr ⟨by rw [HPB.out,HGT.out],rfl⟩⟩
 ·have hpb:parseB t = false:=by simp [parseB,hra]
  have HPB:=jh hpb
  have HG1:=jh hG1
  clear hpb hG1 hg1 hra hb1 HF
  unfold tyV
  go_wp2_with fail
  change bodyPost _ _ _ _ _ ((set2 w1 (w.heap.size + 1) (.int .i64 0) (.slice none 0 0)).alloc (.cells #[.int .i64 0,.slice none 0 0] 24))
  have hb':=heap_keep (o:=.cells #[.int .i64 0,.slice none 0 0] 24) (set2_block HB1.out (.int .i64 0) (.slice none 0 0))
  have hg':=gTq (grow_set2 HG1.out (b:=w.heap.size + 1) (by omega) (.int .i64 0) (.slice none 0 0)) (gBq (.cells #[.int .i64 0,.slice none 0 0] 24))
  generalize (set2 w1 (w.heap.size + 1) (.int .i64 0) (.slice none 0 0)).alloc (.cells #[.int .i64 0,.slice none 0 0] 24) = wf at *
  have z0:=c0q hb'
  have z1:=c1q hb'
  exact bodyPost_ret (v:=.tuple #[tyV 0 none 0 0,.int .i64 1]) (by simp [results,Tryz.results120,go_sem,z0,z1,tyV]) rfl ⟨hg',.inr ⟨HPB.out,rfl⟩⟩
end Go.Proofs.YtkglnoimbekhhaaGreat
namespace Go.Proofs.YtkglnoimbekhhaaGreat.Lf
set_option maxRecDepth 100000
set_option maxHeartbeats 4000000
open Go.ChangeShapes Go.WideShapes Go.ChangeAt Go.RowKit
def isKindB (k:Int):Bool:=decide (0 <= k /\ k <= 3)
def isPrimB (k:Int):Bool:=decide (1 <= k /\ k <= 15 \/ 20 <= k /\ k <= 28 \/ 40 <= k /\ k <= 95)
def moreB (k n p:Int) (s:ByteArray) (l:Nat):Bool :=
 if k = 0 then decide (p ≠ 0 \/ s.size ≠ 0 \/ l ≠ 0) else if k = 1 then decide (n ≠ 0 \/ p ≠ 0 \/ l ≠ 0) else if k = 2 then decide (n ≠ 0 \/ s.size ≠ 0) else decide (n ≠ 0 \/ p ≠ 0 \/ s.size ≠ 0)
def wrongF (k n p:Int) (s:ByteArray) (l:Nat):Int :=
 if isKindB k = false then 3 else if k = 2 /\ isPrimB p = false then 3 else if moreB k n p s l = true then 1
 else if n < -1152921504606846976 \/ 1152921504606846976 < n then 2 else if 200 < s.size then 4 else 0
theorem isKind_any (k:Int) (w:World) :
 Calls Tryz.prog 102 #[.int .i64 k] w fun e w'=>e = .returned (.bool (isKindB k)) /\ w' = w:=by
 go_enter Tryz.func102,Tryz.ntmps102
 go_wp2
 all_goals
  go_ret
  exact retb (by simp [isKindB];try omega) rfl
theorem isPrim_any (k:Int) (w:World) :
 Calls Tryz.prog 103 #[.int .i64 k] w fun e w'=>e = .returned (.bool (isPrimB k)) /\ w' = w:=by
 go_enter Tryz.func103,Tryz.ntmps103
 go_wp2
 all_goals
  go_ret
  refine retb ?_ rfl
  rw [Bool.eq_iff_iff]
  simp [isPrimB]
  try omega
theorem hasMore_any (k n p:Int) (s:ByteArray) (a:Option Addr) (l c:Nat) (w:World) (hl:l <= maxLen) :
 Calls Tryz.prog 104 #[.agg #[.int .i64 k,.int .i64 n,.int .i64 p,.string s,.slice a l c]] w fun e w'=>e = .returned (.bool (moreB k n p s l)) /\ w.grownBy w' none:=by
 unfold maxLen at hl
 have hs:Hid (s.toList = [] ↔ s.size = 0):=nil_iff s
 go_enter Tryz.func104,Tryz.ntmps104
 go_wp2
 all_goals
  go_ret
  refine retb ?_ (gb _)
  have hs':=hs.out
  clear hs
  rw [Bool.eq_iff_iff]
  simp_all [moreB]
  try omega
theorem wrong_any (k n p:Int) (s:ByteArray) (a:Option Addr) (l c:Nat) (w:World) (hl:l <= maxLen) (hs:s.size <= maxLen) :
 Calls Tryz.prog 79 #[.agg #[.int .i64 k,.int .i64 n,.int .i64 p,.string s,.slice a l c]] w fun e w'=>e = .returned (.int .i64 (wrongF k n p s l)) /\ w.grownBy w' none:=by
 unfold maxLen at hs
 go_enter Tryz.func79,Tryz.ntmps79
 go_wp2_with (first
  | (go_at_call 102;refine (isKind_any _ _).mono ?_;rintro e w' ⟨rfl,rfl⟩)
  | (go_at_call 103;refine (isPrim_any _ _).mono ?_;rintro e w' ⟨rfl,rfl⟩)
  | (go_at_call 104;refine (hasMore_any _ _ _ _ _ _ _ _ hl).mono ?_;rintro e w' ⟨rfl,hg⟩;have hc:=gcell hg;have hz:w.heap.size < w'.heap.size:=(by have:=hg.size;simp at this;omega)))
 all_goals
  go_ret
  refine reti ?_ (by first | exact gb _ | exact gbt (gb _) (by assumption))
  unfold wrongF
  simp_all <;> omega
end Go.Proofs.YtkglnoimbekhhaaGreat.Lf
namespace Go.Proofs.YtkglnoimbekhhaaGreat
set_option maxRecDepth 100000
set_option maxHeartbeats 4000000
open Go.ChangeShapes Go.WideShapes Go.ChangeAt Go.RowKit
mutual
def firstW (d:Nat):Tr -> Int
 | .nd k n p s args=>if 24 < d then 4 else if Lf.wrongF k n p s args.length ≠ 0 then Lf.wrongF k n p s args.length else firstWs (d + 1) args
def firstWs (d:Nat):List Tr -> Int
 | []=>0
 | t :: ts=>if firstW d t ≠ 0 then firstW d t else firstWs d ts
end
def goodF (t:Tr):Int:=if firstW 1 t ≠ 0 then firstW 1 t else if 300 < t.size then 4 else 0
theorem firstWs_take_succ {d:Nat} {l:List Tr} {i:Nat} (h:i < l.length) (h0:firstWs d (l.take i) = 0):firstWs d (l.take (i + 1)) = firstW d l[i]:=by
 induction l generalizing i with
 | nil=>simp at h
 | cons t ts ih =>
  cases i with
  | zero=>simp [firstWs];exact fun h=>h.symm
  | succ i =>
   simp only [List.take_succ_cons,firstWs] at h0 ⊢
   by_cases ht:firstW d t = 0
   ·simp [ht] at h0 ⊢;exact ih (by simpa using h) h0
   ·simp [ht] at h0
theorem firstWs_of_take {d:Nat} {l:List Tr} {i:Nat} (h:firstWs d (l.take i) ≠ 0):firstWs d l = firstWs d (l.take i):=by
 induction l generalizing i with
 | nil=>simp
 | cons t ts ih =>
  cases i with
  | zero=>simp [firstWs] at h
  | succ i =>
   simp only [List.take_succ_cons,firstWs] at h ⊢
   by_cases ht:firstW d t = 0
   ·simp [ht] at h ⊢;exact ih h
   ·simp [ht]
theorem first_any {cb:Nat} {w:World} {t:Tr} {v:Value} (hL:Lies (· ≠ cb) w t v):∀ (d:Nat) (m:Int) (w2:World),Same (· ≠ cb) w w2 -> w.heap.size <= w2.heap.size -> 
 w2.heap[cb]? = some (.cells #[.int .i64 m] 3 (0,0)) -> 0 <= m -> m + t.size <= 4611686018427387904 -> d <= 25 ->
 Calls Tryz.prog 56 #[v,.int .i64 d,.pointer (some ⟨cb,0,none⟩)] w2 fun e w'=>e = .returned (.int .i64 (firstW d t)) /\ w2.grownBy w' (some cb) /\
  (firstW d t = 0 -> w'.heap[cb]? = some (.cells #[.int .i64 (m + t.size)] 3 (0,0))):=by
 induction hL with
 | @mk k n p s args a c _ V hl hS ik iN ip hc hr ih =>
  intro d m w2 hsame hz hcb h0 hm hd
  have IH:Hid (∀ (i:Nat) (h:i < args.length) (d:Nat) (m:Int) (w2:World),Same (· ≠ cb) w w2 -> w.heap.size <= w2.heap.size -> w2.heap[cb]? = some (.cells #[.int .i64 m] 3 (0,0)) -> 0 <= m -> m + (args[i]).size <= 4611686018427387904 -> d <= 25 ->
   Calls Tryz.prog 56 #[V i,.int .i64 d,.pointer (some ⟨cb,0,none⟩)] w2 fun e w'=>e = .returned (.int .i64 (firstW d args[i])) /\ w2.grownBy w' (some cb) /\
   (firstW d args[i] = 0 -> w'.heap[cb]? = some (.cells #[.int .i64 (m + (args[i]).size)] 3 (0,0)))):=ih
  have HC:Hid (∀ i,i < args.length -> NodeAt (· ≠ cb) w a i (V i)):=hc
  have HS:Hid (Same (· ≠ cb) w w2):=hsame
  have HB:Hid (w2.heap[cb]? = some (.cells #[.int .i64 m] 3 (0,0))):=hcb
  have hlt:cb < w2.heap.size:=(Array.getElem?_eq_some_iff.1 hcb).1
  have hsz:(Tr.nd k n p s args).size = sizes args + 1:=by rw [Tr.size]
  rw [hsz] at hm ⊢
  have hll:=length_le_sizes args
  clear ih hc hr hsame hcb hsz
  by_cases hd24:24 < d
  ·have hd':(24:Int) < (d:Int):=by omega
   have hF:Hid (firstW d (.nd k n p s args) = 4):=by show _ = _;rw [firstW,if_pos hd24]
   unfold nodeV
   go_enter Tryz.func56,Tryz.ntmps56
   go_wp2_with fail
   go_ret
   rw [hF.out]
   exact ⟨rfl,gAq (gBq _),fun h=>by omega⟩
  have hd':(d:Int) <= 24:=by omega
  have hW:=Lf.wrong_any k n p s a args.length c (w2.alloc (.cells #[.int .i64 k,.int .i64 n,.int .i64 p,.string s,.slice a args.length c] 48)) hl hS
  by_cases hw:Lf.wrongF k n p s args.length = 0
  ·rw [hw] at hW
   have HF:Hid (firstW d (.nd k n p s args) = firstWs (d + 1) args):=by show _ = _;rw [firstW,if_neg (by omega),if_neg (by simpa using hw)]
   have HW:=jh hW
   clear hW hw
   unfold nodeV
   go_enter Tryz.func56,Tryz.ntmps56
   go_wp2_with fail
   refine HW.out.mono ?_;rintro e w' ⟨rfl,hg⟩
   have hc':=Lf.gcell hg
   have hzz:w2.heap.size < w'.heap.size:=by have:=hg.size;simp at this;omega
   have hb:w'.heap[cb]? = some (.cells #[.int .i64 m] 3 (0,0)):=by
    rw [hg.block cb (by simp;omega) (by simp),heap_alloc_old (h:=hlt)];exact HB.out
   have c1:=cell_of_one hb
   have c2:=free_of_one hb
   have HB1:Hid (w'.heap[cb]? = some (.cells #[.int .i64 m] 3 (0,0))):=hb
   have HG:Hid ((w2.alloc (.cells #[.int .i64 k,.int .i64 n,.int .i64 p,.string s,.slice a args.length c] 48)).grownBy w' none):=hg
   have hbx:w'.cell? ⟨w2.heap.size,4,none⟩ = some (.slice a args.length c):=by rw [hc' _ _ (by simp)];simp
   have hbox:∀ u,(w'.setCell ⟨cb,0,none⟩ u).cell? ⟨w2.heap.size,4,none⟩ = some (.slice a args.length c):=by
    intro u;rw [World.cell?_setCell_other _ _ _ _ (by intro h;have:=congrArg Addr.block h;simp at this;omega)];exact hbx
   clear hb hg hc' hbx
   go_wp2_with fail
   have G0:Hid (w2.grownBy (w'.setCell ⟨cb,0,none⟩ (.int .i64 (m + 1))) (some cb)):=gSq (gAq (gTq (gBq _) HG.out)) _ _ _
   have B0:Hid ((w'.setCell ⟨cb,0,none⟩ (.int .i64 (m + 1))).heap[cb]? = some (.cells #[.int .i64 (m + 1)] 3 (0,0))):=one_setCell HB1.out
   clear HG HB1 c1 c2 hbox
   generalize hX:w'.setCell ⟨cb,0,none⟩ (.int .i64 (m + 1)) = wx at *
   clear hX
   go_loopw [26] (fun i wr=>∃ j:Nat,j <= args.length /\ i = .int .i64 j /\ w2.grownBy wr (some cb) /\ wr.heap[cb]? = some (.cells #[.int .i64 (m + 1 + sizes (args.take j))] 3 (0,0)) /\ firstWs (d + 1) (args.take j) = 0) (fun i _=>args.length - (intOf i).toNat)
   case atStart=>exact ⟨0,Nat.zero_le _,rfl,G0.out,by simpa [sizes] using B0.out,by simp [firstWs]⟩
   case round =>
    obtain ⟨j,hj,rfl,hg,hb,hF⟩:=hrel
    by_cases hlt:j < args.length
    ·have hA:=(HC.out j hlt).same (HS.out.grown hz hg (by simp))
     obtain ⟨b,o,rfl,hne,k',n',p',s',a',l',c',hv,e0,e1,e2,e3,e4⟩:=hA
     have hsz:=sizes_take_succ args j hlt
     have hle:=sizes_take_le args (j + 1)
     have hg':=gTr hg (gAq (gBq (.cells #[.int .i64 k',.int .i64 n',.int .i64 p',.string s',.slice a' l' c'] 48)))
     have hI:=IH.out j hlt (d + 1) (m + 1 + sizes (args.take j)) (wr.alloc (.cells #[.int .i64 k',.int .i64 n',.int .i64 p',.string s',.slice a' l' c'] 48))
      (HS.out.grown hz hg' (by simp)) (by have:=hg'.size;omega) (by rw [heap_alloc_old (h:=(Array.getElem?_eq_some_iff.1 hb).1)];exact hb) (by omega) (by omega) (by omega)
     rw [hv,show (((d + 1:Nat)):Int) = (d:Int) + 1 from rfl] at hI
     unfold nodeV at hI
     have HF1:=jh (firstWs_take_succ hlt hF)
     have HG:=jh hg'
     have HZ:=jh hsz
     clear hv hg hb hF hg' hsz
     by_cases hx:firstW (d + 1) args[j] = 0
     ·rw [hx] at hI
      have HX:=jh hx
      have HI:=jh hI
      clear hx hI
      go_wp2_with fail
      refine HI.out.mono ?_;rintro e w3 ⟨rfl,hg3,hb3⟩
      have hb3:=jh (hb3 (by first | exact trivial | rfl))
      have hg3:=jh hg3
      go_wp2_with fail
      go_roundw
      case rel=>exact ⟨j + 1,by omega,by go_num,gTr HG.out hg3.out,blk_eq hb3.out (by rw [HZ.out];push_cast;omega),by rw [HF1.out,HX.out]⟩
      case measure=>simp [intOf];omega
     ·have HX:Hid (firstWs (d + 1) args = firstW (d + 1) args[j]):=by
       show _ = _
       rw [firstWs_of_take (i:=j + 1) (by rw [HF1.out];exact hx),HF1.out]
      generalize firstW (d + 1) args[j] = x at *
      have HI:=jh hI
      clear hI
      go_wp2_with fail
      refine HI.out.mono ?_;rintro e w3 ⟨rfl,hg3,_⟩
      have hg3:=jh hg3
      go_wp2_with fail
      go_ret
      rw [HF.out,HX.out]
      exact ⟨rfl,gTr HG.out hg3.out,fun h=>absurd h hx⟩
    ·have hje:j = args.length:=by omega
     have HG:=jh hg
     have HB:=jh hb
     have HF1:=jh hF
     have HJ:=jh hje
     clear hg hb hF hje
     go_wp2_with fail
     go_ret
     have hb:=HB.out
     have hf:=HF1.out
     rw [HJ.out,List.take_length] at hb hf
     rw [HF.out,hf]
     exact ⟨rfl,HG.out,fun _=>blk_eq hb (by push_cast;omega)⟩
  ·have HF:Hid (firstW d (.nd k n p s args) = Lf.wrongF k n p s args.length):=by show _ = _;rw [firstW,if_neg (by omega),if_pos (by simpa using hw)]
   have HW:=jh hW
   clear hW
   generalize Lf.wrongF k n p s args.length = x at *
   unfold nodeV
   go_enter Tryz.func56,Tryz.ntmps56
   go_wp2_with fail
   refine HW.out.mono ?_;rintro e w' ⟨rfl,hg⟩
   go_wp2_with fail
   go_ret
   rw [HF.out]
   exact ⟨rfl,gAq (gTq (gBq _) hg),fun h=>absurd h hw⟩
theorem good_any {w:World} {t:Tr} {v:Value} (hL:Lies (· < w.heap.size) w t v) (hz:t.size <= 4611686018427387904) :
 Calls Tryz.prog 39 #[v] w fun e w'=>e = .returned (.int .i64 (goodF t)) /\ w.grownBy w' none:=by
 have hv:∃ k n p s a l c,v = nodeV k n p s a l c:=by cases hL;exact ⟨_,_,_,_,_,_,_,rfl⟩
 obtain ⟨k,n,p,s,a,l,c,hv⟩:=hv
 have hW:Same (· < w.heap.size) w ((w.alloc (.cells #[.int .i64 k,.int .i64 n,.int .i64 p,.string s,.slice a l c] 48)).alloc (.cells #[.int .i64 0] 3)):=by
  intro b o hb _
  rw [World.cell?_alloc_lt _ _ _ (by simp;omega),World.cell?_alloc_lt _ _ _ hb]
 have hF:=first_any (cb:=w.heap.size + 1) (((hL.same hW).okMono (ok':=(· ≠ w.heap.size + 1)) (fun b _ hb=>by show b ≠ _;have : b < w.heap.size:=hb;omega))) 1 0 _ (Same.refl _ _) (Nat.le_refl _)
  (by have h2:=heap_alloc_new (w.alloc (.cells #[.int .i64 k,.int .i64 n,.int .i64 p,.string s,.slice a l c] 48)) (.cells #[.int .i64 0] 3);simpa using h2) (by omega) (by omega) (by omega)
 rw [hv] at hF ⊢
 unfold nodeV at hF ⊢
 have hgg:∀ w',((w.alloc (.cells #[.int .i64 k,.int .i64 n,.int .i64 p,.string s,.slice a l c] 48)).alloc (.cells #[.int .i64 0] 3)).grownBy w' (some (w.heap.size + 1)) -> w.grownBy w' none:=by
  intro w' h
  have h1:w.grownBy ((w.alloc (.cells #[.int .i64 k,.int .i64 n,.int .i64 p,.string s,.slice a l c] 48)).alloc (.cells #[.int .i64 0] 3)) none:=gTq (gBq _) (gBq _)
  exact ⟨h.os.trans h1.os,h.tape.trans h1.tape,h.output.trans h1.output,Nat.le_trans h1.size h.size,fun i hi _=>(h.block i (Nat.lt_of_lt_of_le hi h1.size) (by simp;omega)).trans (h1.block i hi (by simp))⟩
 have HGG:=jh hgg
 rw [show ((1:Nat):Int) = 1 from rfl,Int.zero_add] at hF
 clear hL hW hv hgg
 by_cases hx:firstW 1 t = 0
 ·have HG:Hid (goodF t = if 300 < t.size then 4 else 0):=by show _ = _;simp [goodF,hx]
  rw [hx] at hF
  have HF:=jh hF
  clear hF hx
  by_cases hs:300 < t.size
  all_goals
   have hs':(300:Int) < (t.size:Int) \/ (t.size:Int) <= 300:=by omega
   go_enter Tryz.func39,Tryz.ntmps39
   go_wp2_with fail
   refine HF.out.mono ?_;rintro e w' ⟨rfl,hg,hb⟩
   have hb:=hb (by first | exact trivial | rfl)
   have c1:=cell_of_one hb
   have HG2:=jh hg
   clear hg hb
   go_wp2_with fail
   go_ret
   rw [HG.out]
   exact Lf.reti (by first | rw [if_pos hs] | rw [if_neg hs]) (HGG.out _ HG2.out)
 ·have HG:Hid (goodF t = firstW 1 t):=by show _ = _;simp [goodF,hx]
  generalize firstW 1 t = x at *
  have HF:=jh hF
  clear hF
  go_enter Tryz.func39,Tryz.ntmps39
  go_wp2_with fail
  refine HF.out.mono ?_;rintro e w' ⟨rfl,hg,_⟩
  have HG2:=jh hg
  clear hg
  go_wp2_with fail
  go_ret
  rw [HG.out]
  exact ⟨rfl,HGG.out _ HG2.out⟩
open Go.RowKit
def cs (l:List UInt8):List Value:=l.map fun b=>Value.int .u8 b.toNat
def Owns (B:Nat) (w:World) (v:Value) (l:List UInt8):Prop:=w.ownsRow B 5 1 v l.length (cs l)
theorem Owns.drew {B:Nat} {w:World} {v:Value} {l:List UInt8} (h:Owns B w v l):Owns B w.drew v l:=h
theorem Gr.below {B:Nat} {w w1:World} {v v1:Value} {l:List UInt8} (h:Gr w v w1 v1) (ho:Owns B w v l) (hB:B <= w.heap.size):Below B w w1 :=
 (Below.refl B w).grown h.1 hB (fun k hk=>(World.ownsRow.lt ho k hk).1)
set_option linter.unusedVariables false
def eltT:Tr -> Tr
 | .nd k n p s args=>.nd k n 28 s args
def Tr.k0:Tr -> Int
 | .nd k _ _ _ _=>k
def Tr.n0:Tr -> Int
 | .nd _ n _ _ _=>n
def Tr.p0:Tr -> Int
 | .nd _ _ p _ _=>p
def Tr.s0:Tr -> ByteArray
 | .nd _ _ _ s _=>s
def Tr.args0:Tr -> List Tr
 | .nd _ _ _ _ l=>l
def branchF (T:Ty) (p:Int):Option (Int × List Ty) :=
 if T.t = 1 /\ p = 20 then some (0,[]) else if T.t = 2 /\ p = 22 then some (0,[]) else if T.t = 2 /\ p = 21 then some (1,[])
 else if T.t = 9 /\ p = 27 then some (0,[]) else if T.t = 9 /\ p = 26 then some (0,T.args) else if T.t = 11 /\ p = 23 then some (0,T.args)
 else if T.t = 12 /\ p = 24 then some (0,T.args.take 1) else if T.t = 12 /\ p = 25 then some (1,T.args.drop 1) else none
def leafVa (t n:Int) (s:ByteArray) (l:List Va):Va:=.mk t n 0 s l [] []
mutual
def readT:Tr -> Ty -> Option Va
 | .nd k n p s args,T =>
  if T.t = 3 \/ T.t = 4 \/ T.t = 5 \/ T.t = 7 then (if k = 0 then some (leafVa T.t n ⟨#[]⟩ []) else none)
  else if T.t = 6 then (if k = 1 then some (leafVa 6 0 s []) else none)
  else if T.t = 10 then (if k = 3 then (readTs args (List.replicate args.length (tAq T.args 0))).map (leafVa 10 0 ⟨#[]⟩) else none)
  else if T.t = 13 then (if k = 3 then (readEs args T.args).map (leafVa 13 0 ⟨#[]⟩) else none)
  else match branchF T p with
   | none=>none
   | some (m,ts)=>(readTs args ts).map (leafVa T.t m ⟨#[]⟩)
def readTs:List Tr -> List Ty -> Option (List Va)
 | [],[]=>some []
 | t :: l,T :: ts=>match readT t T with
  | none=>none
  | some x=>(readTs l ts).map (x :: ·)
 | [],_ :: _=>none
 | _ :: _,[]=>none
def readEs:List Tr -> List Ty -> Option (List Va)
 | [],_=>some []
 | .nd k n p s args :: l,ts=>match readTs args ts with
  | none=>none
  | some ys=>if p = 28 then (readEs l ts).map (leafVa 11 0 ⟨#[]⟩ ys :: ·) else none
end
theorem pS {α:Type} : (∀ (l:List α) (i:Nat) (a:α),l.toArray.setIfInBounds i a = (l.set i a).toArray) /\ (∀ (a b:α) (l:List α),(a :: l).set 0 b = b :: l) /\ (∀ (a b:α) (l:List α) (n:Nat),(a :: l).set (n + 1) b = a :: l.set n b) :=
 ⟨fun l i a=>List.setIfInBounds_toArray ..,fun a b l=>List.set_cons_zero ..,fun a b l n=>List.set_cons_succ ..⟩
section
variable {P:Program} {ops:Array Oper} {Q:Exit -> Act -> World -> Prop} {md:Region.Mode} {S:World -> Prop}
theorem rNq (i:Nat) (d:Tmp) {a9:Act} {fuel:Nat} {listed:Array Bool} {a:Act} {w:World} (h:wpAnyH P md ops Q S fuel (listed.setIfInBounds i true) a9 w)
 (hi:∃ oi,ops[i]? = some oi /\ oi.dst = some d /\ Region.wanted oi (yielded ops a.tmps) = false:=by exact ⟨_,rfl,rfl,by rfl⟩)
 (hs:Region.noSelect ops = true:=by kernel_rfl) (hf:Region.free md ops listed i = true:=by kernel_rfl) (hr:(Region.ready md ops listed).contains i = true:=by kernel_rfl)
 (hQ:∀ c a w,Q (.panic c) (a.put (some d) undef) w -> Q (.panic c) a w:=by exact fun _ _ _ h=>h) (hS:S w:=by assumption) (h9:a.put (some d) undef = a9:=by simp only [Act.put,pS];rfl):wpAnyH P md ops Q S (fuel + 1) listed a w:=by
 subst h9
 obtain ⟨oi,h1,h2,h3⟩:=hi
 rw [← h2] at hQ h
 exact wpAnyH_take h1 hs hf hr hQ (.inr ⟨h3,rfl⟩) hS h
theorem reg_yes (i:Nat) (d:Tmp) {v:Value} {fuel:Nat} {listed:Array Bool} {a:Act} {w:World} (hi:∃ oi,ops[i]? = some oi /\ oi.dst = some d /\ Region.wanted oi (yielded ops a.tmps) = true /\ ∀ w,S w -> (execOp a.eval oi).run P w = .ok (.value v) w)
 (h:wpAnyH P md ops Q S fuel (listed.setIfInBounds i true) (a.put (some d) v) w)
 (hs:Region.noSelect ops = true:=by kernel_rfl) (hf:Region.free md ops listed i = true:=by kernel_rfl) (hr:(Region.ready md ops listed).contains i = true:=by kernel_rfl)
 (hQ:∀ c a w,Q (.panic c) (a.put (some d) v) w -> Q (.panic c) a w:=by exact fun _ _ _ h=>h) (hS:S w:=by assumption):wpAnyH P md ops Q S (fuel + 1) listed a w:=by
 obtain ⟨oi,h1,h2,h3,h4⟩:=hi
 rw [← h2] at hQ h
 exact wpAnyH_take h1 hs hf hr hQ (.inl ⟨h3,h4⟩) hS h
end
theorem rGq (i:Nat) (d:Tmp) {a9:Act} {P:Program} {ops:Array Oper} {Q:Exit -> Act -> World -> Prop} {md:Region.Mode} {S:World -> Prop} {v:Value} {oi:Oper} {fuel:Nat} {listed:Array Bool} {a:Act} {w:World} (h:wpAnyH P md ops Q S fuel (listed.setIfInBounds i true) a9 w)
 (h1:ops[i]? = some oi:=by rfl) (h2:oi.dst = some d:=by rfl) (h3:Region.wanted oi (yielded ops a.tmps) = true:=by rfl)
 (h4:∀ w,S w -> (execOp a.eval oi).run P w = .ok (.value v) w:=by intro w hSw;go_simp;try with_reducible rfl)
 (hs:Region.noSelect ops = true:=by kernel_rfl) (hf:Region.free md ops listed i = true:=by kernel_rfl) (hr:(Region.ready md ops listed).contains i = true:=by kernel_rfl)
 (hQ:∀ c a w,Q (.panic c) (a.put (some d) v) w -> Q (.panic c) a w:=by exact fun _ _ _ h=>h) (hS:S w:=by assumption) (h9:a.put (some d) v = a9:=by simp only [Act.put,pS];rfl):wpAnyH P md ops Q S (fuel + 1) listed a w :=
 reg_yes i d ⟨oi,h1,h2,h3,h4⟩ (h9 ▸ h) hs hf hr hQ hS
end Go.Proofs.YtkglnoimbekhhaaGreat
