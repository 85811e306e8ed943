import Derived.Test.YtkglnoimbekhhaaGreatKSide
import Derived.Test.YtkglnoimbekhhaaGreatKZt
import Derived.Deep.RegionHeld3
import Derived.Deep.DeepCutAuto
import Derived.Test.YtkglnoimbekhhaaGreatKZb
namespace Go.Proofs.YtkglnoimbekhhaaGreat
set_option maxRecDepth 100000
set_option maxHeartbeats 4000000
open Go.ChangeShapes Go.WideShapes Go.ChangeAt Go.RowKit
set_option linter.unusedVariables false
theorem wrapN (n:Nat) (h:n < 9223372036854775808):IntKind.i64.wrap (n:Int) = (n:Int):=by
 have e:(n:Int) % 2 ^ 64 = n:=Int.emod_eq_of_lt (by omega) (by omega)
 simp only [IntKind.wrap,IntKind.bits,IntKind.signed,e]
 rw [if_neg]
 simp
 omega
theorem ent_ord1:∀ args w,(callFunc 96 args).run Tryz.prog w = .ok (.enter 96 args) w:=fun args w=>by simp [go_sem]
theorem LiesV.up {w W:World} {x:Va} {v:Value} (h:LiesV (fun _=>True) w x v) (hg:w.grownBy W none):LiesV (fun _=>True) W x v:=h.same (sAl hg)
theorem rowOneV {W:World} {x:Va} {b:Nat} {k n a:Int} {s:ByteArray} {aa:Option Addr} {al ac:Nat} {ta:Option Addr} {tl tc:Nat} {na:Option Addr} {nl nc:Nat} {T:TypeId}
 (hb:W.heap[b]? = some (.cells #[.int .i64 k,.int .i64 n,.int .i64 a,.string s,.slice aa al ac,.slice ta tl tc,.slice na nl nc] T (0,0))) (hL:LiesV (fun _=>True) W x (vaV k n a s aa al ac ta tl tc na nl nc)):RowVa (fun _=>True) W [x] (some ⟨b,0,none⟩) (fun _=>vaV k n a s aa al ac ta tl tc na nl nc):=by
 refine ⟨by simp [maxLen],fun i hi=>?_,fun i hi=>?_⟩
 ·have : i = 0:=by simpa using hi
  subst this
  obtain ⟨h0,h1,h2,h3,h4,h5,h6⟩:=box7 hb
  exact ⟨b,0,rfl,trivial,k,n,a,s,aa,al,ac,ta,tl,tc,na,nl,nc,rfl,h0,h1,h2,h3,h4,h5,h6⟩
 ·have : i = 0:=by simpa using hi
  subst this
  exact hL
theorem new_3of4 (w:World) (o1 o2 o3 o4:Obj):((((w.alloc o1).alloc o2).alloc o3).alloc o4).heap[w.heap.size + 1 + 1]? = some o3:=by
 have h:=rNw ((w.alloc o1).alloc o2) o3 o4
 rwa [show ((w.alloc o1).alloc o2).heap.size = w.heap.size + 1 + 1 from by simp] at h
theorem new_4of4 (w:World) (o1 o2 o3 o4:Obj):((((w.alloc o1).alloc o2).alloc o3).alloc o4).heap[w.heap.size + 1 + 1 + 1]? = some o4:=by
 have h:=new_two ((w.alloc o1).alloc o2) o3 o4
 rwa [show ((w.alloc o1).alloc o2).heap.size = w.heap.size + 1 + 1 from by simp] at h
theorem order_any {w:World} {x y:Va} {u v:Value} (hx:LiesV (fun _=>True) w x u) (hy:LiesV (fun _=>True) w y v) (hz:x.size <= 20000000) (W:World) (hW:w.grownBy W none) :
 Calls Tryz.prog 69 #[u,v] W fun e w'=>e = .returned (.int .i64 (ordV x y)) /\ W.grownBy w' none:=by
 obtain ⟨k1,n1,a1,s1,aa1,al1,ac1,ta1,tl1,tc1,na1,nl1,nc1,rfl⟩:=hx.vaV
 obtain ⟨k2,n2,a2,s2,aa2,al2,ac2,ta2,tl2,tc2,na2,nl2,nc2,rfl⟩:=hy.vaV
 have HX:=jh (LiesV.up hx hW)
 have HY:=jh (LiesV.up hy hW)
 have HZ:=jh hz
 have hS:∀ (W2:World) (b c:Nat) (ca cb:Nat),W.grownBy W2 none -> 1 <= ca -> 1 <= cb -> W2.heap[b]? = some (.cells #[.int .i64 k1,.int .i64 n1,.int .i64 a1,.string s1,.slice aa1 al1 ac1,.slice ta1 tl1 tc1,.slice na1 nl1 nc1] 28 (0,0)) -> W2.heap[c]? = some (.cells #[.int .i64 k2,.int .i64 n2,.int .i64 a2,.string s2,.slice aa2 al2 ac2,.slice ta2 tl2 tc2,.slice na2 nl2 nc2] 28 (0,0)) ->
  Calls Tryz.prog 23 #[.slice (some ⟨b,0,none⟩) 1 ca,.slice (some ⟨c,0,none⟩) 1 cb,.func (.func 24) #[] #[],.func (.func 96) #[] #[]] W2 fun e w'=>e = .returned (.int .i64 (ordV x y)) /\ W2.grownBy w' none:=by
  intro W2 b c ca cb hg h1 h2 hb hc
  have h:=side_any ordC 96 ent_ord1 (w0:=W2) (xs:=[x]) (ys:=[y]) (ca:=ca) (cb:=cb) h1 h2 (rowOneV hb (LiesV.up HX.out hg)) (rowOneV hc (LiesV.up HY.out hg)) (fun x y u v W3 h3 hx hy _=>ord1_any hx hy W3) (by have:=HZ.out;simp [vsizes];omega)
  rw [sbsVs_one] at h
  exact h
 have HS:=jh hS
 clear hS hx hy hz hW
 generalize ordV x y = r at *
 unfold vaV at *
 go_enter Tryz.func69,Tryz.ntmps69
 go_wp2_with fail
 refine (HS.out _ _ _ 1 1 (gTq (gTq (gTq (gBq _) (gBq _)) (gBq _)) (gBq _)) (Nat.le_refl _) (Nat.le_refl _) (new_3of4 _ _ _ _ _) (new_4of4 _ _ _ _ _)).mono ?_;rintro e w1 ⟨rfl,hg⟩
 have HG:=jh (gTq (gTq (gTq (gTq (gBq _) (gBq _)) (gBq _)) (gBq _)) hg)
 clear hg
 go_wp2_with fail
 go_ret
 exact ⟨rfl,HG.out⟩
theorem liesV_zero (ok:Nat -> Prop) (w:World):LiesV ok w zeroVa (vaV 0 0 0 ⟨#[]⟩ none 0 0 none 0 0 none 0 0) :=
 LiesV.of (args:=[]) (types:=[]) (code:=[]) (V:=fun _=>.int .i64 0) (VT:=fun _=>.int .i64 0) (VN:=fun _=>.int .i64 0) (Nat.zero_le _) (by decide) (by constructor <;> decide) (by constructor <;> decide) (by constructor <;> decide) (RowVa.nil _ _ _ _) (RowT.nil _ _ _ _) (RowN.nil _ _ _ _)
theorem keyOf_any {w:World} {x:Va} {u:Value} (hx:LiesV (fun _=>True) w x u) (W:World) (hW:w.grownBy W none) :
 Calls Tryz.prog 70 #[u] W fun e w'=>∃ kv,e = .returned kv /\ LiesV (fun _=>True) w (keyF x) kv /\ W.grownBy w' none:=by
 obtain ⟨aa,ac,ta,tc,na,nc,VV,VT,VN,rfl,⟨ik,iN,ia,hs,hlc⟩,hRV,hRY,hRN⟩:=hx.inv
 have hl:=hRV.1
 unfold maxLen at hl
 cases hA:x.args with
 | nil =>
  have hk:keyF x = zeroVa:=by unfold keyF;rw [hA]
  rw [hk]
  have HZ:=jh (liesV_zero (fun _=>True) w)
  clear hx hRV hRY hRN hk ik iN ia hs hlc hW hl
  simp only [List.length_nil]
  unfold vaV at *
  go_enter Tryz.func70,Tryz.ntmps70
  go_wp2_with fail
  have hb':=new_two W (.cells #[.int .i64 x.k,.int .i64 x.n,.int .i64 x.a,.string x.s,.slice aa 0 ac,.slice ta x.types.length tc,.slice na x.code.length nc] 28) (.cells #[.int .i64 0,.int .i64 0,.int .i64 0,.string ⟨#[]⟩,.slice none 0 0,.slice none 0 0,.slice none 0 0] 28)
  have hg':W.grownBy ((W.alloc (.cells #[.int .i64 x.k,.int .i64 x.n,.int .i64 x.a,.string x.s,.slice aa 0 ac,.slice ta x.types.length tc,.slice na x.code.length nc] 28)).alloc (.cells #[.int .i64 0,.int .i64 0,.int .i64 0,.string ⟨#[]⟩,.slice none 0 0,.slice none 0 0,.slice none 0 0] 28)) none:=gTq (gBq _) (gBq _)
  generalize (W.alloc (.cells #[.int .i64 x.k,.int .i64 x.n,.int .i64 x.a,.string x.s,.slice aa 0 ac,.slice ta x.types.length tc,.slice na x.code.length nc] 28)).alloc (.cells #[.int .i64 0,.int .i64 0,.int .i64 0,.string ⟨#[]⟩,.slice none 0 0,.slice none 0 0,.slice none 0 0] 28) = wf at *
  obtain ⟨z0,z1,z2,z3,z4,z5,z6⟩:=box7 hb'
  exact bodyPost_ret (v:=vaV 0 0 0 ⟨#[]⟩ none 0 0 none 0 0 none 0 0) (by simp [results,Tryz.results70,go_sem,z0,z1,z2,z3,z4,z5,z6,vaV]) rfl ⟨_,rfl,HZ.out,hg'⟩
 | cons p l =>
  have hk:keyF x = p:=by unfold keyF;rw [hA]
  rw [hk]
  rw [hA] at hRV hl
  have hL1:=hRV.2.2 0 (by simp)
  simp only [List.getElem_cons_zero] at hL1
  obtain ⟨b3,o3,rfl,_,k1,n1,a1,s1,aa1,al1,ac1,ta1,tl1,tc1,na1,nl1,nc1,hv1,e0,e1,e2,e3,e4,e5,e6⟩:=(hRV.2.1 0 (by simp)).same (sAl hW)
  rw [hv1] at hL1
  rw [Nat.zero_mul,Nat.add_zero] at e0 e1 e2 e3 e4 e5 e6
  have q3:b3 < W.heap.size:=World.block_lt_of_cell? W _ e0
  have HL1:=jh hL1
  have z1:¬ ((l.length:Int) + 1 = 0):=by omega
  have z2:(((l.length:Int) + 1) == 0) = false:=by rw [beq_eq_false_iff_ne];exact z1
  clear hx hRV hRY hRN hk ik iN ia hs hlc hW hL1 hv1
  simp only [List.length_cons] at hl ⊢
  unfold vaV at *
  go_enter Tryz.func70,Tryz.ntmps70
  go_wp2_with fail
  have hb':=new_two W (.cells #[.int .i64 x.k,.int .i64 x.n,.int .i64 x.a,.string x.s,.slice (some ⟨b3,o3,none⟩) (l.length + 1) ac,.slice ta x.types.length tc,.slice na x.code.length nc] 28) (.cells #[.int .i64 k1,.int .i64 n1,.int .i64 a1,.string s1,.slice aa1 al1 ac1,.slice ta1 tl1 tc1,.slice na1 nl1 nc1] 28)
  have hg':W.grownBy ((W.alloc (.cells #[.int .i64 x.k,.int .i64 x.n,.int .i64 x.a,.string x.s,.slice (some ⟨b3,o3,none⟩) (l.length + 1) ac,.slice ta x.types.length tc,.slice na x.code.length nc] 28)).alloc (.cells #[.int .i64 k1,.int .i64 n1,.int .i64 a1,.string s1,.slice aa1 al1 ac1,.slice ta1 tl1 tc1,.slice na1 nl1 nc1] 28)) none:=gTq (gBq _) (gBq _)
  generalize (W.alloc (.cells #[.int .i64 x.k,.int .i64 x.n,.int .i64 x.a,.string x.s,.slice (some ⟨b3,o3,none⟩) (l.length + 1) ac,.slice ta x.types.length tc,.slice na x.code.length nc] 28)).alloc (.cells #[.int .i64 k1,.int .i64 n1,.int .i64 a1,.string s1,.slice aa1 al1 ac1,.slice ta1 tl1 tc1,.slice na1 nl1 nc1] 28) = wf at *
  obtain ⟨z0,z1,z2,z3,z4,z5,z6⟩:=box7 hb'
  exact bodyPost_ret (v:=vaV k1 n1 a1 s1 aa1 al1 ac1 ta1 tl1 tc1 na1 nl1 nc1) (by simp [results,Tryz.results70,go_sem,z0,z1,z2,z3,z4,z5,z6,vaV]) rfl ⟨_,rfl,HL1.out,hg'⟩
theorem key_size (x:Va):(keyF x).size <= x.size:=by
 have h:=vsize_eq x
 unfold keyF
 cases hA:x.args with
 | nil=>have:=vsize_pos x;simp [zeroVa,Va.size,vsizes,tysizes,sizes];omega
 | cons p l=>rw [hA,vsizes] at h;simp only;omega
theorem rises_any {w:World} {l:List Va} {a:Option Addr} {c:Nat} {V:Nat -> Value} (hl:RowVa (fun _=>True) w l a V) (hz:vsizes l <= 20000000) (W:World) (hW:w.grownBy W none) :
 Calls Tryz.prog 48 #[.slice a l.length c] W fun e w'=>e = .returned (.bool (risesF l)) /\ W.grownBy w' none:=by
 have hn:=hl.1
 unfold maxLen at hn
 have HL:=jh hl
 have HZ:=jh hz
 have HW:=jh hW
 clear hl hz hW
 go_enter Tryz.func48,Tryz.ntmps48
 go_wp2_with fail
 go_loopw [3] (fun iv wr=>∃ j:Nat,1 <= j /\ (j <= l.length \/ j = 1) /\ iv = .int .i64 j /\ (∀ i (h:i + 1 < l.length),i + 1 < j -> ordV (keyF l[i]) (keyF l[i + 1]) < 0) /\ W.grownBy wr none) (fun iv _=>l.length - (intOf iv).toNat)
 case atStart=>exact ⟨1,Nat.le_refl _,.inr rfl,rfl,fun i h hi=>by omega,gRf _ _⟩
 case round =>
  obtain ⟨j,hj1,hj2,rfl,hall,hgr⟩:=hrel
  by_cases hlt:j < l.length
  ·obtain ⟨m,rfl⟩:∃ m,j = m + 1:=⟨j - 1,by omega⟩
   have hgw:=gTq HW.out hgr
   have hLe:=HL.out.2.2 m (by omega)
   have hLf:=HL.out.2.2 (m + 1) hlt
   obtain ⟨be,oe,hae,_,k1,n1,a1,s1,aa1,al1,ac1,ta1,tl1,tc1,na1,nl1,nc1,hv1,e0,e1,e2,e3,e4,e5,e6⟩:=(HL.out.2.1 m (by omega)).same (sAl hgw)
   obtain ⟨bf,of,haf,_,k2,n2,a2,s2,aa2,al2,ac2,ta2,tl2,tc2,na2,nl2,nc2,hv2,f0,f1,f2,f3,f4,f5,f6⟩:=(HL.out.2.1 (m + 1) hlt).same (sAl hgw)
   rw [hae] at haf
   simp only [Option.some.injEq,Addr.mk.injEq,and_true] at haf
   obtain ⟨rfl,rfl⟩:=haf
   subst hae
   rw [hv1] at hLe
   rw [hv2] at hLf
   unfold vaV at hLe hLf
   have qe:be < wr.heap.size:=World.block_lt_of_cell? wr _ e0
   have ed0:∀ W3:World,wr.grownBy W3 none -> W3.cell? ⟨be,oe + m * 7,none⟩ = some (.int .i64 k1):=fun W3 h=>(World.cell?_of_block (h.block be qe (by simp))).trans e0
   have ed1:∀ W3:World,wr.grownBy W3 none -> W3.cell? ⟨be,oe + m * 7 + 1,none⟩ = some (.int .i64 n1):=fun W3 h=>(World.cell?_of_block (h.block be qe (by simp))).trans e1
   have ed2:∀ W3:World,wr.grownBy W3 none -> W3.cell? ⟨be,oe + m * 7 + 2,none⟩ = some (.int .i64 a1):=fun W3 h=>(World.cell?_of_block (h.block be qe (by simp))).trans e2
   have ed3:∀ W3:World,wr.grownBy W3 none -> W3.cell? ⟨be,oe + m * 7 + 3,none⟩ = some (.string s1):=fun W3 h=>(World.cell?_of_block (h.block be qe (by simp))).trans e3
   have ed4:∀ W3:World,wr.grownBy W3 none -> W3.cell? ⟨be,oe + m * 7 + 4,none⟩ = some (.slice aa1 al1 ac1):=fun W3 h=>(World.cell?_of_block (h.block be qe (by simp))).trans e4
   have ed5:∀ W3:World,wr.grownBy W3 none -> W3.cell? ⟨be,oe + m * 7 + 5,none⟩ = some (.slice ta1 tl1 tc1):=fun W3 h=>(World.cell?_of_block (h.block be qe (by simp))).trans e5
   have ed6:∀ W3:World,wr.grownBy W3 none -> W3.cell? ⟨be,oe + m * 7 + 6,none⟩ = some (.slice na1 nl1 nc1):=fun W3 h=>(World.cell?_of_block (h.block be qe (by simp))).trans e6
   have fd0:∀ W3:World,wr.grownBy W3 none -> W3.cell? ⟨be,oe + (m + 1) * 7,none⟩ = some (.int .i64 k2):=fun W3 h=>(World.cell?_of_block (h.block be qe (by simp))).trans f0
   have fd1:∀ W3:World,wr.grownBy W3 none -> W3.cell? ⟨be,oe + (m + 1) * 7 + 1,none⟩ = some (.int .i64 n2):=fun W3 h=>(World.cell?_of_block (h.block be qe (by simp))).trans f1
   have fd2:∀ W3:World,wr.grownBy W3 none -> W3.cell? ⟨be,oe + (m + 1) * 7 + 2,none⟩ = some (.int .i64 a2):=fun W3 h=>(World.cell?_of_block (h.block be qe (by simp))).trans f2
   have fd3:∀ W3:World,wr.grownBy W3 none -> W3.cell? ⟨be,oe + (m + 1) * 7 + 3,none⟩ = some (.string s2):=fun W3 h=>(World.cell?_of_block (h.block be qe (by simp))).trans f3
   have fd4:∀ W3:World,wr.grownBy W3 none -> W3.cell? ⟨be,oe + (m + 1) * 7 + 4,none⟩ = some (.slice aa2 al2 ac2):=fun W3 h=>(World.cell?_of_block (h.block be qe (by simp))).trans f4
   have fd5:∀ W3:World,wr.grownBy W3 none -> W3.cell? ⟨be,oe + (m + 1) * 7 + 5,none⟩ = some (.slice ta2 tl2 tc2):=fun W3 h=>(World.cell?_of_block (h.block be qe (by simp))).trans f5
   have fd6:∀ W3:World,wr.grownBy W3 none -> W3.cell? ⟨be,oe + (m + 1) * 7 + 6,none⟩ = some (.slice na2 nl2 nc2):=fun W3 h=>(World.cell?_of_block (h.block be qe (by simp))).trans f6
   have HKey:Hid (∀ (x:Va) (u:Value),LiesV (fun _=>True) w x u -> ∀ W3:World,wr.grownBy W3 none -> Calls Tryz.prog 70 #[u] W3 fun e w'=>∃ kv,e = .returned kv /\ LiesV (fun _=>True) w (keyF x) kv /\ W3.grownBy w' none):=fun x u hx W3 h=>keyOf_any hx W3 (gTq hgw h)
   have hsz:(keyF l[m]).size <= 20000000:=by
    have h1:(keyF l[m]).size <= (l[m]).size:=key_size _
    have h2:(l[m]).size <= vsizes l:=vsize_mem (List.getElem_mem _)
    have h3:=HZ.out
    omega
   have HOrd:Hid (∀ (u v:Value),LiesV (fun _=>True) w (keyF l[m]) u -> LiesV (fun _=>True) w (keyF l[m + 1]) v -> ∀ W3:World,wr.grownBy W3 none -> Calls Tryz.prog 69 #[u,v] W3 fun e w'=>e = .returned (.int .i64 (ordV (keyF l[m]) (keyF l[m + 1]))) /\ W3.grownBy w' none):=fun u v hu hv W3 h=>order_any hu hv hsz W3 (gTq hgw h)
   have HGR:=jh hgr
   have HALL:=jh hall
   have w1:IntKind.i64.wrap (m:Int) = (m:Int):=wrapN m (by omega)
   have w2:IntKind.i64.wrap ((m:Int) + 1 - 1) = (m:Int):=by rw [show (m:Int) + 1 - 1 = (m:Int) from by omega];exact w1
   have w3:IntKind.i64.wrap ((m:Int) + 1) = (m:Int) + 1:=by rw [show (m:Int) + 1 = ((m + 1:Nat):Int) from by omega];exact wrapN (m + 1) (by omega)
   have w4:(m:Int) < (l.length:Int):=by omega
   have w5:(m:Int) + 1 < (l.length:Int):=by omega
   have w6:m < l.length:=by omega
   have w7:m + 1 < l.length:=hlt
   have w8:(0:Int) <= (m:Int) + 1:=by omega
   clear hgr hall hgw hsz hv1 hv2 e0 e1 e2 e3 e4 e5 e6 f0 f1 f2 f3 f4 f5 f6
   generalize hr:ordV (keyF l[m]) (keyF l[m + 1]) = r at *
   have HR:=jh hr
   clear hr
   by_cases hneg:r < 0
   ·have hneg2:¬ 0 <= r:=by omega
    go_wp2_with fail
    go_region_held3 (fun w'=>wr.grownBy w' none) (first | assumption | exact gDr (gRf _ _)) (first
     | (go_at_call 70;refine (HKey.out _ _ (by assumption) _ (by assumption)).mono ?_;rintro e w' ⟨kv,rfl,hK,hg⟩;obtain ⟨_,_,_,_,_,_,_,_,_,_,_,_,_,rfl⟩:=hK.vaV;unfold vaV at hK ⊢;have hS:=gTq (by assumption) hg)
     | (go_at_call 69;refine (HOrd.out _ _ (by assumption) (by assumption) _ (by assumption)).mono ?_;rintro e w' ⟨rfl,hg⟩;have hS:=gTq (by assumption) hg))
    have HS9:=jh (gTq HGR.out hS)
    clear hS
    go_wp2_with fail
    go_roundw
    case rel =>
     refine ⟨m + 1 + 1,by omega,.inl (by omega),by go_num,fun i h hi=>?_,HS9.out⟩
     by_cases hi2:i + 1 < m + 1
     ·exact HALL.out i h hi2
     ·obtain rfl:i = m:=by omega
      rw [HR.out];exact hneg
    case measure=>simp [intOf];omega
   ·have hneg2:0 <= r:=by omega
    go_wp2_with fail
    go_region_held3 (fun w'=>wr.grownBy w' none) (first | assumption | exact gDr (gRf _ _)) (first
     | (go_at_call 70;refine (HKey.out _ _ (by assumption) _ (by assumption)).mono ?_;rintro e w' ⟨kv,rfl,hK,hg⟩;obtain ⟨_,_,_,_,_,_,_,_,_,_,_,_,_,rfl⟩:=hK.vaV;unfold vaV at hK ⊢;have hS:=gTq (by assumption) hg)
     | (go_at_call 69;refine (HOrd.out _ _ (by assumption) (by assumption) _ (by assumption)).mono ?_;rintro e w' ⟨rfl,hg⟩;have hS:=gTq (by assumption) hg))
    have HS9:=jh (gTq HGR.out hS)
    clear hS
    go_wp2_with fail
    go_ret
    exact Lf.retb (risesF_no l m hlt (by rw [HR.out];omega)).symm HS9.out
  ·have hres:risesF l = true:=(risesF_iff l).2 fun i h=>hall i h (by omega)
   have HRR:=jh hres
   have HGR:=jh hgr
   have hj3:¬ (j:Int) < (l.length:Int):=by omega
   clear hres hgr hall
   go_wp2_with fail
   go_ret
   exact Lf.retb HRR.out.symm HGR.out
theorem has1_any {w:World} {l:List Va} {a:Option Addr} {c:Nat} {V:Nat -> Value} (hl:RowVa (fun _=>True) w l a V) (hz:vsizes l <= 20000000) (W:World) (hW:w.grownBy W none) :
 Calls Tryz.prog 47 #[.slice a l.length c] W fun e w'=>e = .returned (.bool (!risesF l)) /\ W.grownBy w' none:=by
 have H:=jh (rises_any (c:=c) hl hz W hW)
 clear hl hz hW
 generalize risesF l = r at *
 go_enter Tryz.func47,Tryz.ntmps47
 go_wp2_with fail
 refine H.out.mono ?_;rintro e w1 ⟨rfl,hg⟩
 have HG:=jh hg
 clear hg
 go_wp2_with fail
 go_ret
 exact ⟨rfl,HG.out⟩
theorem ent_has1:∀ args w,(callFunc 47 args).run Tryz.prog w = .ok (.enter 47 args) w:=fun args w=>by simp [go_sem]
def MapsAt (w W:World) (M:List (List Va)) (a:Option Addr):Prop :=
 M.length <= maxLen /\ ∀ i (h:i < M.length),∃ b o ai ci V,a = some ⟨b,o,none⟩ /\ W.cell? ⟨b,o + i,none⟩ = some (.slice ai M[i].length ci) /\ RowVa (fun _=>True) w M[i] ai V /\ vsizes M[i] <= 20000000
theorem index_any {w W:World} {M:List (List Va)} {a:Option Addr} {c:Nat} (hM:MapsAt w W M a) (hW:w.grownBy W none) :
 Calls Tryz.prog 68 #[.slice a M.length c,.func (.func 47) #[] #[]] W fun e w'=>∃ r:Int,e = .returned (.int .i64 r) /\ ((0 <= r /\ M.all risesF = false) \/ (r = -1 /\ M.all risesF = true)) /\ W.grownBy w' none:=by
 have hn:=hM.1
 unfold maxLen at hn
 have HM:=jh hM
 have HW:=jh hW
 have eg:=ent_has1
 clear hM hW
 go_enter Tryz.func68,Tryz.ntmps68
 go_wp2_with fail
 go_loopw [8] (fun iv wr=>∃ j:Nat,j <= M.length /\ iv = .int .i64 j /\ (∀ i (h:i < M.length),i < j -> risesF M[i] = true) /\ W.grownBy wr none) (fun iv _=>M.length - (intOf iv).toNat)
 case atStart=>exact ⟨0,Nat.zero_le _,rfl,fun i h hi=>by omega,gRf _ _⟩
 case round =>
  obtain ⟨j,hj,rfl,hall,hgr⟩:=hrel
  have HALL:=jh hall
  have HGR:=jh hgr
  clear hall
  by_cases hlt:j < M.length
  ·obtain ⟨b,o,ai,ci,V,rfl,hcell,hR,hsz⟩:=HM.out.2 j hlt
   have hcw:wr.cell? ⟨b,o + j,none⟩ = some (.slice ai M[j].length ci):=(World.cell?_of_block (hgr.block b (World.block_lt_of_cell? W _ hcell) (by simp))).trans hcell
   have HK:=jh (has1_any (c:=ci) hR hsz wr (gTq HW.out hgr))
   have hlM:=hR.1
   unfold maxLen at hlM
   clear hcell hR hsz hgr
   cases hq:risesF M[j] with
   | true =>
    rw [hq] at HK
    have HQ:=jh hq
    clear hq
    go_wp2_with fail
    refine HK.out.mono ?_;rintro e w1 ⟨rfl,hg⟩
    have HG:=jh (gTq HGR.out hg)
    clear hg
    go_wp2_with fail
    go_roundw
    case rel =>
     refine ⟨j + 1,by omega,by go_num,fun i h hi=>?_,HG.out⟩
     by_cases e:i = j
     ·subst e;exact HQ.out
     ·exact HALL.out i h (by omega)
    case measure=>simp [intOf];omega
   | false =>
    rw [hq] at HK
    have HQ:=jh hq
    clear hq
    go_wp2_with fail
    refine HK.out.mono ?_;rintro e w1 ⟨rfl,hg⟩
    have HG:=jh (gTq HGR.out hg)
    clear hg
    go_wp2_with fail
    go_ret
    refine ⟨_,rfl,.inl ⟨by omega,?_⟩,HG.out⟩
    cases hA:M.all risesF with
    | false=>rfl
    | true=>have:=List.all_eq_true.1 hA M[j] (List.getElem_mem hlt);rw [HQ.out] at this;cases this
  ·have hall2:M.all risesF = true:=List.all_eq_true.2 fun x hx=>by
    obtain ⟨i,hi,rfl⟩:=List.getElem_of_mem hx
    exact HALL.out i hi (by omega)
   have HA:=jh hall2
   have hj3:¬ (j:Int) < (M.length:Int):=by omega
   clear hall2 hgr
   go_wp2_with fail
   go_ret
   refine ⟨_,rfl,.inr ⟨rfl,?_⟩,HGR.out⟩
   first | exact HA.out | exact List.all_eq_true.1 HA.out
theorem contains_any {w W:World} {M:List (List Va)} {a:Option Addr} {c:Nat} (hM:MapsAt w W M a) (hW:w.grownBy W none) :
 Calls Tryz.prog 46 #[.slice a M.length c,.func (.func 47) #[] #[]] W fun e w'=>e = .returned (.bool (!M.all risesF)) /\ W.grownBy w' none:=by
 have H:=jh (index_any (c:=c) hM hW)
 clear hM hW
 generalize M.all risesF = q at *
 go_enter Tryz.func46,Tryz.ntmps46
 go_wp2_with fail
 refine H.out.mono ?_;rintro e w1 ⟨r,rfl,hr,hg⟩
 have HG:=jh hg
 have HR:=jh hr
 clear hg hr
 go_wp2_with fail
 go_ret
 refine Lf.retb ?_ HG.out
 rcases HR.out with ⟨h1,rfl⟩ | ⟨rfl,rfl⟩
 ·simp [h1]
 ·rfl
theorem info_vs:(Tryz.prog.info? 26).map (fun i=>(i.zero,i.size,i.bytes)) = some (some (.slice none 0 0),1,24):=by kernel_rfl
def OwnsV (B:Nat) (w:World) (v:Value) (us:List Value):Prop:=w.ownsRow B 26 1 v us.length us
def MapsOk (w:World):List (List Va) -> List Value -> Prop
 | [],[]=>True
 | l :: M,u :: us=>(∃ a c V,u = .slice a l.length c /\ RowVa (fun _=>True) w l a V /\ vsizes l <= 20000000) /\ MapsOk w M us
 | [],_ :: _=>False
 | _ :: _,[]=>False
theorem MapsOk.len {w:World} : ∀ {M:List (List Va)} {us:List Value},MapsOk w M us -> us.length = M.length
 | [],[],_=>rfl
 | _ :: _,_ :: _,h=>by simp [MapsOk.len h.2]
 | [],_ :: _,h=>h.elim
 | _ :: _,[],h=>h.elim
theorem MapsOk.snoc {w:World} {l:List Va} {u:Value} (hr:∃ a c V,u = .slice a l.length c /\ RowVa (fun _=>True) w l a V /\ vsizes l <= 20000000):∀ {M:List (List Va)} {us:List Value},MapsOk w M us -> MapsOk w (M ++ [l]) (us ++ [u])
 | [],[],_=>⟨hr,trivial⟩
 | _ :: _,_ :: _,h=>⟨h.1,MapsOk.snoc hr h.2⟩
 | [],_ :: _,h=>h.elim
 | _ :: _,[],h=>h.elim
theorem MapsOk.get {w:World} : ∀ {M:List (List Va)} {us:List Value},MapsOk w M us -> ∀ i (h:i < M.length),∃ u,us[i]? = some u /\ ∃ a c V,u = .slice a M[i].length c /\ RowVa (fun _=>True) w M[i] a V /\ vsizes M[i] <= 20000000
 | [],[],_,i,h=>by simp at h
 | _ :: _,_ :: _,hm,0,h=>⟨_,rfl,hm.1⟩
 | _ :: _,_ :: _,hm,i + 1,h=>by simpa using MapsOk.get hm.2 i (by simpa using h)
 | [],_ :: _,h,_,_=>h.elim
 | _ :: _,[],h,_,_=>h.elim
theorem maps_at {w W:World} {M:List (List Va)} {us:List Value} {v:Value} {B:Nat} (ho:OwnsV B W v us) (hm:MapsOk w M us) (hl:M.length <= maxLen):∃ a c,v = .slice a M.length c /\ MapsAt w W M a:=by
 have hlen:=hm.len
 rcases ho.2 with ⟨rfl,h0⟩ | ⟨g,cap,cur,rfl,hb,hg,h3,h4,h5,h6⟩
 ·have : M.length = 0:=by omega
  exact ⟨none,0,by rw [this],hl,fun i h=>by omega⟩
 ·refine ⟨some ⟨g,0,none⟩,cap,by rw [hlen],hl,fun i h=>?_⟩
  obtain ⟨u,hu,a,c,V,rfl,hR,hz⟩:=hm.get i h
  have hc:=World.ownsRow.cells ho (g:=g) rfl i _ hu
  rw [add_none] at hc
  exact ⟨g,0,a,c,V,rfl,hc,hR,hz⟩
theorem own_apart {w:World} {B B':Nat} {e e':TypeId} {s s' n n':Nat} {v v':Value} {xs xs':List Value} (h:w.ownsRow B e s v n xs) (h':w.ownsRow B' e' s' v' n' xs') (hne:e ≠ e'):v'.ownBlock = none \/ v'.ownBlock ≠ v.ownBlock:=by
 rcases h'.2 with ⟨rfl,_⟩ | ⟨g,cap,cur,rfl,_,hg,_⟩
 ·exact .inl rfl
 ·right
  exact own_ne_type h hg hne
theorem own_cutN {w:World} {B:Nat} {e:TypeId} {size g cap n:Nat} {xs ys:List Value} (h:w.ownsRow B e size (.slice (some ⟨g,0,none⟩) (n + 1) cap) (n + 1) (xs ++ ys)) (hx:xs.length = n * size):w.ownsRow B e size (.slice (some ⟨g,0,none⟩) n cap) n xs:=by
 refine ⟨hx,?_⟩
 rcases h.2 with ⟨hq,_⟩ | ⟨g',cap',cur,hq,h1,h2,h3,h4,h5,h6⟩
 ·simp at hq
 ·simp only [Value.slice.injEq,Option.some.injEq,Addr.mk.injEq,and_true,true_and] at hq
  obtain ⟨rfl,rfl⟩:=hq
  refine .inr ⟨g,cap,cur,rfl,h1,h2,by omega,h4,h5,?_⟩
  have h7:=congrArg (List.take (n * size)) h6
  rw [List.take_take,show min (n * size) ((n + 1) * size) = n * size from by rw [Nat.add_mul];omega] at h7
  rw [h7,List.take_append_of_le_length (by omega),List.take_of_length_le (by omega)]
theorem own_cellN {w:World} {B:Nat} {e:TypeId} {size g cap n:Nat} {xs ys:List Value} (h:w.ownsRow B e size (.slice (some ⟨g,0,none⟩) (n + 1) cap) (n + 1) (xs ++ ys)) (hx:xs.length = n * size) (j:Nat) (u:Value) (hu:ys[j]? = some u):w.cell? ⟨g,n * size + j,none⟩ = some u:=by
 have k:=World.ownsRow.cells h (g:=g) rfl (n * size + j) u (by rw [List.getElem?_append_right (by omega),hx,show n * size + j - n * size = j from by omega];exact hu)
 rw [add_none,Nat.zero_add] at k
 exact k
theorem box9 {w:World} {g:Nat} {T:TypeId} {x0 x1 x2 x3 x4 x5 x6 x7 x8:Value} (h:w.heap[g]? = some (.cells #[x0,x1,x2,x3,x4,x5,x6,x7,x8] T (0,0))) :
 w.cell? ⟨g,0,none⟩ = some x0 /\ w.cell? ⟨g,1,none⟩ = some x1 /\ w.cell? ⟨g,2,none⟩ = some x2 /\ w.cell? ⟨g,3,none⟩ = some x3 /\ w.cell? ⟨g,4,none⟩ = some x4 /\ w.cell? ⟨g,5,none⟩ = some x5 /\ w.cell? ⟨g,6,none⟩ = some x6 /\ w.cell? ⟨g,7,none⟩ = some x7 /\ w.cell? ⟨g,8,none⟩ = some x8:=by
 simp [World.cell?,h]
theorem appK {ops:Array Oper} {rest:List Oper} {o:Oper} {a:Act} {Q:Exit -> Act -> World -> Prop} (B:Nat) (w:World) {C D:List (Ty × Va)} {cs ds:List (Value × Value)} (w0:World) (v xv:Value) (hgd:o.guard = none) (s x:Operand)
 (ho:o.op = .call { callee:=.builtin .append,args:=#[s,x],argTypes:=#[85,85] }) (hs:a.eval s = v) (hx:a.eval x = xv)
 (hsrc:SrcAt w0 xv ds.length (flatC ds)) (hD:ClaimsOk w D ds) (hown:OwnsK B w0 v cs) (hB:B <= w0.heap.size) (hlen:cs.length + ds.length <= 50000000)
 (h:∀ v' w',OwnsK B w' v' (cs ++ ds) -> Gr w0 v w' v' -> wpList Tryz.prog ops Q rest (a.put o.dst v') w'):wpList Tryz.prog ops Q (o :: rest) a w0:=by
 obtain ⟨n1,n2⟩:=flatC_len hD
 refine wpList_app hgd s x 85 ho B 83 Tryz.underlying85 info_cl rfl (by decide) v cs.length (flatC cs) hs hown xv ds.length (flatC ds) hx n1 hsrc n2 ?_ ?_ hB ?_
 ·unfold maxLen;omega
 ·omega
 ·intro v' w' h1 h2 _
  exact h v' w' (by unfold OwnsK;rw [flatC_append,List.length_append];exact h1) h2
theorem appV {ops:Array Oper} {rest:List Oper} {o:Oper} {a:Act} {Q:Exit -> Act -> World -> Prop} (B:Nat) (us:List Value) (sa:Option Addr) (sl sc:Nat) (w0:World) (v:Value) (hgd:o.guard = none) (s x:Operand)
 (ho:o.op = .call { callee:=.builtin .append,args:=#[s,x],argTypes:=#[67,67] }) (hs:a.eval s = v) {H:Nat} (hx:a.eval x = .slice (some ⟨H,0,none⟩) 1 1) (hH:w0.heap.size = H)
 (hown:OwnsV B w0 v us) (hB:B <= w0.heap.size) (hlen:us.length <= 50000000)
 (h:∀ v' w',OwnsV B w' v' (us ++ [.slice sa sl sc]) -> Gr w0 v w' v' -> wpList Tryz.prog ops Q rest (a.put o.dst v') w') :
 wpList Tryz.prog ops Q (o :: rest) a (w0.alloc (.cells #[.slice sa sl sc] 26)):=by
 subst hH
 refine wpList_app hgd s x 67 ho B 26 Tryz.underlying67 info_vs rfl (by decide) v us.length us hs (World.ownsRow.alloc hown _) _ 1 [.slice sa sl sc] hx rfl (SrcAt.new _ _ _ _ _) ?_ ?_ ?_ ?_ ?_
 ·intro u hu;simp at hu;subst hu;rfl
 ·unfold maxLen;omega
 ·omega
 ·simp;omega
 ·intro v' w' h1 h2 _
  exact h v' w' (by unfold OwnsV;rw [List.length_append];exact h1) (Gr.trans (Gr.alloc (Gr.refl w0 v) _) h2)
theorem formed_args {d:Nat} {T:Ty} (h:fBq d T = true):(T.args.length:Int) = partsF T.t /\ ∀ y ∈ T.args,fBq (d + 1) y = true:=by
 obtain ⟨t,args⟩:=T
 simp only [fBq,Bool.and_eq_true,decide_eq_true_eq] at h
 refine ⟨h.1.2.2,fun y hy=>?_⟩
 have:=h.2
 rw [formedBs_all,List.all_eq_true] at this
 exact this y hy
theorem zip_mem_fst {ts:List Ty} {l:List Va} {p:Ty × Va} (h:p ∈ ts.zip l):p.1 ∈ ts:=(List.of_mem_zip h).1
theorem parts_formed {T:Ty} {x:Va} {l:List (Ty × Va)} (hf:∃ d,fBq d T = true) (hfit:fitsF T x = true) (hp:partsOf T x = some l):∀ p ∈ l,∃ d,fBq d p.1 = true:=by
 obtain ⟨d,hd⟩:=hf
 obtain ⟨hlen,hargs⟩:=formed_args hd
 simp only [fitsF,Bool.and_eq_true] at hfit
 obtain ⟨⟨⟨⟨⟨_,hN⟩,_⟩,_⟩,hT⟩,_⟩:=hfit
 simp only [partsOf,argTys,Option.map_eq_some_iff] at hp
 obtain ⟨ts,hts,rfl⟩:=hp
 intro p hpm
 have hm:=zip_mem_fst hpm
 split at hts
 ·rename_i h8
  split at hts
  ·simp only [Option.some.injEq] at hts
   subst hts
   unfold fitsTF at hT
   rw [if_pos h8] at hT
   match hx:x.types,hT with
   | [y],hT =>
    rw [hx] at hm
    simp at hm
    rw [hm]
    exact ⟨1,(goodTy_formed hT).1⟩
  ·cases hts
 ·split at hts
  ·simp only [Option.some.injEq] at hts
   subst hts
   simp at hm
  ·split at hts
   ·rename_i h10
    split at hts
    ·simp only [Option.some.injEq] at hts
     subst hts
     have e:=List.eq_of_mem_replicate hm
     rw [e]
     have hl1:T.args.length = 1:=by rw [h10] at hlen;simp [partsF] at hlen;omega
     obtain ⟨y,hy⟩:=List.length_eq_one_iff.1 hl1
     rw [show tAq T.args 0 = y from by simp [tAq,hy]]
     exact ⟨d + 1,hargs y (by rw [hy];simp)⟩
    ·cases hts
   ·split at hts
    ·rename_i h13
     split at hts
     ·simp only [Option.some.injEq] at hts
      subst hts
      have e:=List.eq_of_mem_replicate hm
      rw [e]
      refine ⟨d,?_⟩
      obtain ⟨t,args⟩:=T
      simp only [Ty.t] at h13
      subst h13
      simp only [fBq,Bool.and_eq_true,decide_eq_true_eq,Ty.args] at hd ⊢
      refine ⟨⟨hd.1.1,by decide,?_⟩,hd.2⟩
      have:=hd.1.2.2
      simp [partsF] at this ⊢
      exact this
     ·cases hts
    ·split at hts
     ·rename_i h12
      split at hts
      ·simp only [Option.some.injEq] at hts
       subst hts
       simp at hm
       rw [hm]
       have hl2:T.args.length = 2:=by rw [h12] at hlen;simp [partsF] at hlen;omega
       have hn:x.n = 0 \/ x.n = 1:=by
        unfold fitsNF at hN
        rw [h12] at hN
        simpa using hN
       rcases hn with hn | hn
       ·rw [hn]
        have e:tAq T.args ((0:Int).toNat) = T.args[0]:=by show (T.args[0]?).getD _ = _;rw [List.getElem?_eq_getElem (by omega)];rfl
        rw [e]
        exact ⟨d + 1,hargs _ (List.getElem_mem _)⟩
       ·rw [hn]
        have e:tAq T.args ((1:Int).toNat) = T.args[1]:=by show (T.args[1]?).getD _ = _;rw [List.getElem?_eq_getElem (by omega)];rfl
        rw [e]
        exact ⟨d + 1,hargs _ (List.getElem_mem _)⟩
      ·cases hts
     ·split at hts
      ·split at hts
       ·simp only [Option.some.injEq] at hts
        subst hts
        simp at hm
       ·cases hts
      ·split at hts
       ·simp only [Option.some.injEq] at hts
        subst hts
        exact ⟨d + 1,hargs _ hm⟩
       ·cases hts
theorem args_ok {T:Ty} {x:Va} (hf:∃ d,fBq d T = true) (hfit:fitsF T x = true):ArgsOk T x:=by
 obtain ⟨d,hd⟩:=hf
 refine ⟨(formed_args hd).1,fun h12=>?_⟩
 simp only [fitsF,Bool.and_eq_true] at hfit
 have hN:=hfit.1.1.1.1.2
 unfold fitsNF at hN
 rw [h12] at hN
 simpa using hN
theorem parts_left {T:Ty} {x:Va} {l:List (Ty × Va)} (hp:partsOf T x = some l):leftP l = vsizes x.args /\ l.length = x.args.length:=by
 simp only [partsOf,Option.map_eq_some_iff] at hp
 obtain ⟨ts,hts,rfl⟩:=hp
 have:=argTys_len hts
 exact ⟨leftP_zip ts x.args this.symm,by simp;omega⟩
def HRel (w W:World) (T:Ty) (x:Va) (n:Nat) (mv tv:Value) (wr:World):Prop :=
 ∃ (C:List (Ty × Va)) (cs:List (Value × Value)) (M:List (List Va)) (us:List Value),OwnsK W.heap.size wr tv cs /\ ClaimsOk w C cs /\ OwnsV W.heap.size wr mv us /\ MapsOk w M us /\ (C.all hasP && M.all risesF) = hasV x T /\ (∀ p ∈ C,∃ d,fBq d p.1 = true) /\ leftP C = n /\ M.length + n <= x.size /\ W.grownBy wr none
theorem has_yes {w:World} {T:Ty} {x:Va} {u v:Value} (hT:LiesT (fun _=>True) w T u) (hV:LiesV (fun _=>True) w x v) (hz:x.size <= 20000000) (hgd:gYq T = true) (W:World) (hW:w.grownBy W none) :
 Calls Tryz.prog 31 #[u,v] W fun e w'=>e = .returned (.bool (hasV x T)) /\ W.grownBy w' none:=by
 obtain ⟨k1,n1,a1,s1,aa1,al1,ac1,ta1,tl1,tc1,na1,nl1,nc1,rfl⟩:=hV.vaV
 have hL3:=hT
 obtain ⟨a,c,V,rfl,it,hRT⟩:=hT.inv
 obtain ⟨μ,hμ⟩:=least_of (fun n (p:Value × Value × World)=>HRel w W T x n p.1 p.2.1 p.2.2)
 have HG:Hid (∀ W2,W.grownBy W2 none -> Calls Tryz.prog 37 #[tyV T.t a T.args.length c] W2 fun e w'=>e = .returned (.bool true) /\ W2.grownBy w' none):=fun W2 h2=>by
  have:=kgood_any (LiesT.up hT (gTq hW h2));rw [hgd] at this;exact this
 have HT:=jh hT
 have HV:=jh hV
 have HM:=jh hμ
 have HW:=jh hW
 have HZ:=jh hz
 have HGD:=jh hgd
 clear hT hV hμ hW hz hgd hL3 hRT it
 generalize hr:hasV x T = r
 have HR:=jh hr
 clear hr
 unfold tyV vaV at *
 go_enter Tryz.func31,Tryz.ntmps31
 go_wp2_with fail
 refine (HG.out _ (gTq (gBq _) (gBq _))).mono ?_;rintro e w1 ⟨rfl,hg1⟩
 have hb0:=(hg1.block _ (Array.getElem?_eq_some_iff.1 (rNw W (.cells #[.int .i64 T.t,.slice a T.args.length c] 24) (.cells #[.int .i64 k1,.int .i64 n1,.int .i64 a1,.string s1,.slice aa1 al1 ac1,.slice ta1 tl1 tc1,.slice na1 nl1 nc1] 28))).1 (by simp)).trans (rNw W (.cells #[.int .i64 T.t,.slice a T.args.length c] 24) (.cells #[.int .i64 k1,.int .i64 n1,.int .i64 a1,.string s1,.slice aa1 al1 ac1,.slice ta1 tl1 tc1,.slice na1 nl1 nc1] 28))
 have hb1:=(hg1.block _ (Array.getElem?_eq_some_iff.1 (new_twoI W (.cells #[.int .i64 T.t,.slice a T.args.length c] 24) (.cells #[.int .i64 k1,.int .i64 n1,.int .i64 a1,.string s1,.slice aa1 al1 ac1,.slice ta1 tl1 tc1,.slice na1 nl1 nc1] 28))).1 (by simp)).trans (new_twoI W (.cells #[.int .i64 T.t,.slice a T.args.length c] 24) (.cells #[.int .i64 k1,.int .i64 n1,.int .i64 a1,.string s1,.slice aa1 al1 ac1,.slice ta1 tl1 tc1,.slice na1 nl1 nc1] 28))
 have c0:=c0q hb0
 have c1:=c1q hb0
 obtain ⟨d0,d1,d2,d3,d4,d5,d6⟩:=box7 hb1
 have HG1:=jh (gTq (gTq (gBq _) (gBq _)) hg1)
 clear hb0 hb1 hg1
 go_wp2_with fail
 go_loopw [5,6] (fun mv tv wr=>∃ n,HRel w W T x n mv tv wr) (fun mv tv wr=>μ (mv,tv,wr))
 case atStart =>
  refine ⟨x.size,[(T,x)],[(tyV T.t a T.args.length c,vaV k1 n1 a1 s1 aa1 al1 ac1 ta1 tl1 tc1 na1 nl1 nc1)],[],[],?_,⟨⟨HT.out,HV.out⟩,trivial⟩,World.ownsRow_nil _ _ _ _,trivial,?_,?_,leftP_one _,by simp,gTq HG1.out (gBq _)⟩
  ·exact ⟨rfl,.inr ⟨_,1,_,rfl,HG1.out.size,heap_alloc_new _ _,Nat.le_refl _,by decide,rfl,rfl⟩⟩
  ·simp [hasP,HR.out]
  ·intro p hp
   simp at hp
   subst hp
   exact ⟨1,(goodTy_formed HGD.out).1⟩
 case round =>
  obtain ⟨n0,hn0⟩:=hrel
  obtain ⟨C,cs,M,us,hOK,hCO,hOV,hMO,hall,hform,hn,hle,hgr⟩:=(HM.out (u5,u6,wr) n0 hn0).1
  simp only at hOK hOV hgr
  have hz:=HZ.out
  have hMl:=hMO.len
  clear hn0 c0 c1 d0 d1 d2 d3 d4 d5 d6
  by_cases hv:cs.length = 0
  ·obtain ⟨a0,cc0,rfl⟩:=own_empty hOK hv
   have hC0:C = []:=List.length_eq_zero_iff.1 (by have:=hCO.len;omega)
   have hres:r = M.all risesF:=by rw [← HR.out,← hall,hC0];rfl
   obtain ⟨ma,mc,rfl,hMA⟩:=maps_at hOV hMO (by unfold maxLen;omega)
   have HCF:=jh (contains_any (c:=mc) hMA (gTq HW.out hgr))
   have HGR:=jh hgr
   have HRE:=jh hres
   generalize M.all risesF = q at *
   clear hOK hCO hOV hMO hall hform hn hle hgr hC0 hres hMA hv HM HG HT HV HR HGD hMl
   go_wp2_with fail
   refine HCF.out.mono ?_;rintro e w9 ⟨rfl,hg9⟩
   have HG9:=jh (gTq HGR.out hg9)
   clear hg9
   go_wp2_with fail
   go_ret
   exact Lf.retb (by rw [HRE.out]) HG9.out
  ·have hne:cs ≠ []:=fun e=>hv (by rw [e];rfl)
   have e1:=(List.dropLast_concat_getLast hne).symm
   generalize cs.dropLast = cs' at e1
   generalize cs.getLast hne = q at e1
   subst e1
   obtain ⟨C',p,rfl,hCO',hLT,hLV⟩:=hCO.last
   obtain ⟨T2,x2⟩:=p
   obtain ⟨u2,v2⟩:=q
   simp only at hLT hLV
   obtain ⟨a2,c2,V2,rfl,it2,hRT2⟩:=hLT.inv
   obtain ⟨aa2,ac2,ta2,tc2,na2,nc2,VV2,VT2,VN2,rfl,⟨ik2,iN2,ia2,hs2,hlc2⟩,hRV2,hRY2,hRN2⟩:=hLV.inv
   have hlv:(cs' ++ [(tyV T2.t a2 T2.args.length c2,vaV x2.k x2.n x2.a x2.s aa2 x2.args.length ac2 ta2 x2.types.length tc2 na2 x2.code.length nc2)]).length = cs'.length + 1:=by simp
   have hform2:=World.ownsRow.form hOK (by simp)
   rw [hlv] at hform2
   obtain ⟨g,cap,rfl,hgB,hglt⟩:=hform2
   unfold OwnsK at hOK
   rw [hlv,flatC_append] at hOK
   have hfl:=(flatC_len hCO').1
   have hcap:=oCq hOK
   have hcap1:cs'.length <= cap:=by omega
   have hx2:x2.size <= 20000000 /\ leftP C' + x2.size = μ (u5,.slice (some ⟨g,0,none⟩) (cs'.length + 1) cap,wr):=by
    have h1:=hn
    rw [leftP_append,leftP_one] at h1
    exact ⟨by simp only at h1;omega,h1⟩
   have hcl:cs'.length <= 20000000:=by
    have h1:=hCO'.len
    have h2:=len_leftP C'
    omega
   have g0:=own_cellN hOK hfl 0 _ rfl
   have g1:=own_cellN hOK hfl 1 _ rfl
   have g2:=own_cellN hOK hfl 2 _ rfl
   have g3:=own_cellN hOK hfl 3 _ rfl
   have g4:=own_cellN hOK hfl 4 _ rfl
   have g5:=own_cellN hOK hfl 5 _ rfl
   have g6:=own_cellN hOK hfl 6 _ rfl
   have g7:=own_cellN hOK hfl 7 _ rfl
   have g8:=own_cellN hOK hfl 8 _ rfl
   rw [Nat.add_zero] at g0
   have hcut:=own_cutN hOK hfl
   have HOKC:=jh hcut
   have HFit:=jh (fun W2 (h2:W.grownBy W2 none)=>fits_any hLT hLV hx2.1 W2 (gTq HW.out h2))
   have HOfA:=jh (fun (hok:ArgsOk T2 x2) W2 (h2:W.grownBy W2 none)=>ofArgs_any hLT hLV hok hx2.1 W2 (gTq HW.out h2))
   have hll:=hRV2.1
   unfold maxLen at hll
   have hl3:=hRT2.1
   unfold maxLen at hl3
   have HRV2:=jh hRV2
   have HX2:=jh hx2
   have HCO:=jh hCO'
   have HOV:=jh hOV
   have HMO:=jh hMO
   have HALL:=jh hall
   have HFORM:=jh hform
   have HLE:=jh hle
   have HGR:=jh hgr
   have HNN:=jh hn
   clear hOK hCO hCO' hOV hMO hall hform hn hle hgr hne hv hlv hcut hLT hLV it2 ik2 iN2 ia2 hs2 hlc2 hRV2 hRY2 hRN2 hRT2 hx2 hcap hfl
   unfold tyV vaV at *
   go_wp2_with fail
   have HGN:=jh (gTq HGR.out (gBq (w:=wr) (.cells #[.int .i64 T2.t,.slice a2 T2.args.length c2,.int .i64 x2.k,.int .i64 x2.n,.int .i64 x2.a,.string x2.s,.slice aa2 x2.args.length ac2,.slice ta2 x2.types.length tc2,.slice na2 x2.code.length nc2] 83)))
   have hap:∀ (b:Bool),hasP (T2,x2) = b -> (C'.all hasP && b && M.all risesF) = r:=fun b hb=>by
    rw [← HR.out,← HALL.out,List.all_append,← hb];simp
   have HAP:=jh hap
   have HHE:Hid (hasP (T2,x2) = (fitsF T2 x2 && (match partsOf T2 x2 with
    | none=>false
    | some ps=>ps.all hasP) && (!decide (T2.t = 13) || risesF x2.args))):=hasV_eq T2 x2
   have HFM:Hid (∃ d,fBq d T2 = true):=HFORM.out (T2,x2) (by simp)
   have hNB:=heap_alloc_new wr (.cells #[.int .i64 T2.t,.slice a2 T2.args.length c2,.int .i64 x2.k,.int .i64 x2.n,.int .i64 x2.a,.string x2.s,.slice aa2 x2.args.length ac2,.slice ta2 x2.types.length tc2,.slice na2 x2.code.length nc2] 83)
   have HNB:=jh hNB
   clear hap hNB g0 g1 g2 g3 g4 g5 g6 g7 g8
   refine (HFit.out _ HGN.out).mono ?_;rintro e w3 ⟨rfl,hg3⟩
   have hb3:=(hg3.block _ (Array.getElem?_eq_some_iff.1 HNB.out).1 (by simp)).trans HNB.out
   have HB3:=jh hb3
   obtain ⟨m0,m1,m2,m3,m4,m5,m6,m7,m8⟩:=box9 hb3
   have HG3:=jh (gTq HGN.out hg3)
   have HO3:=jh (World.ownsRow.kept (World.ownsRow.alloc HOKC.out (.cells #[.int .i64 T2.t,.slice a2 T2.args.length c2,.int .i64 x2.k,.int .i64 x2.n,.int .i64 x2.a,.string x2.s,.slice aa2 x2.args.length ac2,.slice ta2 x2.types.length tc2,.slice na2 x2.code.length nc2] 83)) hg3 (by cases (Value.slice (some ⟨g,0,none⟩) cs'.length cap).ownBlock <;> simp))
   have HV3:=jh (World.ownsRow.kept (World.ownsRow.alloc HOV.out (.cells #[.int .i64 T2.t,.slice a2 T2.args.length c2,.int .i64 x2.k,.int .i64 x2.n,.int .i64 x2.a,.string x2.s,.slice aa2 x2.args.length ac2,.slice ta2 x2.types.length tc2,.slice na2 x2.code.length nc2] 83)) hg3 (by cases u5.ownBlock <;> simp))
   clear hb3 hg3
   cases hf:fitsF T2 x2 with
   | false =>
    have hre:r = false:=by
     have h:=HAP.out false (by rw [HHE.out,hf];rfl)
     rw [← h];simp
    have HRE:=jh hre
    clear hre hf
    go_wp2_with fail
    go_ret
    exact Lf.retb HRE.out.symm HG3.out
   | true =>
    have HA:=jh (HOfA.out (args_ok HFM.out hf) w3 HG3.out)
    have HF:=jh hf
    clear hf
    go_wp2_with fail
    refine HA.out.mono ?_;rintro e w4 hpost
    rcases hpost with ⟨⟨hn,rfl⟩ | ⟨l,cv,ds,hn,rfl,ho,hc⟩,hg4⟩
    ·have hre:r = false:=by
      have h:=HAP.out false (by rw [HHE.out,HF.out,hn];rfl)
      rw [← h];simp
     have HRE:=jh hre
     have HG4:=jh (gTq HG3.out hg4)
     clear hre hn hg4
     go_wp2_with fail
     go_ret
     exact Lf.retb HRE.out.symm HG4.out
    ·have hb4:=(hg4.block _ (Array.getElem?_eq_some_iff.1 HB3.out).1 (by simp)).trans HB3.out
     have HB4:=jh hb4
     obtain ⟨p0,p1,p2,p3,p4,p5,p6,p7,p8⟩:=box9 hb4
     have HG4:=jh (gTq HG3.out hg4)
     have HO4:=jh (World.ownsRow.kept HO3.out hg4 (by cases (Value.slice (some ⟨g,0,none⟩) cs'.length cap).ownBlock <;> simp))
     have HV4:=jh (World.ownsRow.kept HV3.out hg4 (by cases u5.ownBlock <;> simp))
     obtain ⟨hpl,hpn⟩:=parts_left hn
     have hdl:=hc.len
     have hvl:=vlength_le x2.args
     have hve:=vsize_eq x2
     have hxx:=HX2.out
     have hlen9:cs'.length + ds.length <= 50000000:=by omega
     have hW4:W.heap.size <= w4.heap.size:=HG4.out.size
     have HHL:Hid (hasP (T2,x2) = (l.all hasP && (!decide (T2.t = 13) || risesF x2.args))):=by
      show _ = _
      rw [HHE.out,HF.out,hn];rfl
     have HLF:=jh (parts_formed HFM.out HF.out hn)
     have HDS:=jh ho
     have HC:=jh hc
     have HN:Hid (leftP C' + leftP l < μ (u5,.slice (some ⟨g,0,none⟩) (cs'.length + 1) cap,wr) /\ M.length + 1 + (leftP C' + leftP l) <= x.size):=by
      have h1:=HLE.out
      have h2:=HNN.out
      refine ⟨by omega,by omega⟩
     have HFO:Hid (∀ p ∈ C' ++ l,∃ d,fBq d p.1 = true):=fun p hp=>by
      rcases List.mem_append.1 hp with hp | hp
      ·exact HFORM.out p (by simp [hp])
      ·exact HLF.out p hp
     clear ho hc hn hg4 hb4 hve hxx hpl hvl m0 m1 m2 m3 m4 m5 m6 m7 m8
     by_cases h13:T2.t = 13
     ·have hul:us.length <= 50000000:=by have:=HN.out.2;have:=HMO.out.len;omega
      have HROW:Hid (∃ a c V,(Value.slice aa2 x2.args.length ac2) = .slice a x2.args.length c /\ RowVa (fun _=>True) w x2.args a V /\ vsizes x2.args <= 20000000):=⟨aa2,ac2,_,rfl,HRV2.out,by have:=HX2.out;have:=vsize_eq x2;omega⟩
      have HNX:Hid (∀ v5 w5 v' w',OwnsV W.heap.size w5 v5 (us ++ [.slice aa2 x2.args.length ac2]) -> Gr w4 u5 w5 v5 -> OwnsK W.heap.size w' v' (cs' ++ ds) -> Gr w5 (.slice (some ⟨g,0,none⟩) cs'.length cap) w' v' -> ∃ m,m < μ (u5,.slice (some ⟨g,0,none⟩) (cs'.length + 1) cap,wr) /\ HRel w W T x m v5 v' w'):=fun v5 w5 v' w' k1 k2 h1 h2=>by
       have hO5:=World.ownsRow.kept HO4.out k2.1 (own_apart HV4.out HO4.out (by decide))
       refine ⟨leftP (C' ++ l),by rw [leftP_append];exact HN.out.1,C' ++ l,cs' ++ ds,M ++ [x2.args],us ++ [Value.slice aa2 x2.args.length ac2],h1,ClaimsOk.append HCO.out HC.out,(show OwnsV W.heap.size w' v5 (us ++ [Value.slice aa2 x2.args.length ac2]) from World.ownsRow.kept (show w5.ownsRow W.heap.size 26 1 v5 _ _ from k1) h2.1 (own_apart hO5 (show w5.ownsRow W.heap.size 26 1 v5 _ _ from k1) (by decide))),MapsOk.snoc HROW.out HMO.out,?_,HFO.out,rfl,?_,grow_own (grow_own HG4.out HV4.out (Nat.le_refl _) k2.1) hO5 (Nat.le_refl _) h2.1⟩
       ·have h:=HAP.out _ HHL.out
        rw [HR.out,← h,List.all_append,List.all_append]
        simp [h13,Bool.and_assoc,Bool.and_comm,Bool.and_left_comm]
       ·have:=HN.out.2
        rw [leftP_append,List.length_append,List.length_singleton];omega
      have HKK:Hid (∀ v5 w5,Gr w4 u5 w5 v5 -> OwnsK W.heap.size w5 (.slice (some ⟨g,0,none⟩) cs'.length cap) cs' /\ SrcAt w5 cv ds.length (flatC ds) /\ W.heap.size <= w5.heap.size):=fun v5 w5 k2 =>
       ⟨World.ownsRow.kept HO4.out k2.1 (own_apart HV4.out HO4.out (by decide)),own_src (World.ownsRow.kept HDS.out k2.1 (own_apart HV4.out HDS.out (by decide))),Nat.le_trans hW4 k2.1.size⟩
      have h13c:(T2.t == 13) = true:=by simpa using h13
      clear h13
      go_wp2_with (first
       | (at_builtin;refine appV W.heap.size us aa2 x2.args.length ac2 w4 u5 rfl (.tmp 51) (.tmp 55) rfl rfl rfl rfl HV4.out hW4 hul ?_;intro v5 w5 ho5 hg5;have HV5:=jh ho5;have HGr5:=jh hg5;obtain ⟨hk1,hk2,hk3⟩:=HKK.out v5 w5 hg5;have HK1:=jh hk1;have HK2:=jh hk2;clear ho5 hg5 hk1 hk2)
       | (at_builtin;refine appK W.heap.size w (C:=C') (D:=l) (cs:=cs') (ds:=ds) _ (.slice (some ⟨g,0,none⟩) cs'.length cap) cv rfl (.tmp 57) (.tmp 58) rfl rfl rfl HK2.out HC.out HK1.out (by assumption) hlen9 ?_;intro v' w6 ho' hg';have HX6:=jh (HNX.out _ _ v' w6 HV5.out HGr5.out ho' hg');clear ho' hg'))
      obtain ⟨m,h1,h2⟩:=HX6.out
      go_roundw
      case rel=>exact ⟨m,h2⟩
      case measure=>exact Nat.lt_of_le_of_lt (HM.out _ m h2).2 h1
     ·have h13b:(T2.t == 13) = false:=by simpa using h13
      have HNX:Hid (∀ v' w',OwnsK W.heap.size w' v' (cs' ++ ds) -> Gr w4 (.slice (some ⟨g,0,none⟩) cs'.length cap) w' v' -> ∃ m,m < μ (u5,.slice (some ⟨g,0,none⟩) (cs'.length + 1) cap,wr) /\ HRel w W T x m u5 v' w'):=fun v' w' h1 h2=>by
       refine ⟨leftP (C' ++ l),by rw [leftP_append];exact HN.out.1,C' ++ l,cs' ++ ds,M,us,h1,ClaimsOk.append HCO.out HC.out,World.ownsRow.kept HV4.out h2.1 (own_apart HO4.out HV4.out (by decide)),HMO.out,?_,HFO.out,rfl,?_,grow_own HG4.out HO4.out (Nat.le_refl _) h2.1⟩
       ·have h:=HAP.out _ HHL.out
        rw [HR.out,← h,List.all_append]
        simp [h13,Bool.and_assoc]
       ·have:=HN.out.2
        rw [leftP_append];omega
      clear h13
      go_wp2_with (at_builtin;refine appK W.heap.size w (C:=C') (D:=l) (cs:=cs') (ds:=ds) w4 (.slice (some ⟨g,0,none⟩) cs'.length cap) cv rfl (.tmp 57) (.tmp 58) rfl rfl rfl (own_src HDS.out) HC.out HO4.out hW4 hlen9 ?_;intro v' w6 ho' hg';have HX6:=jh (HNX.out v' w6 ho' hg');clear ho' hg')
      obtain ⟨m,h1,h2⟩:=HX6.out
      go_roundw
      case rel=>exact ⟨m,h2⟩
      case measure=>exact Nat.lt_of_le_of_lt (HM.out _ m h2).2 h1
theorem has_no {w:World} {T:Ty} {x:Va} {u v:Value} (hT:LiesT (fun _=>True) w T u) (hV:LiesV (fun _=>True) w x v) (hgd:gYq T = false) (W:World) (hW:w.grownBy W none) :
 Calls Tryz.prog 31 #[u,v] W fun e w'=>e = .returned (.bool false) /\ W.grownBy w' none:=by
 obtain ⟨k1,n1,a1,s1,aa1,al1,ac1,ta1,tl1,tc1,na1,nl1,nc1,rfl⟩:=hV.vaV
 have HG:Hid (∀ W2,W.grownBy W2 none -> Calls Tryz.prog 37 #[u] W2 fun e w'=>e = .returned (.bool false) /\ W2.grownBy w' none):=fun W2 h2=>by
  have:=kgood_any (LiesT.up hT (gTq hW h2));rw [hgd] at this;exact this
 obtain ⟨a,c,V,rfl,it,hRT⟩:=hT.inv
 clear hT hV hW hgd hRT it
 unfold tyV vaV at *
 go_enter Tryz.func31,Tryz.ntmps31
 go_wp2_with fail
 refine (HG.out _ (gTq (gBq _) (gBq _))).mono ?_;rintro e w1 ⟨rfl,hg1⟩
 have HG1:=jh (gTq (gTq (gBq _) (gBq _)) hg1)
 clear hg1
 go_wp2_with fail
 go_ret
 exact ⟨rfl,HG1.out⟩
theorem has_any {w:World} {T:Ty} {x:Va} {u v:Value} (hT:LiesT (fun _=>True) w T u) (hV:LiesV (fun _=>True) w x v) (hz:x.size <= 20000000) (W:World) (hW:w.grownBy W none) :
 Calls Tryz.prog 31 #[u,v] W fun e w'=>e = .returned (.bool (hasF T x)) /\ W.grownBy w' none:=by
 unfold hasF
 cases hgd:gYq T with
 | true=>rw [Bool.true_and];exact has_yes hT hV hz hgd W hW
 | false=>rw [Bool.false_and];exact has_no hT hV hgd W hW
theorem new_2of3 (w:World) (o1 o2 o3:Obj):(((w.alloc o1).alloc o2).alloc o3).heap[w.heap.size + 1]? = some o2:=by
 have h:=rNw (w.alloc o1) o2 o3
 rwa [show (w.alloc o1).heap.size = w.heap.size + 1 from by simp] at h
theorem new_3of3 (w:World) (o1 o2 o3:Obj):(((w.alloc o1).alloc o2).alloc o3).heap[w.heap.size + 1 + 1]? = some o3:=by
 have h:=heap_alloc_new ((w.alloc o1).alloc o2) o3
 rwa [show ((w.alloc o1).alloc o2).heap.size = w.heap.size + 1 + 1 from by simp] at h
def set7 (w:World) (g:Nat) (y0 y1 y2 y3 y4 y5 y6:Value):World:=((((((w.setCell ⟨g,0,none⟩ y0).setCell ⟨g,1,none⟩ y1).setCell ⟨g,2,none⟩ y2).setCell ⟨g,3,none⟩ y3).setCell ⟨g,4,none⟩ y4).setCell ⟨g,5,none⟩ y5).setCell ⟨g,6,none⟩ y6
theorem set7_block {w:World} {g:Nat} {T:TypeId} {x0 x1 x2 x3 x4 x5 x6:Value} (h:w.heap[g]? = some (.cells #[x0,x1,x2,x3,x4,x5,x6] T (0,0))) (y0 y1 y2 y3 y4 y5 y6:Value) :
 (set7 w g y0 y1 y2 y3 y4 y5 y6).heap[g]? = some (.cells #[y0,y1,y2,y3,y4,y5,y6] T (0,0)):=by
 simp [set7,World.setCell,Array.getElem?_modify,h]
theorem set7_grow (w:World) (g:Nat) (y0 y1 y2 y3 y4 y5 y6:Value):w.grownBy (set7 w g y0 y1 y2 y3 y4 y5 y6) (some g) :=
 gSq (gSq (gSq (gSq (gSq (gSq (gSq (gRf _ _) _ _ _) _ _ _) _ _ _) _ _ _) _ _ _) _ _ _) _ _ _
theorem free7 {w:World} {g:Nat} {T:TypeId} {x0 x1 x2 x3 x4 x5 x6:Value} (h:w.heap[g]? = some (.cells #[x0,x1,x2,x3,x4,x5,x6] T (0,0))):∀ o,w.frozen? ⟨g,o,none⟩ = false:=by intro o;simp [World.frozen?,h]
end Go.Proofs.YtkglnoimbekhhaaGreat
