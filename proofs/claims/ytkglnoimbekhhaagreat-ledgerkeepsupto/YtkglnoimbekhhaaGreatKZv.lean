import Derived.Test.YtkglnoimbekhhaaGreatKZb
import Derived.Test.YtkglnoimbekhhaaGreatKZt
import Derived.OwnWalk
import Derived.Test.YtkglnoimbekhhaaGreatKZc
import Derived.Deep.RegionHeld3
import Derived.Deep.DeepCutAuto
import Derived.Deep.RegionWith
namespace Go.Proofs.YtkglnoimbekhhaaGreat
set_option maxRecDepth 100000
set_option maxHeartbeats 4000000
open Go.ChangeShapes Go.WideShapes Go.ChangeAt Go.RowKit
set_option linter.unusedVariables false
theorem br_unit (a:Option Addr) (l c:Nat) (W:World):Calls Tryz.prog 134 #[tyV 1 a l c,.int .i64 20] W fun e w'=>e = .returned (.tuple #[.int .i64 0,.slice none 0 0,.bool true]) /\ W.grownBy w' none:=by
 unfold tyV
 go_enter Tryz.func134,Tryz.ntmps134
 go_wp2_with fail
 go_ret3
 exact ⟨rfl,gBq _⟩
theorem br_false (a:Option Addr) (l c:Nat) (W:World):Calls Tryz.prog 134 #[tyV 2 a l c,.int .i64 22] W fun e w'=>e = .returned (.tuple #[.int .i64 0,.slice none 0 0,.bool true]) /\ W.grownBy w' none:=by
 unfold tyV
 go_enter Tryz.func134,Tryz.ntmps134
 go_wp2_with fail
 go_ret3
 exact ⟨rfl,gBq _⟩
theorem br_true (a:Option Addr) (l c:Nat) (W:World):Calls Tryz.prog 134 #[tyV 2 a l c,.int .i64 21] W fun e w'=>e = .returned (.tuple #[.int .i64 1,.slice none 0 0,.bool true]) /\ W.grownBy w' none:=by
 unfold tyV
 go_enter Tryz.func134,Tryz.ntmps134
 go_wp2_with fail
 go_ret3
 exact ⟨rfl,gBq _⟩
theorem br_none (a:Option Addr) (l c:Nat) (W:World):Calls Tryz.prog 134 #[tyV 9 a l c,.int .i64 27] W fun e w'=>e = .returned (.tuple #[.int .i64 0,.slice none 0 0,.bool true]) /\ W.grownBy w' none:=by
 unfold tyV
 go_enter Tryz.func134,Tryz.ntmps134
 go_wp2_with fail
 go_ret3
 exact ⟨rfl,gBq _⟩
theorem br_some (a:Option Addr) (l c:Nat) (W:World):Calls Tryz.prog 134 #[tyV 9 a l c,.int .i64 26] W fun e w'=>e = .returned (.tuple #[.int .i64 0,.slice a l c,.bool true]) /\ W.grownBy w' none:=by
 unfold tyV
 go_enter Tryz.func134,Tryz.ntmps134
 go_wp2_with fail
 go_quiet (fail)
 go_wp2_with fail
 go_ret3
 exact ⟨rfl,grow_drewN (gBq _)⟩
theorem br_pair (a:Option Addr) (l c:Nat) (W:World):Calls Tryz.prog 134 #[tyV 11 a l c,.int .i64 23] W fun e w'=>e = .returned (.tuple #[.int .i64 0,.slice a l c,.bool true]) /\ W.grownBy w' none:=by
 unfold tyV
 go_enter Tryz.func134,Tryz.ntmps134
 go_wp2_with fail
 go_quiet (fail)
 go_wp2_with fail
 go_ret3
 exact ⟨rfl,grow_drewN (gBq _)⟩
theorem br_left (b o c:Nat) (hc:2 <= c) (W:World):Calls Tryz.prog 134 #[tyV 12 (some ⟨b,o,none⟩) 2 c,.int .i64 24] W fun e w'=>e = .returned (.tuple #[.int .i64 0,.slice (some ⟨b,o,none⟩) 1 c,.bool true]) /\ W.grownBy w' none:=by
 have hc1:1 <= c:=by omega
 unfold tyV
 go_enter Tryz.func134,Tryz.ntmps134
 go_wp2_with fail
 go_quiet (fail)
 go_wp2_with fail
 go_ret3
 exact ⟨rfl,grow_drewN (gBq _)⟩
theorem br_right (b o c:Nat) (hc:2 <= c) (W:World):Calls Tryz.prog 134 #[tyV 12 (some ⟨b,o,none⟩) 2 c,.int .i64 25] W fun e w'=>e = .returned (.tuple #[.int .i64 1,.slice (some ⟨b,o + 2,none⟩) 1 (c - 1),.bool true]) /\ W.grownBy w' none:=by
 have hc1:1 <= c:=by omega
 unfold tyV
 go_enter Tryz.func134,Tryz.ntmps134
 go_wp2_with fail
 go_quiet (fail)
 go_wp2_with fail
 go_ret3
 exact ⟨rfl,grow_drewN (gBq _)⟩
theorem br_no1 (a:Option Addr) (l c:Nat) (W:World) (p:Int) (h20:p ≠ 20):Calls Tryz.prog 134 #[tyV 1 a l c,.int .i64 p] W fun e w'=>e = .returned (.tuple #[.int .i64 0,.slice none 0 0,.bool false]) /\ W.grownBy w' none:=by
 have b20:(p == 20) = false:=by simpa using h20
 clear h20
 unfold tyV
 go_enter Tryz.func134,Tryz.ntmps134
 go_wp2_with fail
 go_ret3
 exact ⟨rfl,gBq _⟩
theorem br_no2 (a:Option Addr) (l c:Nat) (W:World) (p:Int) (h21:p ≠ 21) (h22:p ≠ 22):Calls Tryz.prog 134 #[tyV 2 a l c,.int .i64 p] W fun e w'=>e = .returned (.tuple #[.int .i64 0,.slice none 0 0,.bool false]) /\ W.grownBy w' none:=by
 have b21:(p == 21) = false:=by simpa using h21
 have b22:(p == 22) = false:=by simpa using h22
 clear h21 h22
 unfold tyV
 go_enter Tryz.func134,Tryz.ntmps134
 go_wp2_with fail
 go_ret3
 exact ⟨rfl,gBq _⟩
theorem br_no9 (a:Option Addr) (l c:Nat) (W:World) (p:Int) (h26:p ≠ 26) (h27:p ≠ 27):Calls Tryz.prog 134 #[tyV 9 a l c,.int .i64 p] W fun e w'=>e = .returned (.tuple #[.int .i64 0,.slice none 0 0,.bool false]) /\ W.grownBy w' none:=by
 have b26:(p == 26) = false:=by simpa using h26
 have b27:(p == 27) = false:=by simpa using h27
 clear h26 h27
 unfold tyV
 go_enter Tryz.func134,Tryz.ntmps134
 go_wp2_with fail
 go_ret3
 exact ⟨rfl,gBq _⟩
theorem br_no11 (a:Option Addr) (l c:Nat) (W:World) (p:Int) (h23:p ≠ 23):Calls Tryz.prog 134 #[tyV 11 a l c,.int .i64 p] W fun e w'=>e = .returned (.tuple #[.int .i64 0,.slice none 0 0,.bool false]) /\ W.grownBy w' none:=by
 have b23:(p == 23) = false:=by simpa using h23
 clear h23
 unfold tyV
 go_enter Tryz.func134,Tryz.ntmps134
 go_wp2_with fail
 go_ret3
 exact ⟨rfl,gBq _⟩
theorem br_no12 (a:Option Addr) (l c:Nat) (W:World) (p:Int) (h24:p ≠ 24) (h25:p ≠ 25):Calls Tryz.prog 134 #[tyV 12 a l c,.int .i64 p] W fun e w'=>e = .returned (.tuple #[.int .i64 0,.slice none 0 0,.bool false]) /\ W.grownBy w' none:=by
 have b24:(p == 24) = false:=by simpa using h24
 have b25:(p == 25) = false:=by simpa using h25
 clear h24 h25
 unfold tyV
 go_enter Tryz.func134,Tryz.ntmps134
 go_wp2_with fail
 go_ret3
 exact ⟨rfl,gBq _⟩
theorem br_no (a:Option Addr) (l c:Nat) (W:World) (t p:Int) (h1:t ≠ 1) (h2:t ≠ 2) (h9:t ≠ 9) (h11:t ≠ 11) (h12:t ≠ 12):Calls Tryz.prog 134 #[tyV t a l c,.int .i64 p] W fun e w'=>e = .returned (.tuple #[.int .i64 0,.slice none 0 0,.bool false]) /\ W.grownBy w' none:=by
 have b1:(t == 1) = false:=by simpa using h1
 have b2:(t == 2) = false:=by simpa using h2
 have b9:(t == 9) = false:=by simpa using h9
 have b11:(t == 11) = false:=by simpa using h11
 have b12:(t == 12) = false:=by simpa using h12
 clear h1 h2 h9 h11 h12
 unfold tyV
 go_enter Tryz.func134,Tryz.ntmps134
 go_wp2_with fail
 go_ret3
 exact ⟨rfl,gBq _⟩
def BranchPost (ok:Nat -> Prop) (T:Ty) (p:Int) (W:World) (e:Ending) (w':World):Prop :=
 W.grownBy w' none /\ ((branchF T p = none /\ e = .returned (.tuple #[.int .i64 0,.slice none 0 0,.bool false])) \/
  ∃ m ts ta tc V,branchF T p = some (m,ts) /\ e = .returned (.tuple #[.int .i64 m,.slice ta ts.length tc,.bool true]) /\ I64 m /\ RowT ok W ts ta V /\ (∃ d,∀ U ∈ ts,fBq d U = true) /\ ts.length <= 2)
theorem branch_any {ok:Nat -> Prop} {W:World} {T:Ty} {tv:Value} (hT:LiesT ok W T tv) {d:Nat} (hf:fBq d T = true) (p:Int):Calls Tryz.prog 134 #[tv,.int .i64 p] W (BranchPost ok T p W):=by
 have hcap:=hT
 obtain ⟨a,c,V,rfl,it,hR⟩:=hT.inv
 have hcp:=hcap.cap
 obtain ⟨hlen,hfa⟩:=formed_args2 hf
 have I0:I64 0:=⟨by omega,by omega⟩
 have I1:I64 1:=⟨by omega,by omega⟩
 obtain ⟨t,args⟩:=T
 simp only [Ty.t,Ty.args] at *
 have hno:branchF (.nd t args) p = none -> (Calls Tryz.prog 134 #[tyV t a args.length c,.int .i64 p] W fun e w'=>e = .returned (.tuple #[.int .i64 0,.slice none 0 0,.bool false]) /\ W.grownBy w' none) -> Calls Tryz.prog 134 #[tyV t a args.length c,.int .i64 p] W (BranchPost ok (.nd t args) p W):=fun h1 h2=>h2.mono fun e w' ⟨he,hg⟩=>⟨hg,.inl ⟨h1,he⟩⟩
 have hnil:∀ m,I64 m -> branchF (.nd t args) p = some (m,[]) -> (Calls Tryz.prog 134 #[tyV t a args.length c,.int .i64 p] W fun e w'=>e = .returned (.tuple #[.int .i64 m,.slice none 0 0,.bool true]) /\ W.grownBy w' none) -> Calls Tryz.prog 134 #[tyV t a args.length c,.int .i64 p] W (BranchPost ok (.nd t args) p W):=fun m im h1 h2=>h2.mono fun e w' ⟨he,hg⟩=>⟨hg,.inr ⟨m,[],none,0,fun _=>.int .i64 0,h1,he,im,RowT.nil _ _ _ _,⟨0,fun U hU=>by simp at hU⟩,by simp⟩⟩
 by_cases h1:t = 1
 ·subst h1
  by_cases q:p = 20
  ·subst q;exact hnil 0 I0 rfl (br_unit _ _ _ _)
  ·exact hno (by simp [branchF,Ty.t,q]) (br_no1 _ _ _ _ _ q)
 by_cases h2:t = 2
 ·subst h2
  by_cases q:p = 22
  ·subst q;exact hnil 0 I0 rfl (br_false _ _ _ _)
  by_cases q2:p = 21
  ·subst q2;exact hnil 1 I1 rfl (br_true _ _ _ _)
  exact hno (by simp [branchF,Ty.t,q,q2]) (br_no2 _ _ _ _ _ q2 q)
 by_cases h9:t = 9
 ·subst h9
  by_cases q:p = 27
  ·subst q;exact hnil 0 I0 rfl (br_none _ _ _ _)
  by_cases q2:p = 26
  ·subst q2
   have hl1:args.length = 1:=by simp [partsF] at hlen;omega
   exact (br_some _ _ _ _).mono fun e w' ⟨he,hg⟩=>⟨hg,.inr ⟨0,args,a,c,V,rfl,he,I0,hR,⟨_,hfa⟩,by omega⟩⟩
  exact hno (by simp [branchF,Ty.t,q,q2]) (br_no9 _ _ _ _ _ q2 q)
 by_cases h11:t = 11
 ·subst h11
  by_cases q:p = 23
  ·subst q
   have hl2:args.length = 2:=by simp [partsF] at hlen;omega
   exact (br_pair _ _ _ _).mono fun e w' ⟨he,hg⟩=>⟨hg,.inr ⟨0,args,a,c,V,rfl,he,I0,hR,⟨_,hfa⟩,by omega⟩⟩
  exact hno (by simp [branchF,Ty.t,q]) (br_no11 _ _ _ _ _ q)
 by_cases h12:t = 12
 ·subst h12
  have hl2:args.length = 2:=by simp [partsF] at hlen;omega
  obtain ⟨A,B,rfl⟩:∃ A B,args = [A,B]:=by
   match args,hl2 with
   | [A,B],_=>exact ⟨A,B,rfl⟩
  obtain ⟨b,o,rfl,_,t0,a0,l0,c0,hv0,e0,e1⟩:=hR.2.1 0 (by simp)
  obtain ⟨b',o',hbo,hok1,t1,a1,l1,c1,hv1,e2,e3⟩:=hR.2.1 1 (by simp)
  simp only [Option.some.injEq,Addr.mk.injEq,and_true] at hbo
  obtain ⟨rfl,rfl⟩:=hbo
  simp only [List.length_cons,List.length_nil] at hcp
  by_cases q:p = 24
  ·subst q
   refine (br_left b o c (by omega) W).mono fun e w' ⟨he,hg⟩=>⟨hg,.inr ⟨0,[A],some ⟨b,o,none⟩,c,V,rfl,he,I0,⟨by simp [maxLen],fun i hi=>?_,fun i hi=>?_⟩,⟨d + 1,fun U hU=>hfa U (by simp at hU;simp [hU])⟩,by simp⟩⟩
   ·obtain rfl:i = 0:=by simp at hi;omega
    exact hR.2.1 0 (by simp)
   ·obtain rfl:i = 0:=by simp at hi;omega
    exact hR.2.2 0 (by simp)
  by_cases q2:p = 25
  ·subst q2
   refine (br_right b o c (by omega) W).mono fun e w' ⟨he,hg⟩=>⟨hg,.inr ⟨1,[B],some ⟨b,o + 2,none⟩,c - 1,fun i=>V (i + 1),rfl,he,I1,⟨by simp [maxLen],fun i hi=>?_,fun i hi=>?_⟩,⟨d + 1,fun U hU=>hfa U (by simp at hU;simp [hU])⟩,by simp⟩⟩
   ·obtain rfl:i = 0:=by simp at hi;omega
    exact ⟨b,o + 2,rfl,hok1,t1,a1,l1,c1,hv1,by simpa using e2,by simpa using e3⟩
   ·obtain rfl:i = 0:=by simp at hi;omega
    exact hR.2.2 1 (by simp)
  exact hno (by simp [branchF,Ty.t,q,q2]) (br_no12 _ _ _ _ _ q q2)
 exact hno (by simp [branchF,Ty.t,h1,h2,h9,h11,h12]) (br_no _ _ _ _ _ _ h1 h2 h9 h11 h12)
def ReadPost (t:Tr) (T:Ty) (W:World) (e:Ending) (w':World):Prop :=
 W.grownBy w' none /\ ∃ k n a s aa al ac ta tl tc na nl nc bb,e = .returned (.tuple #[vaV k n a s aa al ac ta tl tc na nl nc,.bool bb]) /\
  (bb = true -> ∃ x,readT t T = some x /\ LiesV (W.heap.size <= ·) w' x (vaV k n a s aa al ac ta tl tc na nl nc)) /\ (bb = false -> readT t T = none)
def ReadN (N:Nat):Prop:=∀ (t:Tr) (T:Ty) (u tv:Value) (W:World) (d:Nat),t.size <= N -> t.size <= 900 -> Lies (fun _=>True) W t u -> LiesT (fun _=>True) W T tv -> fBq d T = true -> Calls Tryz.prog 128 #[tv,u] W (ReadPost t T W)
def EachPost (r:Option (List Va)) (W:World) (e:Ending) (w':World):Prop :=
 W.grownBy w' none /\ ((∃ xs,r = some xs /\ ∃ a c V,e = .returned (.tuple #[.slice a xs.length c,.bool true]) /\ xs.length <= c /\ RowVa (W.heap.size <= ·) w' xs a V) \/ (r = none /\ e = .returned (.tuple #[.slice none 0 0,.bool false])))
theorem readTs_len:∀ (l:List Tr) (ts:List Ty),l.length ≠ ts.length -> readTs l ts = none
 | [],[],h=>by simp at h
 | [],_ :: _,_=>by simp [readTs]
 | _ :: _,[],_=>by simp [readTs]
 | t :: l,T :: ts,h=>by
  rw [readTs]
  cases readT t T with
  | none=>rfl
  | some x=>simp [readTs_len l ts (by simpa using h)]
theorem ListOkV.slice {H:Nat} {w:World} {v:Value} {ts:List Va} {vs:List Value} (h:ListOkV H w v ts vs):∃ la lc,v = .slice la vs.length lc:=by
 rcases h.own.2 with ⟨rfl,h0⟩ | ⟨g,cap,cur,rfl,_⟩
 ·exact ⟨none,0,by rw [h0]⟩
 ·exact ⟨_,_,rfl⟩
theorem ListOkV.call {H:Nat} {w w':World} {v:Value} {ts:List Va} {vs:List Value} (h:ListOkV H w v ts vs) (hg:w.grownBy w' none):ListOkV H w' v ts vs:=by
 refine ⟨World.ownsRow.kept h.own hg ?_,h.len,fun i t u ht hu=>(h.lies i t u ht hu).same (fun b o _ hlt=>World.cell?_of_block (hg.block b hlt (by simp)))⟩
 cases v.ownBlock <;> simp
theorem grow_set7New {w0 w:World} {b:Nat} {v0 v1 v2 v3 v4 v5 v6:Value} (h:w0.grownBy w none) (hb:w0.heap.size <= b):w0.grownBy (((((((w.setCell ⟨b,0,none⟩ v0).setCell ⟨b,1,none⟩ v1).setCell ⟨b,2,none⟩ v2).setCell ⟨b,3,none⟩ v3).setCell ⟨b,4,none⟩ v4).setCell ⟨b,5,none⟩ v5).setCell ⟨b,6,none⟩ v6) none :=
 grow_setNew (grow_setNew (grow_setNew (grow_setNew (grow_setNew (grow_setNew (grow_setNew h hb _ _ _) hb _ _ _) hb _ _ _) hb _ _ _) hb _ _ _) hb _ _ _) hb _ _ _
def RdCut (t:Tr) (T:Ty) (wr:World) (p q:Value) (wx:World):Prop :=
 ∃ b9 k n a s aa al ac ta tl tc na nl nc bb,p = .pointer (some ⟨b9,0,none⟩) /\ q = .bool bb /\ wx.heap[b9]? = some (.cells #[.int .i64 k,.int .i64 n,.int .i64 a,.string s,.slice aa al ac,.slice ta tl tc,.slice na nl nc] 28 (0,0)) /\ wr.grownBy wx none /\
  (bb = true -> ∃ x,readT t T = some x /\ LiesV (wr.heap.size <= ·) wx x (vaV k n a s aa al ac ta tl tc na nl nc)) /\ (bb = false -> readT t T = none)
theorem rdCut_one {t:Tr} {T:Ty} {wr w5 w2:World} {k n a:Int} {s:ByteArray} {aa:Option Addr} {al ac:Nat} {ta:Option Addr} {tl tc:Nat} {na:Option Addr} {nl nc:Nat} {bb:Bool} (h5:wr.grownBy w5 none) (hg:w5.drew.grownBy w2 none)
 (h1:bb = true -> ∃ x,readT t T = some x /\ LiesV (w5.drew.heap.size <= ·) w2 x (vaV k n a s aa al ac ta tl tc na nl nc)) (h2:bb = false -> readT t T = none) :
 RdCut t T wr (.pointer (some ⟨w2.heap.size,0,none⟩)) (.bool bb) (w2.alloc (.cells #[.int .i64 k,.int .i64 n,.int .i64 a,.string s,.slice aa al ac,.slice ta tl tc,.slice na nl nc] 28)):=by
 refine ⟨_,k,n,a,s,aa,al,ac,ta,tl,tc,na,nl,nc,bb,rfl,rfl,heap_alloc_new _ _,gTq (gTq (gDr h5) hg) (gBq _),fun hb=>?_,h2⟩
 obtain ⟨x,e,hL⟩:=h1 hb
 refine ⟨x,e,(hL.same (fun b o _ hlt=>World.cell?_of_block ((gBq (w:=w2) _).block b hlt (by simp)))).okMono (fun b _ h=>?_)⟩
 have : w5.heap.size <= b:=h
 have:=h5.size
 omega
theorem rdCut_two {t:Tr} {T:Ty} {wr w5 w2:World} {o:Obj} {k n a:Int} {s:ByteArray} {aa:Option Addr} {al ac:Nat} {ta:Option Addr} {tl tc:Nat} {na:Option Addr} {nl nc:Nat} {bb:Bool} {x0 x1 x2 x3 x4 x5 x6:Value} (h5:wr.grownBy w5 none) (hg:(w5.drew.alloc o).grownBy w2 none) (hb:w2.heap[w5.heap.size]? = some (.cells #[x0,x1,x2,x3,x4,x5,x6] 28 (0,0)))
 (h1:bb = true -> ∃ x,readT t T = some x /\ LiesV ((w5.drew.alloc o).heap.size <= ·) w2 x (vaV k n a s aa al ac ta tl tc na nl nc)) (h2:bb = false -> readT t T = none) :
 RdCut t T wr (.pointer (some ⟨w5.heap.size,0,none⟩)) (.bool bb) (set7 w2 w5.heap.size (.int .i64 k) (.int .i64 n) (.int .i64 a) (.string s) (.slice aa al ac) (.slice ta tl tc) (.slice na nl nc)):=by
 have hgs:=set7_grow w2 w5.heap.size (.int .i64 k) (.int .i64 n) (.int .i64 a) (.string s) (.slice aa al ac) (.slice ta tl tc) (.slice na nl nc)
 refine ⟨_,k,n,a,s,aa,al,ac,ta,tl,tc,na,nl,nc,bb,rfl,rfl,set7_block hb _ _ _ _ _ _ _,grow_new (gTq (gTq (gDr h5) (gBq _)) hg) hgs h5.size,fun hbb=>?_,h2⟩
 obtain ⟨x,e,hL⟩:=h1 hbb
 have hz:(w5.drew.alloc o).heap.size = w5.heap.size + 1:=World.size_alloc _ _
 rw [hz] at hL
 refine ⟨x,e,(hL.same (fun b o hb hlt=>World.cell?_of_block (hgs.block b hlt (by simp;have : w5.heap.size + 1 <= b:=hb;omega)))).okMono (fun b _ h=>?_)⟩
 have : w5.heap.size + 1 <= b:=h
 have:=h5.size
 omega
theorem readEach_any {N:Nat} (hN0:ReadN N) {W:World} {l:List Tr} {ts:List Ty} {la ta:Option Addr} {lc tc:Nat} {VL VT:Nat -> Value} {d:Nat} (hL:RowN (fun _=>True) W l la VL) (hT:RowT (fun _=>True) W ts ta VT) (hf:∀ U ∈ ts,fBq d U = true) (hz:sizes l <= N) (hz9:sizes l <= 900) :
 Calls Tryz.prog 132 #[.slice la l.length lc,.slice ta ts.length tc] W (EachPost (readTs l ts) W):=by
 have hll:=length_le_sizes l
 have htm:=hT.1
 unfold maxLen at htm
 by_cases hlen:l.length = ts.length
 ·have HIH:Hid (∀ (j:Nat) (h:j < l.length) (h2:j < ts.length) (W2:World),W.grownBy W2 none -> Calls Tryz.prog 128 #[VT j,VL j] W2 (ReadPost l[j] ts[j] W2)):=fun j h h2 W2 hg=>by
   have h3:(l[j]).size <= sizes l:=by
    have h4:=sizes_take_succ l j h
    have h5:=sizes_take_le l (j + 1)
    omega
   exact hN0 _ _ _ _ W2 d (by omega) (by omega) ((hL.2.2 j h).same (sAl hg)) ((hT.2.2 j h2).same (sAl hg)) (hf _ (List.getElem_mem h2))
  have HL:=jh hL
  have HT:=jh hT
  have HLEN:=jh hlen
  clear hN0 hL hT hf hz
  rw [← hlen]
  clear hlen
  have HGV:=jh (growV_any l.length (by omega) W)
  go_enter Tryz.func132,Tryz.ntmps132
  go_wp2_with fail
  refine HGV.out.mono ?_;rintro e w1 ⟨cv0,rfl,hown0,hg0⟩
  have HO0:=jh hown0
  have HG0:=jh hg0
  clear hown0 hg0 HGV
  go_wp2_with fail
  go_loopw [6,21] (fun lv iv wr=>∃ (xs:List Va) (vs:List Value),iv = .int .i64 vs.length /\ vs.length <= l.length /\ ListOkV W.heap.size wr lv xs vs /\ W.grownBy wr none /\ readTs l ts = (readTs (l.drop vs.length) (ts.drop vs.length)).map (xs ++ ·)) (fun _ iv _=>l.length - (intOf iv).toNat)
  case atStart=>exact ⟨[],[],rfl,Nat.zero_le _,⟨HO0.out,rfl,fun i t u h=>by simp at h⟩,HG0.out,by simp⟩
  case round =>
   obtain ⟨xs,vs,rfl,hj,hK,hg,hr⟩:=hrel
   obtain ⟨ra,rc,rfl⟩:=hK.slice
   have hxl:=hK.len
   by_cases hlt:vs.length < l.length
   ·have hlt2:vs.length < ts.length:=by have:=HLEN.out;omega
    obtain ⟨b,o,rfl,_,k',n',p',s',a',l',c',hv,h0,h1,h2,h3,h4⟩:=(HL.out.2.1 vs.length hlt).same (w':=wr) (sAl hg)
    obtain ⟨b2,o2,rfl,_,t2,a2,l2,c2,hv2,e0,e1⟩:=(HT.out.2.1 vs.length hlt2).same (w':=wr) (sAl hg)
    have hbl:b < wr.heap.size:=World.block_lt_of_cell? wr _ h0
    have hbl2:b2 < wr.heap.size:=World.block_lt_of_cell? wr _ e0
    have hd1:l.drop vs.length = l[vs.length] :: l.drop (vs.length + 1):=List.drop_eq_getElem_cons hlt
    have hd2:ts.drop vs.length = ts[vs.length] :: ts.drop (vs.length + 1):=List.drop_eq_getElem_cons hlt2
    have hih:∀ W2,wr.grownBy W2 none -> Calls Tryz.prog 128 #[tyV t2 a2 l2 c2,nodeV k' n' p' s' a' l' c'] W2 (ReadPost l[vs.length] ts[vs.length] W2):=fun W2 hW2=>by
     have:=HIH.out vs.length hlt hlt2 W2 (gTq hg hW2)
     rw [hv,hv2] at this
     exact this
    have HC:=jh hih
    rw [hd1,hd2,readTs] at hr
    have HR:=jh hr
    have HK:=jh hK
    have HG:=jh hg
    have HXL:=jh hxl
    clear hih hr hd1 hd2 hK hg hv hv2 hxl
    unfold tyV nodeV at HC
    go_wp2_with fail
    have hw5:=gBq (w:=wr) (.cells #[.int .i64 k',.int .i64 n',.int .i64 p',.string s',.slice a' l' c'] 48)
    have hn5:=heap_alloc_new wr (.cells #[.int .i64 k',.int .i64 n',.int .i64 p',.string s',.slice a' l' c'] 48)
    generalize wr.alloc (.cells #[.int .i64 k',.int .i64 n',.int .i64 p',.string s',.slice a' l' c'] 48) = w5 at *
    have k1:∀ W3:World,w5.grownBy W3 none -> W3.heap[wr.heap.size]? = _:=fun W3 h=>(h.block _ (Array.getElem?_eq_some_iff.1 hn5).1 (by simp)).trans hn5
    have f0:∀ W3:World,w5.grownBy W3 none -> W3.cell? ⟨wr.heap.size,0,none⟩ = some (.int .i64 k'):=fun W3 h=>(box5 (k1 W3 h)).1
    have f1:∀ W3:World,w5.grownBy W3 none -> W3.cell? ⟨wr.heap.size,1,none⟩ = some (.int .i64 n'):=fun W3 h=>(box5 (k1 W3 h)).2.1
    have f2:∀ W3:World,w5.grownBy W3 none -> W3.cell? ⟨wr.heap.size,2,none⟩ = some (.int .i64 p'):=fun W3 h=>(box5 (k1 W3 h)).2.2.1
    have f3:∀ W3:World,w5.grownBy W3 none -> W3.cell? ⟨wr.heap.size,3,none⟩ = some (.string s'):=fun W3 h=>(box5 (k1 W3 h)).2.2.2.1
    have f4:∀ W3:World,w5.grownBy W3 none -> W3.cell? ⟨wr.heap.size,4,none⟩ = some (.slice a' l' c'):=fun W3 h=>(box5 (k1 W3 h)).2.2.2.2
    have g0:∀ W3:World,w5.grownBy W3 none -> W3.cell? ⟨b2,o2 + vs.length * 2,none⟩ = some (.int .i64 t2):=fun W3 h=>(World.cell?_of_block ((gTq hw5 h).block b2 hbl2 (by simp))).trans e0
    have g1:∀ W3:World,w5.grownBy W3 none -> W3.cell? ⟨b2,o2 + vs.length * 2 + 1,none⟩ = some (.slice a2 l2 c2):=fun W3 h=>(World.cell?_of_block ((gTq hw5 h).block b2 hbl2 (by simp))).trans e1
    have HW5:=jh hw5
    clear k1 hw5 hn5 h0 h1 h2 h3 h4 e0 e1
    go_cut [9,10] (fun p q wx=>RdCut l[vs.length] ts[vs.length] wr p q wx)
    case first =>
     go_region_held3 (fun w'=>w5.grownBy w' none) (first | with_reducible assumption | with_reducible exact grow_set7New (by assumption) (Nat.le_refl _) | with_reducible exact gTq (by assumption) (gBq _) | with_reducible exact gDr (gRf _ _) | with_reducible exact gDr (gBq _)) (first
      | (go_at_call 128;refine (HC.out _ (gTq HW5.out (by assumption))).mono ?_;rintro e w2 hpost;obtain ⟨hgp,kk,nn,aa,ss,xa,xl,xc,ya,yl,yc,za,zl,zc,bb,rfl,hpt,hpf⟩:=hpost;have HPT:=jh hpt;have HPF:=jh hpf;have HGP:=jh hgp;have hS:=gTq (by assumption) hgp;have hb9:w2.heap[w5.heap.size]? = some (.cells #[.int .i64 0,.int .i64 0,.int .i64 0,.string ⟨#[]⟩,.slice none 0 0,.slice none 0 0,.slice none 0 0] 28 (0,0)):=(hgp.block _ (by simp) (by simp)).trans (heap_alloc_new w5.drew _);obtain ⟨v0,v1,v2,v3,v4,v5,v6⟩:=box7 hb9;have fz:=free7 hb9;have HB9:=jh hb9;clear hpt hpf hgp hb9 f0 f1 f2 f3 f4 g0 g1;unfold vaV)
      | (go_at_call 128;refine (HC.out _ (gTq HW5.out (by assumption))).mono ?_;rintro e w2 hpost;obtain ⟨hgp,kk,nn,aa,ss,xa,xl,xc,ya,yl,yc,za,zl,zc,bb,rfl,hpt,hpf⟩:=hpost;have HPT:=jh hpt;have HPF:=jh hpf;have HGP:=jh hgp;have hS:=gTq (by assumption) hgp;clear hpt hpf hgp f0 f1 f2 f3 f4 g0 g1;unfold vaV))
     all_goals
      go_wp2_with fail
      go_meet
      first
      | with_reducible exact rdCut_one HW5.out HGP.out HPT.out HPF.out
      | exact rdCut_two HW5.out HGP.out HB9.out HPT.out HPF.out
    case rest =>
     obtain ⟨b9,kk,nn,aa,ss,xa,xl,xc,ya,yl,yc,za,zl,zc,bb,rfl,rfl,hb9,hgx,hpt,hpf⟩:=hcut
     obtain ⟨v0,v1,v2,v3,v4,v5,v6⟩:=box7 hb9
     cases bb with
     | false =>
      have hnone:readTs l ts = none:=by
       have h:=HR.out
       rw [hpf rfl] at h
       exact h
      have HN:=jh hnone
      have HGX:=jh (gTq HG.out hgx)
      clear hnone hgx hpt hpf hb9 f0 f1 f2 f3 f4 g0 g1 HR HC HIH
      go_wp2_with fail
      go_ret2
      exact ⟨HGX.out,.inr ⟨HN.out,rfl⟩⟩
     | true =>
      obtain ⟨x,hx,hLx⟩:=hpt rfl
      have hr2:readTs l ts = (readTs (l.drop (vs.length + 1)) (ts.drop (vs.length + 1))).map (xs ++ [x] ++ ·):=by
       have h:=HR.out
       rw [hx] at h
       rw [h]
       cases readTs (l.drop (vs.length + 1)) (ts.drop (vs.length + 1)) <;> simp
      have HR2:=jh hr2
      have HGX:=jh (gTq HG.out hgx)
      have HLX:=jh hLx
      have HKX:=jh (HK.out.call hgx)
      have HOB:Hid (∀ k,(Value.slice ra vs.length rc).ownBlock = some k -> k < wr.heap.size):=fun k hk=>(World.ownsRow.lt HK.out.own k hk).2
      have hzx:W.heap.size <= wc.heap.size:=HGX.out.size
      have hzw:W.heap.size <= wr.heap.size:=HG.out.size
      clear hr2 hLx hx hgx hpt hpf hb9 f0 f1 f2 f3 f4 g0 g1 HR HC HIH
      go_wp2_with (at_builtin;refine appVa W.heap.size vs kk nn aa ss xa xl xc ya yl yc za zl zc wc (.slice ra vs.length rc) rfl (.tmp 37) (.tmp 39) rfl rfl rfl rfl HKX.out.own hzx (by omega) ?_;intro g cap w5 ho5 hg5;have HK5:=jh (HKX.out.push (S:=wr.heap.size) hzw HOB.out HLX.out hg5 ho5);have HG5:=jh (grow_own HGX.out HKX.out.own (Nat.le_refl _) hg5.1);clear ho5 hg5)
      refine ⟨⟨xs ++ [x],vs ++ [vaV kk nn aa ss xa xl xc ya yl yc za zl zc],by simp,by simp;omega,?_,HG5.out,?_⟩,by simp [intOf];omega⟩
      ·have h:=HK5.out
       simpa using h
      ·have h:=HR2.out
       simpa using h
   ·have hje:vs.length = l.length:=by omega
    have hend:readTs l ts = some xs:=by
     have h2:=HLEN.out
     rw [hr,List.drop_of_length_le (by omega),List.drop_of_length_le (by omega),readTs]
     simp
    have hlx:xs.length <= maxLen:=by unfold maxLen;omega
    obtain ⟨a,c,V,hv,hc,hrow⟩:=hK.done hlx
    have HE:=jh hend
    have HROW:=jh hrow
    have HG:=jh hg
    have HV:=jh hv
    have HCC:=jh hc
    have hlti:¬ (vs.length:Int) < (l.length:Int):=by omega
    clear hend hrow hg hv hc hr hK hje HIH hlx hxl
    go_wp2_with fail
    go_ret2
    exact ⟨HG.out,.inl ⟨xs,HE.out,a,c,V,by rw [HV.out];rfl,HCC.out,HROW.out⟩⟩
 ·have hn:=readTs_len l ts hlen
  have HN:=jh hn
  have hb:((l.length:Int) == (ts.length:Int)) = false:=by simpa using (by omega:¬ (l.length:Int) = ts.length)
  clear hN0 hL hT hf hn
  have hne:¬ (l.length:Int) = (ts.length:Int):=by omega
  clear hlen
  go_enter Tryz.func132,Tryz.ntmps132
  go_wp2_with fail
  go_ret2
  exact ⟨gRf _ _,.inr ⟨HN.out,rfl⟩⟩
theorem Lies.invN {ok:Nat -> Prop} {w:World} {t:Tr} {u:Value} (h:Lies ok w t u):∃ a c V,u = Go.Proofs.YtkglnoimbekhhaaGreat.nodeV t.k0 t.n0 t.p0 t.s0 a t.args0.length c /\ (I64 t.k0 /\ I64 t.n0 /\ I64 t.p0 /\ t.s0.size <= maxLen) /\ RowN ok w t.args0 a V:=by
 cases h with
 | mk V hl hs ik iN ip hc hr=>exact ⟨_,_,V,rfl,⟨ik,iN,ip,hs⟩,hl,hc,hr⟩
theorem readEs_cons (t:Tr) (l:List Tr) (ts:List Ty):readEs (t :: l) ts = match readTs t.args0 ts with
 | none=>none
 | some ys=>if t.p0 = 28 then (readEs l ts).map (leafVa 11 0 ⟨#[]⟩ ys :: ·) else none:=by
 cases t;rw [readEs];rfl
theorem lt_of_blk2 {w:World} {b:Nat} {o:Obj} (h:w.heap[b]? = some o):b < w.heap.size:=(Array.getElem?_eq_some_iff.1 h).1
theorem tsize_eq (t:Tr):t.size = sizes t.args0 + 1:=by cases t;rw [Tr.size];rfl
theorem liesV_leaf {ok:Nat -> Prop} {w:World} {k n:Int} {s:ByteArray} {ys:List Va} {a:Option Addr} {c:Nat} {V:Nat -> Value} (ik:I64 k) (iN:I64 n) (hs:s.size <= maxLen) (hR:RowVa ok w ys a V) (hc:ys.length <= c):LiesV ok w (leafVa k n s ys) (vaV k n 0 s a ys.length c none 0 0 none 0 0) :=
 LiesV.of (types:=[]) (code:=[]) (VT:=fun _=>.int .i64 0) (VN:=fun _=>.int .i64 0) hc hs ik iN ⟨by omega,by omega⟩ hR (RowT.nil _ _ _ _) (RowN.nil _ _ _ _)
theorem readElts_any {N:Nat} (hN0:ReadN N) {W:World} {T:Ty} {tv:Value} {l:List Tr} {la:Option Addr} {lc:Nat} {VL:Nat -> Value} {d:Nat} (hT0:LiesT (fun _=>True) W T tv) (hL:RowN (fun _=>True) W l la VL) (hf:∀ U ∈ T.args,fBq d U = true) (hz:sizes l <= N) (hz9:sizes l <= 900) :
 Calls Tryz.prog 133 #[tv,.slice la l.length lc] W (EachPost (readEs l T.args) W):=by
 obtain ⟨ta,tc,VT,rfl,it,hT⟩:=hT0.inv
 have hll:=length_le_sizes l
 have htm:=hT.1
 unfold maxLen at htm
 have HIH:Hid (∀ (j:Nat) (h:j < l.length),∃ a c,VL j = nodeV l[j].k0 l[j].n0 l[j].p0 l[j].s0 a l[j].args0.length c /\ ∀ (W2:World),W.grownBy W2 none -> Calls Tryz.prog 132 #[.slice a l[j].args0.length c,.slice ta T.args.length tc] W2 (EachPost (readTs l[j].args0 T.args) W2)):=fun j h=>by
  have h3:(l[j]).size <= sizes l:=by
   have h4:=sizes_take_succ l j h
   have h5:=sizes_take_le l (j + 1)
   omega
  have h6:=tsize_eq l[j]
  obtain ⟨a,c,V,e,_,hR⟩:=(hL.2.2 j h).invN
  exact ⟨a,c,e,fun W2 hg=>readEach_any hN0 (hR.same (sAl hg)) (hT.same (sAl hg)) hf (by omega) (by omega)⟩
 have HL:=jh hL
 have hB0:=heap_alloc_new W (.cells #[.int .i64 T.t,.slice ta T.args.length tc] 24)
 have HB0:=jh hB0
 clear hN0 hL hT hf hz hT0 it hB0
 unfold tyV
 go_enter Tryz.func133,Tryz.ntmps133
 go_wp2_with fail
 go_loopw [6,13] (fun lv iv wr=>∃ (xs:List Va) (vs:List Value),iv = .int .i64 vs.length /\ vs.length <= l.length /\ ListOkV W.heap.size wr lv xs vs /\ W.grownBy wr none /\ wr.heap[W.heap.size]? = some (.cells #[.int .i64 T.t,.slice ta T.args.length tc] 24 (0,0)) /\ readEs l T.args = (readEs (l.drop vs.length) T.args).map (xs ++ ·)) (fun _ iv _=>l.length - (intOf iv).toNat)
 case atStart=>exact ⟨[],[],rfl,Nat.zero_le _,⟨World.ownsRow_nil _ _ _ _,rfl,fun i t u h=>by simp at h⟩,gBq _,HB0.out,by simp⟩
 case round =>
  obtain ⟨xs,vs,rfl,hj,hK,hg,hbx,hr⟩:=hrel
  obtain ⟨ra,rc,rfl⟩:=hK.slice
  have hxl:=hK.len
  by_cases hlt:vs.length < l.length
  ·obtain ⟨ca,cc,hcv,hcall⟩:=HIH.out vs.length hlt
   obtain ⟨b,o,rfl,_,k',n',p',s',a',l',c',hv,h0,h1,h2,h3,h4⟩:=(HL.out.2.1 vs.length hlt).same (w':=wr) (sAl hg)
   have hbl:b < wr.heap.size:=World.block_lt_of_cell? wr _ h0
   have hd1:l.drop vs.length = l[vs.length] :: l.drop (vs.length + 1):=List.drop_eq_getElem_cons hlt
   rw [hd1,readEs_cons] at hr
   rw [hv] at hcv
   unfold nodeV at hcv
   simp only [Value.agg.injEq,Array.mk.injEq,List.cons.injEq,Value.int.injEq,Value.slice.injEq,true_and,and_true] at hcv
   obtain ⟨-,-,ep,-,rfl,el,rfl⟩:=hcv
   rw [← ep] at hr
   have hih:∀ W2,wr.grownBy W2 none -> Calls Tryz.prog 132 #[.slice a' l' c',.slice ta T.args.length tc] W2 (EachPost (readTs l[vs.length].args0 T.args) W2):=fun W2 hW2=>by
    have:=hcall W2 (gTq hg hW2)
    rw [← el] at this
    exact this
   have hbz:=lt_of_blk2 hbx
   have q0:=c0q hbx
   have q1:=c1q hbx
   have HC:=jh hih
   have HR:=jh hr
   have HK:=jh hK
   have HG:=jh hg
   have HXL:=jh hxl
   have HBX:=jh hbx
   have HN5:=jh (heap_alloc_new wr (.cells #[.int .i64 k',.int .i64 n',.int .i64 p',.string s',.slice a' l' c'] 48))
   have HG5:=jh (gBq (w:=wr) (.cells #[.int .i64 k',.int .i64 n',.int .i64 p',.string s',.slice a' l' c'] 48))
   generalize readTs l[vs.length].args0 T.args = rr at *
   clear hih hr hd1 hK hg hv hxl hcall ep el hbx
   go_wp2_with fail
   refine (HC.out _ HG5.out).mono ?_;rintro e w3 ⟨hg3,hw⟩
   have hn3:=(hg3.block _ (lt_of_blk2 HN5.out) (by simp)).trans HN5.out
   obtain ⟨m0,m1,m2,m3,m4⟩:=box5 hn3
   have HG3:=jh (gTq HG5.out hg3)
   rcases hw with ⟨ys,rfl,ya,yc,V,rfl,hyc,hrow⟩ | ⟨rfl,rfl⟩
   ·by_cases hp:p' = 28
    ·subst hp
     have hr2:readEs l T.args = (readEs (l.drop (vs.length + 1)) T.args).map (xs ++ [leafVa 11 0 ⟨#[]⟩ ys] ++ ·):=by
      rw [HR.out]
      simp only [if_true]
      cases readEs (l.drop (vs.length + 1)) T.args <;> simp
     have HR2:=jh hr2
     have HLX:=jh (liesV_leaf (k:=11) (n:=0) (s:=⟨#[]⟩) ⟨by omega,by omega⟩ ⟨by omega,by omega⟩ (Nat.zero_le _) (hrow.okMono (ok':=(wr.heap.size <= ·)) (fun b _ hb=>by have h9:(wr.alloc (.cells #[.int .i64 k',.int .i64 n',.int .i64 28,.string s',.slice a' l' c'] 48)).heap.size <= b:=hb;rw [World.size_alloc] at h9;show wr.heap.size <= b;omega)) hyc)
     have HGX:=jh (gTq HG.out HG3.out)
     have HKX:=jh (HK.out.call HG3.out)
     have HB3:=jh ((HG3.out.block _ (lt_of_blk2 HBX.out) (by simp)).trans HBX.out)
     have HOB:Hid (∀ k,(Value.slice ra vs.length rc).ownBlock = some k -> k < wr.heap.size):=fun k hk=>(World.ownsRow.lt HK.out.own k hk).2
     have hzx:W.heap.size <= w3.heap.size:=HGX.out.size
     have hzw:W.heap.size <= wr.heap.size:=HG.out.size
     have HBE:Hid (∀ (w5:World) (v5:Value),Gr w3 (.slice ra vs.length rc) w5 v5 -> w5.heap[W.heap.size]? = some (.cells #[.int .i64 T.t,.slice ta T.args.length tc] 24 (0,0))):=fun w5 v5 hgr=>(hgr.block (lt_of_blk2 HB3.out) (own_ne_type HKX.out.own HB3.out (by decide))).trans HB3.out
     clear hr2 hrow hg3 hyc hn3 HR HC HIH HN5
     go_wp2_with (at_builtin;refine appVa W.heap.size vs 11 0 0 ⟨#[]⟩ ya ys.length yc none 0 0 none 0 0 w3 (.slice ra vs.length rc) rfl (.tmp 32) (.tmp 35) rfl rfl rfl rfl HKX.out.own hzx (by omega) ?_;intro g cap w5 ho5 hg5;have HB5:=jh (HBE.out w5 _ hg5);have HK5:=jh (HKX.out.push (S:=wr.heap.size) hzw HOB.out HLX.out hg5 ho5);have HG9:=jh (grow_own HGX.out HKX.out.own (Nat.le_refl _) hg5.1);clear ho5 hg5)
     refine ⟨⟨xs ++ [leafVa 11 0 ⟨#[]⟩ ys],vs ++ [vaV 11 0 0 ⟨#[]⟩ ya ys.length yc none 0 0 none 0 0],by simp,by simp;omega,?_,HG9.out,HB5.out,?_⟩,by simp [intOf];omega⟩
     ·have h:=HK5.out
      simpa using h
     ·have h:=HR2.out
      simpa using h
    ·have hnone:readEs l T.args = none:=by
      rw [HR.out];simp [hp]
     have HN:=jh hnone
     have HGX:=jh (gTq HG.out HG3.out)
     have hpb:(p' == 28) = false:=by simpa using hp
     clear hnone hrow hg3 hyc hn3 HR HC HIH hp
     go_wp2_with fail
     go_ret2
     exact ⟨HGX.out,.inr ⟨HN.out,rfl⟩⟩
   ·have hnone:readEs l T.args = none:=HR.out
    have HN:=jh hnone
    have HGX:=jh (gTq HG.out HG3.out)
    clear hnone hg3 hn3 HR HC HIH
    go_wp2_with fail
    go_ret2
    exact ⟨HGX.out,.inr ⟨HN.out,rfl⟩⟩
  ·have hje:vs.length = l.length:=by omega
   have hend:readEs l T.args = some xs:=by
    rw [hr,List.drop_of_length_le (by omega),readEs]
    simp
   have hlx:xs.length <= maxLen:=by unfold maxLen;omega
   obtain ⟨a,c,V,hv,hc,hrow⟩:=hK.done hlx
   have HE:=jh hend
   have HROW:=jh hrow
   have HG:=jh hg
   have HV:=jh hv
   have HCC:=jh hc
   have hlti:¬ (vs.length:Int) < (l.length:Int):=by omega
   clear hend hrow hg hv hc hr hK hje HIH hlx hxl hbx
   go_wp2_with fail
   go_ret2
   exact ⟨HG.out,.inl ⟨xs,HE.out,a,c,V,by rw [HV.out];rfl,HCC.out,HROW.out⟩⟩
theorem new4 (w:World) (o1 o2 o3 o4:Obj):((((w.alloc o1).alloc o2).alloc o3).alloc o4).heap[w.heap.size]? = some o1 /\ ((((w.alloc o1).alloc o2).alloc o3).alloc o4).heap[w.heap.size + 1]? = some o2 /\ ((((w.alloc o1).alloc o2).alloc o3).alloc o4).heap[w.heap.size + 1 + 1]? = some o3 /\ ((((w.alloc o1).alloc o2).alloc o3).alloc o4).heap[w.heap.size + 1 + 1 + 1]? = some o4 :=
 ⟨heap_keep (heap_keep (rNw w o1 o2)),heap_keep (heap_keep (new_twoI w o1 o2)),heap_keep (new_3of3 w o1 o2 o3),new_4of4 w o1 o2 o3 o4⟩
theorem rd_fin {W wz:World} (t m:Int) (s:ByteArray) (a:Option Addr) (l c:Nat) {x0 x1 x2 x3 x4 x5 x6:Value} (hg:W.grownBy wz none) (hb:wz.heap[W.heap.size + 1 + 1]? = some (.cells #[x0,x1,x2,x3,x4,x5,x6] 28 (0,0))) :
 W.grownBy (set7 wz (W.heap.size + 1 + 1) (.int .i64 t) (.int .i64 m) (.int .i64 0) (.string s) (.slice a l c) (.slice none 0 0) (.slice none 0 0)) none /\ (set7 wz (W.heap.size + 1 + 1) (.int .i64 t) (.int .i64 m) (.int .i64 0) (.string s) (.slice a l c) (.slice none 0 0) (.slice none 0 0)).heap[W.heap.size + 1 + 1]? = some (.cells #[.int .i64 t,.int .i64 m,.int .i64 0,.string s,.slice a l c,.slice none 0 0,.slice none 0 0] 28 (0,0)) /\
 ∀ ys V,RowVa (W.heap.size + 1 + 1 + 1 + 1 <= ·) wz ys a V -> RowVa (W.heap.size <= ·) (set7 wz (W.heap.size + 1 + 1) (.int .i64 t) (.int .i64 m) (.int .i64 0) (.string s) (.slice a l c) (.slice none 0 0) (.slice none 0 0)) ys a V:=by
 have hgs:=set7_grow wz (W.heap.size + 1 + 1) (.int .i64 t) (.int .i64 m) (.int .i64 0) (.string s) (.slice a l c) (.slice none 0 0) (.slice none 0 0)
 refine ⟨grow_new hg hgs (by omega),set7_block hb _ _ _ _ _ _ _,fun ys V hR=>?_⟩
 refine (hR.same (fun b o hb hlt=>World.cell?_of_block (hgs.block b hlt (by simp;have h:W.heap.size + 1 + 1 + 1 + 1 <= b:=hb;omega)))).okMono (fun b _ hb=>by have h:W.heap.size + 1 + 1 + 1 + 1 <= b:=hb;show W.heap.size <= b;omega)
theorem rd_int3 (ta:Option Addr) (tl tc:Nat) (k n p:Int) (s:ByteArray) (na:Option Addr) (nl nc:Nat) (W:World):Calls Tryz.prog 128 #[tyV 3 ta tl tc,nodeV k n p s na nl nc] W fun e w'=>e = .returned (.tuple #[vaV 3 n 0 ⟨#[]⟩ none 0 0 none 0 0 none 0 0,.bool (k == 0)]) /\ W.grownBy w' none:=by
 unfold tyV nodeV
 go_enter Tryz.func128,Tryz.ntmps128
 go_wp2_with fail
 go_region_with (fail)
 all_goals
  go_wp2_with fail
  have hb':((((W.alloc (.cells #[.int .i64 3,.slice ta tl tc] 24)).alloc (.cells #[.int .i64 k,.int .i64 n,.int .i64 p,.string s,.slice na nl nc] 48)).alloc (.cells #[.int .i64 3,.int .i64 n,.int .i64 0,.string ⟨#[]⟩,.slice none 0 0,.slice none 0 0,.slice none 0 0] 28)).alloc (.cells #[.int .i64 3,.int .i64 n,.int .i64 0,.string ⟨#[]⟩,.slice none 0 0,.slice none 0 0,.slice none 0 0] 28)).drew.heap[W.heap.size + 1 + 1]? = some (.cells #[.int .i64 3,.int .i64 n,.int .i64 0,.string ⟨#[]⟩,.slice none 0 0,.slice none 0 0,.slice none 0 0] 28 (0,0)):=new_3of4 _ _ _ _ _
  have hg':W.grownBy ((((W.alloc (.cells #[.int .i64 3,.slice ta tl tc] 24)).alloc (.cells #[.int .i64 k,.int .i64 n,.int .i64 p,.string s,.slice na nl nc] 48)).alloc (.cells #[.int .i64 3,.int .i64 n,.int .i64 0,.string ⟨#[]⟩,.slice none 0 0,.slice none 0 0,.slice none 0 0] 28)).alloc (.cells #[.int .i64 3,.int .i64 n,.int .i64 0,.string ⟨#[]⟩,.slice none 0 0,.slice none 0 0,.slice none 0 0] 28)).drew none:=gDr (gTq (gTq (gTq (gBq _) (gBq _)) (gBq _)) (gBq _))
  generalize ((((W.alloc (.cells #[.int .i64 3,.slice ta tl tc] 24)).alloc (.cells #[.int .i64 k,.int .i64 n,.int .i64 p,.string s,.slice na nl nc] 48)).alloc (.cells #[.int .i64 3,.int .i64 n,.int .i64 0,.string ⟨#[]⟩,.slice none 0 0,.slice none 0 0,.slice none 0 0] 28)).alloc (.cells #[.int .i64 3,.int .i64 n,.int .i64 0,.string ⟨#[]⟩,.slice none 0 0,.slice none 0 0,.slice none 0 0] 28)).drew = wf at *
  obtain ⟨z0,z1,z2,z3,z4,z5,z6⟩:=box7 hb'
  exact bodyPost_ret (v:=.tuple #[vaV 3 n 0 ⟨#[]⟩ none 0 0 none 0 0 none 0 0,.bool (k == 0)]) (by simp [results,Tryz.results128,go_sem,z0,z1,z2,z3,z4,z5,z6,vaV]) rfl ⟨rfl,hg'⟩
theorem rd_int4 (ta:Option Addr) (tl tc:Nat) (k n p:Int) (s:ByteArray) (na:Option Addr) (nl nc:Nat) (W:World):Calls Tryz.prog 128 #[tyV 4 ta tl tc,nodeV k n p s na nl nc] W fun e w'=>e = .returned (.tuple #[vaV 4 n 0 ⟨#[]⟩ none 0 0 none 0 0 none 0 0,.bool (k == 0)]) /\ W.grownBy w' none:=by
 unfold tyV nodeV
 go_enter Tryz.func128,Tryz.ntmps128
 go_wp2_with fail
 go_region_with (fail)
 all_goals
  go_wp2_with fail
  have hb':((((W.alloc (.cells #[.int .i64 4,.slice ta tl tc] 24)).alloc (.cells #[.int .i64 k,.int .i64 n,.int .i64 p,.string s,.slice na nl nc] 48)).alloc (.cells #[.int .i64 4,.int .i64 n,.int .i64 0,.string ⟨#[]⟩,.slice none 0 0,.slice none 0 0,.slice none 0 0] 28)).alloc (.cells #[.int .i64 4,.int .i64 n,.int .i64 0,.string ⟨#[]⟩,.slice none 0 0,.slice none 0 0,.slice none 0 0] 28)).drew.heap[W.heap.size + 1 + 1]? = some (.cells #[.int .i64 4,.int .i64 n,.int .i64 0,.string ⟨#[]⟩,.slice none 0 0,.slice none 0 0,.slice none 0 0] 28 (0,0)):=new_3of4 _ _ _ _ _
  have hg':W.grownBy ((((W.alloc (.cells #[.int .i64 4,.slice ta tl tc] 24)).alloc (.cells #[.int .i64 k,.int .i64 n,.int .i64 p,.string s,.slice na nl nc] 48)).alloc (.cells #[.int .i64 4,.int .i64 n,.int .i64 0,.string ⟨#[]⟩,.slice none 0 0,.slice none 0 0,.slice none 0 0] 28)).alloc (.cells #[.int .i64 4,.int .i64 n,.int .i64 0,.string ⟨#[]⟩,.slice none 0 0,.slice none 0 0,.slice none 0 0] 28)).drew none:=gDr (gTq (gTq (gTq (gBq _) (gBq _)) (gBq _)) (gBq _))
  generalize ((((W.alloc (.cells #[.int .i64 4,.slice ta tl tc] 24)).alloc (.cells #[.int .i64 k,.int .i64 n,.int .i64 p,.string s,.slice na nl nc] 48)).alloc (.cells #[.int .i64 4,.int .i64 n,.int .i64 0,.string ⟨#[]⟩,.slice none 0 0,.slice none 0 0,.slice none 0 0] 28)).alloc (.cells #[.int .i64 4,.int .i64 n,.int .i64 0,.string ⟨#[]⟩,.slice none 0 0,.slice none 0 0,.slice none 0 0] 28)).drew = wf at *
  obtain ⟨z0,z1,z2,z3,z4,z5,z6⟩:=box7 hb'
  exact bodyPost_ret (v:=.tuple #[vaV 4 n 0 ⟨#[]⟩ none 0 0 none 0 0 none 0 0,.bool (k == 0)]) (by simp [results,Tryz.results128,go_sem,z0,z1,z2,z3,z4,z5,z6,vaV]) rfl ⟨rfl,hg'⟩
theorem rd_int5 (ta:Option Addr) (tl tc:Nat) (k n p:Int) (s:ByteArray) (na:Option Addr) (nl nc:Nat) (W:World):Calls Tryz.prog 128 #[tyV 5 ta tl tc,nodeV k n p s na nl nc] W fun e w'=>e = .returned (.tuple #[vaV 5 n 0 ⟨#[]⟩ none 0 0 none 0 0 none 0 0,.bool (k == 0)]) /\ W.grownBy w' none:=by
 unfold tyV nodeV
 go_enter Tryz.func128,Tryz.ntmps128
 go_wp2_with fail
 go_region_with (fail)
 all_goals
  go_wp2_with fail
  have hb':((((W.alloc (.cells #[.int .i64 5,.slice ta tl tc] 24)).alloc (.cells #[.int .i64 k,.int .i64 n,.int .i64 p,.string s,.slice na nl nc] 48)).alloc (.cells #[.int .i64 5,.int .i64 n,.int .i64 0,.string ⟨#[]⟩,.slice none 0 0,.slice none 0 0,.slice none 0 0] 28)).alloc (.cells #[.int .i64 5,.int .i64 n,.int .i64 0,.string ⟨#[]⟩,.slice none 0 0,.slice none 0 0,.slice none 0 0] 28)).drew.heap[W.heap.size + 1 + 1]? = some (.cells #[.int .i64 5,.int .i64 n,.int .i64 0,.string ⟨#[]⟩,.slice none 0 0,.slice none 0 0,.slice none 0 0] 28 (0,0)):=new_3of4 _ _ _ _ _
  have hg':W.grownBy ((((W.alloc (.cells #[.int .i64 5,.slice ta tl tc] 24)).alloc (.cells #[.int .i64 k,.int .i64 n,.int .i64 p,.string s,.slice na nl nc] 48)).alloc (.cells #[.int .i64 5,.int .i64 n,.int .i64 0,.string ⟨#[]⟩,.slice none 0 0,.slice none 0 0,.slice none 0 0] 28)).alloc (.cells #[.int .i64 5,.int .i64 n,.int .i64 0,.string ⟨#[]⟩,.slice none 0 0,.slice none 0 0,.slice none 0 0] 28)).drew none:=gDr (gTq (gTq (gTq (gBq _) (gBq _)) (gBq _)) (gBq _))
  generalize ((((W.alloc (.cells #[.int .i64 5,.slice ta tl tc] 24)).alloc (.cells #[.int .i64 k,.int .i64 n,.int .i64 p,.string s,.slice na nl nc] 48)).alloc (.cells #[.int .i64 5,.int .i64 n,.int .i64 0,.string ⟨#[]⟩,.slice none 0 0,.slice none 0 0,.slice none 0 0] 28)).alloc (.cells #[.int .i64 5,.int .i64 n,.int .i64 0,.string ⟨#[]⟩,.slice none 0 0,.slice none 0 0,.slice none 0 0] 28)).drew = wf at *
  obtain ⟨z0,z1,z2,z3,z4,z5,z6⟩:=box7 hb'
  exact bodyPost_ret (v:=.tuple #[vaV 5 n 0 ⟨#[]⟩ none 0 0 none 0 0 none 0 0,.bool (k == 0)]) (by simp [results,Tryz.results128,go_sem,z0,z1,z2,z3,z4,z5,z6,vaV]) rfl ⟨rfl,hg'⟩
theorem rd_int7 (ta:Option Addr) (tl tc:Nat) (k n p:Int) (s:ByteArray) (na:Option Addr) (nl nc:Nat) (W:World):Calls Tryz.prog 128 #[tyV 7 ta tl tc,nodeV k n p s na nl nc] W fun e w'=>e = .returned (.tuple #[vaV 7 n 0 ⟨#[]⟩ none 0 0 none 0 0 none 0 0,.bool (k == 0)]) /\ W.grownBy w' none:=by
 unfold tyV nodeV
 go_enter Tryz.func128,Tryz.ntmps128
 go_wp2_with fail
 go_region_with (fail)
 all_goals
  go_wp2_with fail
  have hb':((((W.alloc (.cells #[.int .i64 7,.slice ta tl tc] 24)).alloc (.cells #[.int .i64 k,.int .i64 n,.int .i64 p,.string s,.slice na nl nc] 48)).alloc (.cells #[.int .i64 7,.int .i64 n,.int .i64 0,.string ⟨#[]⟩,.slice none 0 0,.slice none 0 0,.slice none 0 0] 28)).alloc (.cells #[.int .i64 7,.int .i64 n,.int .i64 0,.string ⟨#[]⟩,.slice none 0 0,.slice none 0 0,.slice none 0 0] 28)).drew.heap[W.heap.size + 1 + 1]? = some (.cells #[.int .i64 7,.int .i64 n,.int .i64 0,.string ⟨#[]⟩,.slice none 0 0,.slice none 0 0,.slice none 0 0] 28 (0,0)):=new_3of4 _ _ _ _ _
  have hg':W.grownBy ((((W.alloc (.cells #[.int .i64 7,.slice ta tl tc] 24)).alloc (.cells #[.int .i64 k,.int .i64 n,.int .i64 p,.string s,.slice na nl nc] 48)).alloc (.cells #[.int .i64 7,.int .i64 n,.int .i64 0,.string ⟨#[]⟩,.slice none 0 0,.slice none 0 0,.slice none 0 0] 28)).alloc (.cells #[.int .i64 7,.int .i64 n,.int .i64 0,.string ⟨#[]⟩,.slice none 0 0,.slice none 0 0,.slice none 0 0] 28)).drew none:=gDr (gTq (gTq (gTq (gBq _) (gBq _)) (gBq _)) (gBq _))
  generalize ((((W.alloc (.cells #[.int .i64 7,.slice ta tl tc] 24)).alloc (.cells #[.int .i64 k,.int .i64 n,.int .i64 p,.string s,.slice na nl nc] 48)).alloc (.cells #[.int .i64 7,.int .i64 n,.int .i64 0,.string ⟨#[]⟩,.slice none 0 0,.slice none 0 0,.slice none 0 0] 28)).alloc (.cells #[.int .i64 7,.int .i64 n,.int .i64 0,.string ⟨#[]⟩,.slice none 0 0,.slice none 0 0,.slice none 0 0] 28)).drew = wf at *
  obtain ⟨z0,z1,z2,z3,z4,z5,z6⟩:=box7 hb'
  exact bodyPost_ret (v:=.tuple #[vaV 7 n 0 ⟨#[]⟩ none 0 0 none 0 0 none 0 0,.bool (k == 0)]) (by simp [results,Tryz.results128,go_sem,z0,z1,z2,z3,z4,z5,z6,vaV]) rfl ⟨rfl,hg'⟩
theorem rd_text (ta:Option Addr) (tl tc:Nat) (k n p:Int) (s:ByteArray) (na:Option Addr) (nl nc:Nat) (W:World):Calls Tryz.prog 128 #[tyV 6 ta tl tc,nodeV k n p s na nl nc] W fun e w'=>e = .returned (.tuple #[vaV 6 0 0 s none 0 0 none 0 0 none 0 0,.bool (k == 1)]) /\ W.grownBy w' none:=by
 unfold tyV nodeV
 go_enter Tryz.func128,Tryz.ntmps128
 go_wp2_with fail
 go_region_with (fail)
 all_goals
  go_wp2_with fail
  have hb':((((W.alloc (.cells #[.int .i64 6,.slice ta tl tc] 24)).alloc (.cells #[.int .i64 k,.int .i64 n,.int .i64 p,.string s,.slice na nl nc] 48)).alloc (.cells #[.int .i64 6,.int .i64 0,.int .i64 0,.string s,.slice none 0 0,.slice none 0 0,.slice none 0 0] 28)).alloc (.cells #[.int .i64 6,.int .i64 0,.int .i64 0,.string s,.slice none 0 0,.slice none 0 0,.slice none 0 0] 28)).drew.heap[W.heap.size + 1 + 1]? = some (.cells #[.int .i64 6,.int .i64 0,.int .i64 0,.string s,.slice none 0 0,.slice none 0 0,.slice none 0 0] 28 (0,0)):=new_3of4 _ _ _ _ _
  have hg':W.grownBy ((((W.alloc (.cells #[.int .i64 6,.slice ta tl tc] 24)).alloc (.cells #[.int .i64 k,.int .i64 n,.int .i64 p,.string s,.slice na nl nc] 48)).alloc (.cells #[.int .i64 6,.int .i64 0,.int .i64 0,.string s,.slice none 0 0,.slice none 0 0,.slice none 0 0] 28)).alloc (.cells #[.int .i64 6,.int .i64 0,.int .i64 0,.string s,.slice none 0 0,.slice none 0 0,.slice none 0 0] 28)).drew none:=gDr (gTq (gTq (gTq (gBq _) (gBq _)) (gBq _)) (gBq _))
  generalize ((((W.alloc (.cells #[.int .i64 6,.slice ta tl tc] 24)).alloc (.cells #[.int .i64 k,.int .i64 n,.int .i64 p,.string s,.slice na nl nc] 48)).alloc (.cells #[.int .i64 6,.int .i64 0,.int .i64 0,.string s,.slice none 0 0,.slice none 0 0,.slice none 0 0] 28)).alloc (.cells #[.int .i64 6,.int .i64 0,.int .i64 0,.string s,.slice none 0 0,.slice none 0 0,.slice none 0 0] 28)).drew = wf at *
  obtain ⟨z0,z1,z2,z3,z4,z5,z6⟩:=box7 hb'
  exact bodyPost_ret (v:=.tuple #[vaV 6 0 0 s none 0 0 none 0 0 none 0 0,.bool (k == 1)]) (by simp [results,Tryz.results128,go_sem,z0,z1,z2,z3,z4,z5,z6,vaV]) rfl ⟨rfl,hg'⟩
theorem rd_list0 (ta:Option Addr) (tl tc:Nat) (k n p:Int) (s:ByteArray) (na:Option Addr) (nl nc:Nat) (W:World) (h3:k ≠ 3):Calls Tryz.prog 128 #[tyV 10 ta tl tc,nodeV k n p s na nl nc] W fun e w'=>e = .returned (.tuple #[vaV 10 0 0 ⟨#[]⟩ none 0 0 none 0 0 none 0 0,.bool false]) /\ W.grownBy w' none:=by
 have hk3:(k == 3) = false:=by simpa using h3
 clear h3
 unfold tyV nodeV
 go_enter Tryz.func128,Tryz.ntmps128
 go_wp2_with fail
 have hb':=new_3of4 W (.cells #[.int .i64 10,.slice ta tl tc] 24) (.cells #[.int .i64 k,.int .i64 n,.int .i64 p,.string s,.slice na nl nc] 48) (.cells #[.int .i64 10,.int .i64 0,.int .i64 0,.string ⟨#[]⟩,.slice none 0 0,.slice none 0 0,.slice none 0 0] 28) (.cells #[.int .i64 10,.int .i64 0,.int .i64 0,.string ⟨#[]⟩,.slice none 0 0,.slice none 0 0,.slice none 0 0] 28)
 have hg':W.grownBy ((((W.alloc (.cells #[.int .i64 10,.slice ta tl tc] 24)).alloc (.cells #[.int .i64 k,.int .i64 n,.int .i64 p,.string s,.slice na nl nc] 48)).alloc (.cells #[.int .i64 10,.int .i64 0,.int .i64 0,.string ⟨#[]⟩,.slice none 0 0,.slice none 0 0,.slice none 0 0] 28)).alloc (.cells #[.int .i64 10,.int .i64 0,.int .i64 0,.string ⟨#[]⟩,.slice none 0 0,.slice none 0 0,.slice none 0 0] 28)) none:=gTq (gTq (gTq (gBq _) (gBq _)) (gBq _)) (gBq _)
 generalize ((((W.alloc (.cells #[.int .i64 10,.slice ta tl tc] 24)).alloc (.cells #[.int .i64 k,.int .i64 n,.int .i64 p,.string s,.slice na nl nc] 48)).alloc (.cells #[.int .i64 10,.int .i64 0,.int .i64 0,.string ⟨#[]⟩,.slice none 0 0,.slice none 0 0,.slice none 0 0] 28)).alloc (.cells #[.int .i64 10,.int .i64 0,.int .i64 0,.string ⟨#[]⟩,.slice none 0 0,.slice none 0 0,.slice none 0 0] 28)) = wf at *
 obtain ⟨z0,z1,z2,z3,z4,z5,z6⟩:=box7 hb'
 exact bodyPost_ret (v:=.tuple #[vaV 10 0 0 ⟨#[]⟩ none 0 0 none 0 0 none 0 0,.bool false]) (by simp [results,Tryz.results128,go_sem,z0,z1,z2,z3,z4,z5,z6,vaV]) rfl ⟨rfl,hg'⟩
theorem rd_map0 (ta:Option Addr) (tl tc:Nat) (k n p:Int) (s:ByteArray) (na:Option Addr) (nl nc:Nat) (W:World) (h3:k ≠ 3):Calls Tryz.prog 128 #[tyV 13 ta tl tc,nodeV k n p s na nl nc] W fun e w'=>e = .returned (.tuple #[vaV 13 0 0 ⟨#[]⟩ none 0 0 none 0 0 none 0 0,.bool false]) /\ W.grownBy w' none:=by
 have hk3:(k == 3) = false:=by simpa using h3
 clear h3
 unfold tyV nodeV
 go_enter Tryz.func128,Tryz.ntmps128
 go_wp2_with fail
 have hb':=new_3of4 W (.cells #[.int .i64 13,.slice ta tl tc] 24) (.cells #[.int .i64 k,.int .i64 n,.int .i64 p,.string s,.slice na nl nc] 48) (.cells #[.int .i64 13,.int .i64 0,.int .i64 0,.string ⟨#[]⟩,.slice none 0 0,.slice none 0 0,.slice none 0 0] 28) (.cells #[.int .i64 13,.int .i64 0,.int .i64 0,.string ⟨#[]⟩,.slice none 0 0,.slice none 0 0,.slice none 0 0] 28)
 have hg':W.grownBy ((((W.alloc (.cells #[.int .i64 13,.slice ta tl tc] 24)).alloc (.cells #[.int .i64 k,.int .i64 n,.int .i64 p,.string s,.slice na nl nc] 48)).alloc (.cells #[.int .i64 13,.int .i64 0,.int .i64 0,.string ⟨#[]⟩,.slice none 0 0,.slice none 0 0,.slice none 0 0] 28)).alloc (.cells #[.int .i64 13,.int .i64 0,.int .i64 0,.string ⟨#[]⟩,.slice none 0 0,.slice none 0 0,.slice none 0 0] 28)) none:=gTq (gTq (gTq (gBq _) (gBq _)) (gBq _)) (gBq _)
 generalize ((((W.alloc (.cells #[.int .i64 13,.slice ta tl tc] 24)).alloc (.cells #[.int .i64 k,.int .i64 n,.int .i64 p,.string s,.slice na nl nc] 48)).alloc (.cells #[.int .i64 13,.int .i64 0,.int .i64 0,.string ⟨#[]⟩,.slice none 0 0,.slice none 0 0,.slice none 0 0] 28)).alloc (.cells #[.int .i64 13,.int .i64 0,.int .i64 0,.string ⟨#[]⟩,.slice none 0 0,.slice none 0 0,.slice none 0 0] 28)) = wf at *
 obtain ⟨z0,z1,z2,z3,z4,z5,z6⟩:=box7 hb'
 exact bodyPost_ret (v:=.tuple #[vaV 13 0 0 ⟨#[]⟩ none 0 0 none 0 0 none 0 0,.bool false]) (by simp [results,Tryz.results128,go_sem,z0,z1,z2,z3,z4,z5,z6,vaV]) rfl ⟨rfl,hg'⟩
theorem rd_map {W:World} (ta:Option Addr) (tl tc:Nat) (n p:Int) (s:ByteArray) (na:Option Addr) (nl nc:Nat) (targs:List Ty) (l:List Tr) (HE:Hid (∀ W2,W.grownBy W2 none -> Calls Tryz.prog 133 #[tyV 13 ta tl tc,.slice na nl nc] W2 (EachPost (readEs l targs) W2))) :
 Calls Tryz.prog 128 #[tyV 13 ta tl tc,nodeV 3 n p s na nl nc] W (ReadPost (.nd 3 n p s l) (.nd 13 targs) W):=by
 have HRE:Hid (readT (.nd 3 n p s l) (.nd 13 targs) = (readEs l targs).map (leafVa 13 0 ⟨#[]⟩)):=by show _ = _;rw [readT];simp [Ty.t,Ty.args]
 have HN4:=jh (new4 W (.cells #[.int .i64 13,.slice ta tl tc] 24) (.cells #[.int .i64 3,.int .i64 n,.int .i64 p,.string s,.slice na nl nc] 48) (.cells #[.int .i64 0,.int .i64 0,.int .i64 0,.string ⟨#[]⟩,.slice none 0 0,.slice none 0 0,.slice none 0 0] 28) (.cells #[.int .i64 13,.int .i64 0,.int .i64 0,.string ⟨#[]⟩,.slice none 0 0,.slice none 0 0,.slice none 0 0] 28))
 have HG4:Hid (W.grownBy ((((W.alloc (.cells #[.int .i64 13,.slice ta tl tc] 24)).alloc (.cells #[.int .i64 3,.int .i64 n,.int .i64 p,.string s,.slice na nl nc] 48)).alloc (.cells #[.int .i64 0,.int .i64 0,.int .i64 0,.string ⟨#[]⟩,.slice none 0 0,.slice none 0 0,.slice none 0 0] 28)).alloc (.cells #[.int .i64 13,.int .i64 0,.int .i64 0,.string ⟨#[]⟩,.slice none 0 0,.slice none 0 0,.slice none 0 0] 28)) none):=gTq (gTq (gTq (gBq _) (gBq _)) (gBq _)) (gBq _)
 generalize readEs l targs = r at *
 unfold tyV nodeV at *
 go_enter Tryz.func128,Tryz.ntmps128
 go_wp2_with fail
 refine (HE.out _ HG4.out).mono ?_;rintro e w1 ⟨hg1,hw⟩
 obtain ⟨n0,n1,n2,n3⟩:=HN4.out
 have hz1:=(hg1.block _ (lt_of_blk2 n2) (by simp)).trans n2
 have hv1:=(hg1.block _ (lt_of_blk2 n3) (by simp)).trans n3
 obtain ⟨v0,v1,v2,v3,v4,v5,v6⟩:=box7 hv1
 obtain ⟨y0,y1,y2,y3,y4,y5,y6⟩:=box7 hz1
 have fv:=free7 hv1
 have fz:=free7 hz1
 have HS1:Hid (((((W.alloc (.cells #[.int .i64 13,.slice ta tl tc] 24)).alloc (.cells #[.int .i64 3,.int .i64 n,.int .i64 p,.string s,.slice na nl nc] 48)).alloc (.cells #[.int .i64 0,.int .i64 0,.int .i64 0,.string ⟨#[]⟩,.slice none 0 0,.slice none 0 0,.slice none 0 0] 28)).alloc (.cells #[.int .i64 13,.int .i64 0,.int .i64 0,.string ⟨#[]⟩,.slice none 0 0,.slice none 0 0,.slice none 0 0] 28)).heap.size = W.heap.size + 1 + 1 + 1 + 1):=by show _ = _;simp
 have HGZ0:=jh (gTq HG4.out hg1)
 have HV1:=jh hv1
 have HZ1:=jh hz1
 rcases hw with ⟨ys,rfl,ya,yc,V,rfl,hyc,hrow⟩ | ⟨rfl,rfl⟩
 ·have HRT:Hid (readT (.nd 3 n p s l) (.nd 13 targs) = some (leafVa 13 0 ⟨#[]⟩ ys)):=by show _ = _;rw [HRE.out];rfl
  have hgs:=gSq (g:=W.heap.size + 1 + 1 + 1) (gRf w1 _) 4 none (.slice ya ys.length yc)
  have HGZ:=jh (grow_new HGZ0.out hgs (by omega))
  have HZZ:=jh ((hgs.block _ (lt_of_blk2 HZ1.out) (by simp)).trans HZ1.out)
  rw [HS1.out] at hrow
  have HROW:=jh (hrow.same (w':=w1.setCell ⟨W.heap.size + 1 + 1 + 1,4,none⟩ (.slice ya ys.length yc)) (fun b o hb hlt=>World.cell?_of_block (hgs.block b hlt (by simp;have h:W.heap.size + 1 + 1 + 1 + 1 <= b:=hb;omega))))
  have HCAP:=jh hyc
  clear hrow hyc hgs hg1 n0 n1 n2 n3 HRE HE hz1 hv1
  go_wp2_with fail
  change bodyPost _ _ _ _ _ (set7 (w1.setCell ⟨W.heap.size + 1 + 1 + 1,4,none⟩ (.slice ya ys.length yc)) (W.heap.size + 1 + 1) (.int .i64 13) (.int .i64 0) (.int .i64 0) (.string ⟨#[]⟩) (.slice ya ys.length yc) (.slice none 0 0) (.slice none 0 0))
  obtain ⟨j1,j2,j3⟩:=rd_fin (W:=W) (wz:=(w1.setCell ⟨W.heap.size + 1 + 1 + 1,4,none⟩ (.slice ya ys.length yc))) 13 0 ⟨#[]⟩ ya ys.length yc HGZ.out HZZ.out
  generalize set7 (w1.setCell ⟨W.heap.size + 1 + 1 + 1,4,none⟩ (.slice ya ys.length yc)) (W.heap.size + 1 + 1) (.int .i64 13) (.int .i64 0) (.int .i64 0) (.string ⟨#[]⟩) (.slice ya ys.length yc) (.slice none 0 0) (.slice none 0 0) = wf at *
  obtain ⟨z0,z1,z2,z3,z4,z5,z6⟩:=box7 j2
  refine bodyPost_ret (v:=.tuple #[vaV 13 0 0 ⟨#[]⟩ ya ys.length yc none 0 0 none 0 0,.bool true]) (by simp [results,Tryz.results128,go_sem,z0,z1,z2,z3,z4,z5,z6,vaV]) rfl ⟨j1,_,_,_,_,_,_,_,_,_,_,_,_,_,_,rfl,?_,?_⟩
  ·intro _
   exact ⟨leafVa 13 0 ⟨#[]⟩ ys,HRT.out,liesV_leaf ⟨by omega,by omega⟩ ⟨by omega,by omega⟩ (Nat.zero_le _) (j3 ys _ HROW.out) HCAP.out⟩
  ·intro h;cases h
 ·have HRT:Hid (readT (.nd 3 n p s l) (.nd 13 targs) = none):=by show _ = _;rw [HRE.out];rfl
  have hgs:=gSq (g:=W.heap.size + 1 + 1 + 1) (gRf w1 _) 4 none (.slice none 0 0)
  have HGZ:=jh (grow_new HGZ0.out hgs (by omega))
  have HZZ:=jh ((hgs.block _ (lt_of_blk2 HZ1.out) (by simp)).trans HZ1.out)
  clear hgs hg1 n0 n1 n2 n3 HRE HE hz1 hv1
  go_wp2_with fail
  change bodyPost _ _ _ _ _ (set7 (w1.setCell ⟨W.heap.size + 1 + 1 + 1,4,none⟩ (.slice none 0 0)) (W.heap.size + 1 + 1) (.int .i64 13) (.int .i64 0) (.int .i64 0) (.string ⟨#[]⟩) (.slice none 0 0) (.slice none 0 0) (.slice none 0 0))
  obtain ⟨j1,j2,j3⟩:=rd_fin (W:=W) (wz:=(w1.setCell ⟨W.heap.size + 1 + 1 + 1,4,none⟩ (.slice none 0 0))) 13 0 ⟨#[]⟩ none 0 0 HGZ.out HZZ.out
  generalize set7 (w1.setCell ⟨W.heap.size + 1 + 1 + 1,4,none⟩ (.slice none 0 0)) (W.heap.size + 1 + 1) (.int .i64 13) (.int .i64 0) (.int .i64 0) (.string ⟨#[]⟩) (.slice none 0 0) (.slice none 0 0) (.slice none 0 0) = wf at *
  obtain ⟨z0,z1,z2,z3,z4,z5,z6⟩:=box7 j2
  refine bodyPost_ret (v:=.tuple #[vaV 13 0 0 ⟨#[]⟩ none 0 0 none 0 0 none 0 0,.bool false]) (by simp [results,Tryz.results128,go_sem,z0,z1,z2,z3,z4,z5,z6,vaV]) rfl ⟨j1,_,_,_,_,_,_,_,_,_,_,_,_,_,_,rfl,?_,?_⟩
  ·intro h;cases h
  ·intro _;exact HRT.out
theorem readT_branch {k n p:Int} {s:ByteArray} {l:List Tr} {T:Ty} (h3:T.t ≠ 3) (h4:T.t ≠ 4) (h5:T.t ≠ 5) (h6:T.t ≠ 6) (h7:T.t ≠ 7) (h10:T.t ≠ 10) (h13:T.t ≠ 13):readT (.nd k n p s l) T = match branchF T p with
 | none=>none
 | some (m,ts)=>(readTs l ts).map (leafVa T.t m ⟨#[]⟩):=by
 rw [readT,if_neg (by omega),if_neg h6,if_neg h10,if_neg h13]
 rfl
theorem set_one7 {w:World} {g:Nat} {T:TypeId} {x0 x1 x2 x3 x4 x5 x6:Value} (h:w.heap[g]? = some (.cells #[x0,x1,x2,x3,x4,x5,x6] T (0,0))) (u:Value) :
 (w.setCell ⟨g,1,none⟩ u).heap[g]? = some (.cells #[x0,u,x2,x3,x4,x5,x6] T (0,0)) /\ (w.setCell ⟨g,4,none⟩ u).heap[g]? = some (.cells #[x0,x1,x2,x3,u,x5,x6] T (0,0)):=by
 simp [World.setCell,Array.getElem?_modify,h]
theorem rd_def {W:World} {t:Int} (ta:Option Addr) (tl tc:Nat) (k n p:Int) (s:ByteArray) (na:Option Addr) (nl nc:Nat) {T:Ty} {l:List Tr} (ht:T.t = t) (it:I64 t) (h3:t ≠ 3) (h4:t ≠ 4) (h5:t ≠ 5) (h6:t ≠ 6) (h7:t ≠ 7) (h10:t ≠ 10) (h13:t ≠ 13)
 (HB:Hid (∀ W2,W.grownBy W2 none -> Calls Tryz.prog 134 #[tyV t ta tl tc,.int .i64 p] W2 (BranchPost (· < W.heap.size) T p W2)))
 (HE:Hid (∀ W2 ts xa xc VX,W.grownBy W2 none -> RowT (fun _=>True) W2 ts xa VX -> (∃ d,∀ U ∈ ts,fBq d U = true) -> Calls Tryz.prog 132 #[.slice na nl nc,.slice xa ts.length xc] W2 (EachPost (readTs l ts) W2))) :
 Calls Tryz.prog 128 #[tyV t ta tl tc,nodeV k n p s na nl nc] W (ReadPost (.nd k n p s l) T W):=by
 subst ht
 have HRE:=jh (readT_branch (k:=k) (n:=n) (p:=p) (s:=s) (l:=l) h3 h4 h5 h6 h7 h10 h13)
 have HIT:=jh it
 generalize T.t = t at *
 have b3:(t == 3) = false:=by simpa using h3
 have b4:(t == 4) = false:=by simpa using h4
 have b5:(t == 5) = false:=by simpa using h5
 have b6:(t == 6) = false:=by simpa using h6
 have b7:(t == 7) = false:=by simpa using h7
 have b10:(t == 10) = false:=by simpa using h10
 have b13:(t == 13) = false:=by simpa using h13
 clear h3 h4 h5 h6 h7 h10 h13 it
 have HN4:=jh (new4 W (.cells #[.int .i64 t,.slice ta tl tc] 24) (.cells #[.int .i64 k,.int .i64 n,.int .i64 p,.string s,.slice na nl nc] 48) (.cells #[.int .i64 0,.int .i64 0,.int .i64 0,.string ⟨#[]⟩,.slice none 0 0,.slice none 0 0,.slice none 0 0] 28) (.cells #[.int .i64 t,.int .i64 0,.int .i64 0,.string ⟨#[]⟩,.slice none 0 0,.slice none 0 0,.slice none 0 0] 28))
 have HG4:Hid (W.grownBy ((((W.alloc (.cells #[.int .i64 t,.slice ta tl tc] 24)).alloc (.cells #[.int .i64 k,.int .i64 n,.int .i64 p,.string s,.slice na nl nc] 48)).alloc (.cells #[.int .i64 0,.int .i64 0,.int .i64 0,.string ⟨#[]⟩,.slice none 0 0,.slice none 0 0,.slice none 0 0] 28)).alloc (.cells #[.int .i64 t,.int .i64 0,.int .i64 0,.string ⟨#[]⟩,.slice none 0 0,.slice none 0 0,.slice none 0 0] 28)) none):=gTq (gTq (gTq (gBq _) (gBq _)) (gBq _)) (gBq _)
 have HS4:Hid (((((W.alloc (.cells #[.int .i64 t,.slice ta tl tc] 24)).alloc (.cells #[.int .i64 k,.int .i64 n,.int .i64 p,.string s,.slice na nl nc] 48)).alloc (.cells #[.int .i64 0,.int .i64 0,.int .i64 0,.string ⟨#[]⟩,.slice none 0 0,.slice none 0 0,.slice none 0 0] 28)).alloc (.cells #[.int .i64 t,.int .i64 0,.int .i64 0,.string ⟨#[]⟩,.slice none 0 0,.slice none 0 0,.slice none 0 0] 28)).heap.size = W.heap.size + 1 + 1 + 1 + 1):=by show _ = _;simp
 unfold tyV nodeV at *
 go_enter Tryz.func128,Tryz.ntmps128
 go_wp2_with fail
 refine (HB.out _ HG4.out).mono ?_;rintro e w1 ⟨hg1,hw⟩
 obtain ⟨n0,n1,n2,n3⟩:=HN4.out
 have hz1:=(hg1.block _ (lt_of_blk2 n2) (by simp)).trans n2
 have hv1:=(hg1.block _ (lt_of_blk2 n3) (by simp)).trans n3
 have hn1:=(hg1.block _ (lt_of_blk2 n1) (by simp)).trans n1
 have HGZ0:=jh (gTq HG4.out hg1)
 rcases hw with ⟨hbr,rfl⟩ | ⟨m,ts,xa,xc,VX,hbr,rfl,im,hrowT,hform,_⟩
 ·have HRT:Hid (readT (.nd k n p s l) T = none):=by show _ = _;rw [HRE.out,hbr]
  obtain ⟨v0,v1,v2,v3,v4,v5,v6⟩:=box7 hv1
  obtain ⟨y0,y1,y2,y3,y4,y5,y6⟩:=box7 hz1
  have fv:=free7 hv1
  have fz:=free7 hz1
  have hgs:=gSq (g:=W.heap.size + 1 + 1 + 1) (gRf w1 _) 1 none (.int .i64 0)
  have HGZ:=jh (grow_new HGZ0.out hgs (by omega))
  have HZZ:=jh ((hgs.block _ (lt_of_blk2 hz1) (by simp)).trans hz1)
  clear hgs hg1 n0 n1 n2 n3 HRE HE hz1 hv1 hn1 hbr HB HG4 HN4 HS4
  go_wp2_with fail
  change bodyPost _ _ _ _ _ (set7 (w1.setCell ⟨W.heap.size + 1 + 1 + 1,1,none⟩ (.int .i64 0)) (W.heap.size + 1 + 1) (.int .i64 t) (.int .i64 0) (.int .i64 0) (.string ⟨#[]⟩) (.slice none 0 0) (.slice none 0 0) (.slice none 0 0))
  obtain ⟨j1,j2,j3⟩:=rd_fin (W:=W) (wz:=(w1.setCell ⟨W.heap.size + 1 + 1 + 1,1,none⟩ (.int .i64 0))) t 0 ⟨#[]⟩ none 0 0 HGZ.out HZZ.out
  generalize set7 (w1.setCell ⟨W.heap.size + 1 + 1 + 1,1,none⟩ (.int .i64 0)) (W.heap.size + 1 + 1) (.int .i64 t) (.int .i64 0) (.int .i64 0) (.string ⟨#[]⟩) (.slice none 0 0) (.slice none 0 0) (.slice none 0 0) = wf at *
  obtain ⟨z0,z1,z2,z3,z4,z5,z6⟩:=box7 j2
  refine bodyPost_ret (v:=.tuple #[vaV t 0 0 ⟨#[]⟩ none 0 0 none 0 0 none 0 0,.bool false]) (by simp [results,Tryz.results128,go_sem,z0,z1,z2,z3,z4,z5,z6,vaV]) rfl ⟨j1,_,_,_,_,_,_,_,_,_,_,_,_,_,_,rfl,?_,?_⟩
  ·intro h;cases h
  ·intro _;exact HRT.out
 ·have HRE2:Hid (readT (.nd k n p s l) T = (readTs l ts).map (leafVa t m ⟨#[]⟩)):=by show _ = _;rw [HRE.out,hbr]
  have HIM:=jh im
  obtain ⟨v0,v1,v2,v3,v4,v5,v6⟩:=box7 hv1
  obtain ⟨m0,m1,m2,m3,m4⟩:=box5 hn1
  have fv:=free7 hv1
  have hgs:=gSq (g:=W.heap.size + 1 + 1 + 1) (gRf w1 _) 1 none (.int .i64 m)
  have HGQ:=jh (grow_new HGZ0.out hgs (by omega))
  have HZQ:=jh ((hgs.block _ (lt_of_blk2 hz1) (by simp)).trans hz1)
  have HVQ:=jh (set_one7 hv1 (.int .i64 m)).1
  have hsq:(w1.setCell ⟨W.heap.size + 1 + 1 + 1,1,none⟩ (.int .i64 m)).heap.size = w1.heap.size:=set_size _ _ _
  have hs1:=hg1.size
  rw [HS4.out] at hs1
  have HSQ:Hid (W.heap.size + 1 + 1 + 1 + 1 <= (w1.setCell ⟨W.heap.size + 1 + 1 + 1,1,none⟩ (.int .i64 m)).heap.size):=by show _ <= _;omega
  have HCE:=jh (HE.out (w1.setCell ⟨W.heap.size + 1 + 1 + 1,1,none⟩ (.int .i64 m)) ts xa xc VX HGQ.out ((hrowT.same (w':=w1.setCell ⟨W.heap.size + 1 + 1 + 1,1,none⟩ (.int .i64 m)) (fun b o hb hlt=>World.cell?_of_block ((hgs.block b (Nat.lt_of_lt_of_le hlt hg1.size) (by simp;have h:b < W.heap.size:=hb;omega)).trans (hg1.block b hlt (by simp))))).okMono (fun _ _ _=>trivial)) hform)
  clear hrowT hform hgs hg1 n0 n1 n2 n3 HRE HE hz1 hv1 hn1 hbr HB HG4 HN4 HS4 im hsq hs1
  go_wp2_with fail
  refine HCE.out.mono ?_;rintro e w2 ⟨hg2,hw⟩
  have hz2:=(hg2.block _ (lt_of_blk2 HZQ.out) (by simp)).trans HZQ.out
  have hv2:=(hg2.block _ (lt_of_blk2 HVQ.out) (by simp)).trans HVQ.out
  have HG2:=jh (gTq HGQ.out hg2)
  clear v0 v1 v2 v3 v4 v5 v6 m0 m1 m2 m3 m4 fv HCE HGZ0
  obtain ⟨v0,v1,v2,v3,v4,v5,v6⟩:=box7 hv2
  obtain ⟨y0,y1,y2,y3,y4,y5,y6⟩:=box7 hz2
  have fv:=free7 hv2
  have fz:=free7 hz2
  rcases hw with ⟨ys,hry,ya,yc,V,rfl,hyc,hrow⟩ | ⟨hry,rfl⟩
  ·have HRT:Hid (readT (.nd k n p s l) T = some (leafVa t m ⟨#[]⟩ ys)):=by show _ = _;rw [HRE2.out,hry];rfl
   have hgs:=gSq (g:=W.heap.size + 1 + 1 + 1) (gRf w2 _) 4 none (.slice ya ys.length yc)
   have HGZ:=jh (grow_new HG2.out hgs (by omega))
   have HZZ:=jh ((hgs.block _ (lt_of_blk2 hz2) (by simp)).trans hz2)
   have hq:=HSQ.out
   have HROW:=jh ((hrow.same (w':=w2.setCell ⟨W.heap.size + 1 + 1 + 1,4,none⟩ (.slice ya ys.length yc)) (fun b o hb hlt=>World.cell?_of_block (hgs.block b hlt (by simp;have h:(w1.setCell ⟨W.heap.size + 1 + 1 + 1,1,none⟩ (.int .i64 m)).heap.size <= b:=hb;omega)))).okMono (ok':=(W.heap.size + 1 + 1 + 1 + 1 <= ·)) (fun b _ hb=>by have h:(w1.setCell ⟨W.heap.size + 1 + 1 + 1,1,none⟩ (.int .i64 m)).heap.size <= b:=hb;show W.heap.size + 1 + 1 + 1 + 1 <= b;omega))
   have HCAP:=jh hyc
   clear hrow hyc hgs hg2 hz2 hv2 hry hq HSQ HVQ HZQ HGQ
   go_wp2_with fail
   change bodyPost _ _ _ _ _ (set7 (w2.setCell ⟨W.heap.size + 1 + 1 + 1,4,none⟩ (.slice ya ys.length yc)) (W.heap.size + 1 + 1) (.int .i64 t) (.int .i64 m) (.int .i64 0) (.string ⟨#[]⟩) (.slice ya ys.length yc) (.slice none 0 0) (.slice none 0 0))
   obtain ⟨j1,j2,j3⟩:=rd_fin (W:=W) (wz:=(w2.setCell ⟨W.heap.size + 1 + 1 + 1,4,none⟩ (.slice ya ys.length yc))) t m ⟨#[]⟩ ya ys.length yc HGZ.out HZZ.out
   generalize set7 (w2.setCell ⟨W.heap.size + 1 + 1 + 1,4,none⟩ (.slice ya ys.length yc)) (W.heap.size + 1 + 1) (.int .i64 t) (.int .i64 m) (.int .i64 0) (.string ⟨#[]⟩) (.slice ya ys.length yc) (.slice none 0 0) (.slice none 0 0) = wf at *
   obtain ⟨z0,z1,z2,z3,z4,z5,z6⟩:=box7 j2
   refine bodyPost_ret (v:=.tuple #[vaV t m 0 ⟨#[]⟩ ya ys.length yc none 0 0 none 0 0,.bool true]) (by simp [results,Tryz.results128,go_sem,z0,z1,z2,z3,z4,z5,z6,vaV]) rfl ⟨j1,_,_,_,_,_,_,_,_,_,_,_,_,_,_,rfl,?_,?_⟩
   ·intro _
    exact ⟨leafVa t m ⟨#[]⟩ ys,HRT.out,liesV_leaf HIT.out HIM.out (Nat.zero_le _) (j3 ys _ HROW.out) HCAP.out⟩
   ·intro h;cases h
  ·have HRT:Hid (readT (.nd k n p s l) T = none):=by show _ = _;rw [HRE2.out,hry];rfl
   have hgs:=gSq (g:=W.heap.size + 1 + 1 + 1) (gRf w2 _) 4 none (.slice none 0 0)
   have HGZ:=jh (grow_new HG2.out hgs (by omega))
   have HZZ:=jh ((hgs.block _ (lt_of_blk2 hz2) (by simp)).trans hz2)
   clear hgs hg2 hz2 hv2 hry HSQ HVQ HZQ HGQ
   go_wp2_with fail
   change bodyPost _ _ _ _ _ (set7 (w2.setCell ⟨W.heap.size + 1 + 1 + 1,4,none⟩ (.slice none 0 0)) (W.heap.size + 1 + 1) (.int .i64 t) (.int .i64 m) (.int .i64 0) (.string ⟨#[]⟩) (.slice none 0 0) (.slice none 0 0) (.slice none 0 0))
   obtain ⟨j1,j2,j3⟩:=rd_fin (W:=W) (wz:=(w2.setCell ⟨W.heap.size + 1 + 1 + 1,4,none⟩ (.slice none 0 0))) t m ⟨#[]⟩ none 0 0 HGZ.out HZZ.out
   generalize set7 (w2.setCell ⟨W.heap.size + 1 + 1 + 1,4,none⟩ (.slice none 0 0)) (W.heap.size + 1 + 1) (.int .i64 t) (.int .i64 m) (.int .i64 0) (.string ⟨#[]⟩) (.slice none 0 0) (.slice none 0 0) (.slice none 0 0) = wf at *
   obtain ⟨z0,z1,z2,z3,z4,z5,z6⟩:=box7 j2
   refine bodyPost_ret (v:=.tuple #[vaV t m 0 ⟨#[]⟩ none 0 0 none 0 0 none 0 0,.bool false]) (by simp [results,Tryz.results128,go_sem,z0,z1,z2,z3,z4,z5,z6,vaV]) rfl ⟨j1,_,_,_,_,_,_,_,_,_,_,_,_,_,_,rfl,?_,?_⟩
   ·intro h;cases h
   ·intro _;exact HRT.out
theorem EachPost.form {r:Option (List Va)} {W:World} {e:Ending} {w':World} (h:EachPost r W e w'):∃ xa xl xc bb,e = .returned (.tuple #[.slice xa xl xc,.bool bb]) /\ (bb = true -> ∃ ys V,r = some ys /\ xl = ys.length /\ ys.length <= xc /\ RowVa (W.heap.size <= ·) w' ys xa V) /\ (bb = false -> r = none):=by
 rcases h.2 with ⟨ys,hr,a,c,V,he,hc,hrow⟩ | ⟨hr,he⟩
 ·exact ⟨a,_,c,true,he,fun _=>⟨ys,V,hr,rfl,hc,hrow⟩,fun h=>by cases h⟩
 ·exact ⟨none,0,0,false,he,(fun h=>by cases h),fun _=>hr⟩
theorem grow_ofDrewR {w w':World} {r:Option Nat} (h:w.drew.grownBy w' r):w.grownBy w' r:=⟨h.os,h.tape,h.output,h.size,h.block⟩
theorem lsCut_of {r:Option (List Va)} {W w1 w2:World} {xa:Option Addr} {xl xc:Nat} {bb:Bool} (hG:W.grownBy w2 none) (hz:w2.heap[W.heap.size + 1 + 1]? = some (.cells #[.int .i64 0,.int .i64 0,.int .i64 0,.string ⟨#[]⟩,.slice none 0 0,.slice none 0 0,.slice none 0 0] 28 (0,0))) (hs:W.heap.size + 1 + 1 + 1 + 1 <= w1.heap.size)
 (h1:bb = true -> ∃ ys V,r = some ys /\ xl = ys.length /\ ys.length <= xc /\ RowVa (w1.heap.size <= ·) w2 ys xa V) :
 W.grownBy (w2.setCell ⟨W.heap.size + 1 + 1 + 1,4,none⟩ (.slice xa xl xc)) none /\ (w2.setCell ⟨W.heap.size + 1 + 1 + 1,4,none⟩ (.slice xa xl xc)).heap[W.heap.size + 1 + 1]? = some (.cells #[.int .i64 0,.int .i64 0,.int .i64 0,.string ⟨#[]⟩,.slice none 0 0,.slice none 0 0,.slice none 0 0] 28 (0,0)) /\
 (bb = true -> ∃ ys V,r = some ys /\ xl = ys.length /\ ys.length <= xc /\ RowVa (W.heap.size + 1 + 1 + 1 + 1 <= ·) (w2.setCell ⟨W.heap.size + 1 + 1 + 1,4,none⟩ (.slice xa xl xc)) ys xa V):=by
 have hgs:=gSq (g:=W.heap.size + 1 + 1 + 1) (gRf w2 _) 4 none (.slice xa xl xc)
 refine ⟨grow_new hG hgs (by omega),(hgs.block _ (lt_of_blk2 hz) (by simp)).trans hz,fun hb=>?_⟩
 obtain ⟨ys,V,e1,e2,e3,hrow⟩:=h1 hb
 exact ⟨ys,V,e1,e2,e3,(hrow.same (fun b o hb hlt=>World.cell?_of_block (hgs.block b hlt (by simp;have h:w1.heap.size <= b:=hb;omega)))).okMono (fun b _ hb=>by have h:w1.heap.size <= b:=hb;show W.heap.size + 1 + 1 + 1 + 1 <= b;omega)⟩
theorem rd_list {W:World} (b o tc:Nat) (n p:Int) (s:ByteArray) (na:Option Addr) (nl nc:Nat) {targs:List Ty} {l:List Tr} {t0:Int} {a0:Option Addr} {l0 c0:Nat} {r:Option (List Va)} (hre:readT (.nd 3 n p s l) (.nd 10 targs) = r.map (leafVa 10 0 ⟨#[]⟩))
 (HRep:Hid (∀ W2,W.grownBy W2 none -> Calls Tryz.prog 95 #[.slice (some ⟨b,o,none⟩) 1 tc,.int .i64 nl] W2 fun e w'=>∃ g c',e = .returned (.slice (some ⟨g,0,none⟩) nl c') /\ W2.heap.size <= g /\ RepAt w' g nl nl (.int .i64 t0) (.slice a0 l0 c0) /\ W2.grownBy w' none))
 (HE:Hid (∀ W2 g c',W.grownBy W2 none -> RepAt W2 g nl nl (.int .i64 t0) (.slice a0 l0 c0) -> Calls Tryz.prog 132 #[.slice na nl nc,.slice (some ⟨g,0,none⟩) nl c'] W2 (EachPost r W2))) :
 Calls Tryz.prog 128 #[tyV 10 (some ⟨b,o,none⟩) 1 tc,nodeV 3 n p s na nl nc] W (ReadPost (.nd 3 n p s l) (.nd 10 targs) W):=by
 have HRE:=jh hre
 clear hre
 unfold tyV nodeV at *
 go_enter Tryz.func128,Tryz.ntmps128
 go_wp2_with fail
 have hwb:W.grownBy ((W.alloc (.cells #[.int .i64 10,.slice (some ⟨b,o,none⟩) 1 tc] 24)).alloc (.cells #[.int .i64 3,.int .i64 n,.int .i64 p,.string s,.slice na nl nc] 48)) none:=gTq (gBq _) (gBq _)
 have hsb:((W.alloc (.cells #[.int .i64 10,.slice (some ⟨b,o,none⟩) 1 tc] 24)).alloc (.cells #[.int .i64 3,.int .i64 n,.int .i64 p,.string s,.slice na nl nc] 48)).heap.size = W.heap.size + 1 + 1:=by simp
 have n0:=rNw W (.cells #[.int .i64 10,.slice (some ⟨b,o,none⟩) 1 tc] 24) (.cells #[.int .i64 3,.int .i64 n,.int .i64 p,.string s,.slice na nl nc] 48)
 have n1:=new_twoI W (.cells #[.int .i64 10,.slice (some ⟨b,o,none⟩) 1 tc] 24) (.cells #[.int .i64 3,.int .i64 n,.int .i64 p,.string s,.slice na nl nc] 48)
 generalize (W.alloc (.cells #[.int .i64 10,.slice (some ⟨b,o,none⟩) 1 tc] 24)).alloc (.cells #[.int .i64 3,.int .i64 n,.int .i64 p,.string s,.slice na nl nc] 48) = wb at *
 have hw5:wb.grownBy ((wb.alloc (.cells #[.int .i64 0,.int .i64 0,.int .i64 0,.string ⟨#[]⟩,.slice none 0 0,.slice none 0 0,.slice none 0 0] 28)).alloc (.cells #[.int .i64 10,.int .i64 0,.int .i64 0,.string ⟨#[]⟩,.slice none 0 0,.slice none 0 0,.slice none 0 0] 28)) none:=gTq (gBq _) (gBq _)
 have hs5:((wb.alloc (.cells #[.int .i64 0,.int .i64 0,.int .i64 0,.string ⟨#[]⟩,.slice none 0 0,.slice none 0 0,.slice none 0 0] 28)).alloc (.cells #[.int .i64 10,.int .i64 0,.int .i64 0,.string ⟨#[]⟩,.slice none 0 0,.slice none 0 0,.slice none 0 0] 28)).heap.size = W.heap.size + 1 + 1 + 1 + 1:=by simp;omega
 have n2:=rNw wb (.cells #[.int .i64 0,.int .i64 0,.int .i64 0,.string ⟨#[]⟩,.slice none 0 0,.slice none 0 0,.slice none 0 0] 28) (.cells #[.int .i64 10,.int .i64 0,.int .i64 0,.string ⟨#[]⟩,.slice none 0 0,.slice none 0 0,.slice none 0 0] 28)
 have n3:=new_twoI wb (.cells #[.int .i64 0,.int .i64 0,.int .i64 0,.string ⟨#[]⟩,.slice none 0 0,.slice none 0 0,.slice none 0 0] 28) (.cells #[.int .i64 10,.int .i64 0,.int .i64 0,.string ⟨#[]⟩,.slice none 0 0,.slice none 0 0,.slice none 0 0] 28)
 rw [hsb] at n2 n3
 generalize (wb.alloc (.cells #[.int .i64 0,.int .i64 0,.int .i64 0,.string ⟨#[]⟩,.slice none 0 0,.slice none 0 0,.slice none 0 0] 28)).alloc (.cells #[.int .i64 10,.int .i64 0,.int .i64 0,.string ⟨#[]⟩,.slice none 0 0,.slice none 0 0,.slice none 0 0] 28) = w5 at *
 have k0:∀ W3:World,wb.grownBy W3 none -> W3.heap[W.heap.size]? = _:=fun W3 h=>(h.block _ (lt_of_blk2 n0) (by simp)).trans n0
 have k1:∀ W3:World,wb.grownBy W3 none -> W3.heap[W.heap.size + 1]? = _:=fun W3 h=>(h.block _ (lt_of_blk2 n1) (by simp)).trans n1
 have f0:∀ W3:World,wb.grownBy W3 none -> W3.cell? ⟨W.heap.size + 1,4,none⟩ = some (.slice na nl nc):=fun W3 h=>(box5 (k1 W3 h)).2.2.2.2
 have f1:∀ W3:World,wb.grownBy W3 none -> W3.cell? ⟨W.heap.size,1,none⟩ = some (.slice (some ⟨b,o,none⟩) 1 tc):=fun W3 h=>c1q (k0 W3 h)
 have HWB:=jh hwb
 have HN2:=jh n2
 have HN3:=jh n3
 have hw5d:=gDr hw5
 have hle:wb.heap.size <= W.heap.size + 1 + 1 + 1:=by omega
 have HS5:=jh hs5
 have HW5:=jh hw5
 clear k0 k1 n0 n1 n2 n3 hwb hw5 hs5 hsb
 go_region_held3 (fun w'=>wb.grownBy w' none) (first | with_reducible assumption | with_reducible exact grow_setNew (by assumption) hle _ _ _ | with_reducible exact gTq (by assumption) (gBq _)) (first
  | (go_at_call 95;refine (HRep.out _ (gTq HWB.out (by assumption))).mono ?_;rintro e w1 ⟨g,c',rfl,hgs,hrep,hg⟩;have hS:=gTq hw5d hg;have HP:=jh hrep;have HG1:=jh (grow_ofDrewR hg);clear hgs hrep hg)
  | (go_at_call 132;refine (HE.out _ _ _ (gTq HWB.out (by assumption)) HP.out).mono ?_;rintro e w2 hpost;obtain ⟨xa,xl,xc,bb,rfl,hpt,hpf⟩:=hpost.form;have hS2:=gTq (by assumption) hpost.1;have hg2:=gTq HG1.out hpost.1;have HZ2:=jh ((hg2.block _ (lt_of_blk2 HN2.out) (by simp)).trans HN2.out);have HV2:=jh ((hg2.block _ (lt_of_blk2 HN3.out) (by simp)).trans HN3.out);have fv:=free7 HV2.out;have HG2:=jh (gTq HWB.out hS2);have HPT:=jh hpt;have HPF:=jh hpf;have HS1:Hid (W.heap.size + 1 + 1 + 1 + 1 <= w1.heap.size):=(by show _ <= _;have h1:=HG1.out.size;have h2:=HS5.out;have h3:w5.heap.size <= w1.heap.size:=h1;omega);obtain ⟨v0,v1,v2,v3,v4,v5,v6⟩:=box7 HV2.out;obtain ⟨y0,y1,y2,y3,y4,y5,y6⟩:=box7 HZ2.out;have fz:=free7 HZ2.out;clear hpost hpt hpf hg2 f0 f1))
 all_goals
  have HCUT:=jh (lsCut_of HG2.out HZ2.out HS1.out HPT.out)
  clear HRep HE hw5d HWB HN2 HN3 HW5 HS5 HPT HP HG1
  go_wp2_with fail
  obtain ⟨hgz,hzz,hpt⟩:=HCUT.out
  have HGZ:=jh hgz
  have HZZ:=jh hzz
  change bodyPost _ _ _ _ _ (set7 (w2.setCell ⟨W.heap.size + 1 + 1 + 1,4,none⟩ (.slice xa xl xc)) (W.heap.size + 1 + 1) (.int .i64 10) (.int .i64 0) (.int .i64 0) (.string ⟨#[]⟩) (.slice xa xl xc) (.slice none 0 0) (.slice none 0 0))
  obtain ⟨j1,j2,j3⟩:=rd_fin (W:=W) (wz:=(w2.setCell ⟨W.heap.size + 1 + 1 + 1,4,none⟩ (.slice xa xl xc))) 10 0 ⟨#[]⟩ xa xl xc HGZ.out HZZ.out
  generalize set7 (w2.setCell ⟨W.heap.size + 1 + 1 + 1,4,none⟩ (.slice xa xl xc)) (W.heap.size + 1 + 1) (.int .i64 10) (.int .i64 0) (.int .i64 0) (.string ⟨#[]⟩) (.slice xa xl xc) (.slice none 0 0) (.slice none 0 0) = wf at *
  obtain ⟨z0,z1,z2,z3,z4,z5,z6⟩:=box7 j2
  refine bodyPost_ret (v:=.tuple #[vaV 10 0 0 ⟨#[]⟩ xa xl xc none 0 0 none 0 0,.bool bb]) (by simp [results,Tryz.results128,go_sem,z0,z1,z2,z3,z4,z5,z6,vaV]) rfl ⟨j1,_,_,_,_,_,_,_,_,_,_,_,_,_,_,rfl,?_,?_⟩
  ·intro hb
   obtain ⟨ys,V,e1,e2,e3,hrow⟩:=hpt hb
   subst e2
   exact ⟨leafVa 10 0 ⟨#[]⟩ ys,by rw [HRE.out,e1];rfl,liesV_leaf ⟨by omega,by omega⟩ ⟨by omega,by omega⟩ (Nat.zero_le _) (j3 ys _ hrow) e3⟩
  ·intro hb
   rw [HRE.out,HPF.out hb];rfl
theorem leafPost {t n:Int} {s:ByteArray} {tr:Tr} {T:Ty} {W:World} {bb:Bool} (it:I64 t) (iN:I64 n) (hs:s.size <= maxLen) (h1:bb = true -> readT tr T = some (leafVa t n s [])) (h2:bb = false -> readT tr T = none) {e:Ending} {w':World} (h:e = .returned (.tuple #[vaV t n 0 s none 0 0 none 0 0 none 0 0,.bool bb]) /\ W.grownBy w' none):ReadPost tr T W e w' :=
 ⟨h.2,_,_,_,_,_,_,_,_,_,_,_,_,_,_,h.1,fun hb=>⟨_,h1 hb,liesV_leaf (ys:=[]) it iN hs (RowVa.nil _ _ none (fun _=>.int .i64 0)) (Nat.le_refl _)⟩,h2⟩
theorem read_step {N:Nat} (hN:ReadN N):ReadN (N + 1):=by
 intro tr T u tv W d hz hz9 hL hT hf
 obtain ⟨na,nc,VN,rfl,⟨ik,iN,ip,hs⟩,hRN⟩:=hL.invN
 have hTc:=hT
 have hTW:LiesT (· < W.heap.size) W T tv:=hT.okMono (fun b hb _=>hb)
 obtain ⟨ta,tc,VT,rfl,it,hRT⟩:=hT.inv
 have hse:=tsize_eq tr
 have hll:=length_le_sizes tr.args0
 obtain ⟨hlen,hfa⟩:=formed_args2 hf
 have I0:I64 0:=⟨by omega,by omega⟩
 obtain ⟨k,n,p,s,l⟩:=tr
 simp only [Tr.k0,Tr.n0,Tr.p0,Tr.s0,Tr.args0] at *
 have hEach:∀ W2 ts xa xc VX,W.grownBy W2 none -> RowT (fun _=>True) W2 ts xa VX -> (∃ d,∀ U ∈ ts,fBq d U = true) -> Calls Tryz.prog 132 #[.slice na l.length nc,.slice xa ts.length xc] W2 (EachPost (readTs l ts) W2):=fun W2 ts xa xc VX hg hr hd=>by
  obtain ⟨d',hd'⟩:=hd
  exact readEach_any hN (hRN.same (sAl hg)) hr hd' (by omega) (by omega)
 obtain ⟨t,targs⟩:=T
 simp only [Ty.t,Ty.args] at *
 by_cases h3:t = 3
 ·subst h3
  exact (rd_int3 _ _ _ _ _ _ _ _ _ _ _).mono fun e w' h=>leafPost it iN (Nat.zero_le _) (fun hb=>by rw [readT];simp [Ty.t];simpa using hb) (fun hb=>by rw [readT];simp [Ty.t];simpa using hb) h
 by_cases h4:t = 4
 ·subst h4
  exact (rd_int4 _ _ _ _ _ _ _ _ _ _ _).mono fun e w' h=>leafPost it iN (Nat.zero_le _) (fun hb=>by rw [readT];simp [Ty.t];simpa using hb) (fun hb=>by rw [readT];simp [Ty.t];simpa using hb) h
 by_cases h5:t = 5
 ·subst h5
  exact (rd_int5 _ _ _ _ _ _ _ _ _ _ _).mono fun e w' h=>leafPost it iN (Nat.zero_le _) (fun hb=>by rw [readT];simp [Ty.t];simpa using hb) (fun hb=>by rw [readT];simp [Ty.t];simpa using hb) h
 by_cases h7:t = 7
 ·subst h7
  exact (rd_int7 _ _ _ _ _ _ _ _ _ _ _).mono fun e w' h=>leafPost it iN (Nat.zero_le _) (fun hb=>by rw [readT];simp [Ty.t];simpa using hb) (fun hb=>by rw [readT];simp [Ty.t];simpa using hb) h
 by_cases h6:t = 6
 ·subst h6
  exact (rd_text _ _ _ _ _ _ _ _ _ _ _).mono fun e w' h=>leafPost it I0 hs (fun hb=>by rw [readT];simp [Ty.t];simpa using hb) (fun hb=>by rw [readT];simp [Ty.t];simpa using hb) h
 by_cases h10:t = 10
 ·subst h10
  by_cases hk:k = 3
  ·subst hk
   have hl1:targs.length = 1:=by simp [partsF] at hlen;omega
   obtain ⟨A,rfl⟩:=List.length_eq_one_iff.1 hl1
   obtain ⟨b,o,rfl,_,t0,a0,l0,c0,hv0,e0,e1⟩:=hRT.2.1 0 (by simp)
   have hA:=hRT.2.2 0 (by simp)
   rw [hv0] at hA
   refine rd_list b o tc n p s na l.length nc (t0:=t0) (a0:=a0) (l0:=l0) (c0:=c0) (r:=readTs l (List.replicate l.length A)) (by rw [readT];simp [Ty.t,Ty.args,tAq]) (fun W2 hg=>?_) (fun W2 g c' hg hrep=>?_)
   ·exact repeat_at t0 a0 l0 c0 b o l.length tc (by omega) W2 (by have:=(World.cell?_of_block (hg.block b (World.block_lt_of_cell? W _ e0) (by simp))).trans e0;simpa using this) (by have:=(World.cell?_of_block (hg.block b (World.block_lt_of_cell? W _ e0) (by simp))).trans e1;simpa using this)
   ·have ht:=rep_tys (T:=A) (W:=W2) (w:=W2) (LiesT.same hA (sAl hg)) (by unfold maxLen;omega) hrep
    have h:=hEach W2 (List.replicate l.length A) (some ⟨g,0,none⟩) c' _ hg ⟨ht.1,fun i hi=>(ht.2 i hi).1,fun i hi=>(ht.2 i hi).2⟩ ⟨d + 1,fun U hU=>by rw [List.eq_of_mem_replicate hU];exact hfa A (by simp)⟩
    rw [List.length_replicate] at h
    exact h
  ·exact (rd_list0 _ _ _ _ _ _ _ _ _ _ _ hk).mono fun e w' h=>leafPost it I0 (Nat.zero_le _) (fun hb=>by cases hb) (fun _=>by rw [readT];simp [Ty.t,hk]) h
 by_cases h13:t = 13
 ·subst h13
  by_cases hk:k = 3
  ·subst hk
   exact rd_map _ _ _ n p s _ _ _ targs l (fun W2 hg=>readElts_any hN (LiesT.same hTc (sAl hg)) (hRN.same (sAl hg)) hfa (by omega) (by omega))
  ·exact (rd_map0 _ _ _ _ _ _ _ _ _ _ _ hk).mono fun e w' h=>leafPost it I0 (Nat.zero_le _) (fun hb=>by cases hb) (fun _=>by rw [readT];simp [Ty.t,hk]) h
 exact rd_def _ _ _ k n p s _ _ _ rfl it h3 h4 h5 h6 h7 h10 h13 (fun W2 hg=>branch_any (hTW.same (fun b o hb _=>World.cell?_of_block (hg.block b hb (by simp)))) hf p) hEach
theorem read_all:∀ N,ReadN N
 | 0=>fun t _ _ _ _ _ h=>by have:=size_pos t;omega
 | N + 1=>read_step (read_all N)
def PutPost (B:Nat) (w:World) (vb:Value) (l:List UInt8) (e:Ending) (w':World):Prop:=∃ v',e = .returned v' /\ Owns B w' v' l /\ Gr w vb w' v'
theorem wrong_zero {k n p:Int} {s:ByteArray} {l:Nat} (h:Lf.wrongF k n p s l = 0):(0 <= k /\ k <= 3) /\ (k = 2 -> Lf.isPrimB p = true) /\ Lf.moreB k n p s l = false /\ (-1152921504606846976 <= n /\ n <= 1152921504606846976) /\ s.size <= 200:=by
 unfold Lf.wrongF at h
 by_cases h1:Lf.isKindB k = false
 ·simp [h1] at h
 rw [if_neg h1] at h
 by_cases h2:k = 2 /\ Lf.isPrimB p = false
 ·simp [h2] at h
 rw [if_neg h2] at h
 by_cases h3:Lf.moreB k n p s l = true
 ·simp [h3] at h
 rw [if_neg h3] at h
 by_cases h4:n < -1152921504606846976 \/ 1152921504606846976 < n
 ·rw [if_pos h4] at h;omega
 rw [if_neg h4] at h
 by_cases h5:200 < s.size
 ·rw [if_pos h5] at h;omega
 refine ⟨by simpa [Lf.isKindB] using h1,fun e=>?_,by simpa using h3,by omega,by omega⟩
 simpa [e] using h2
theorem PutPost.mk {B:Nat} {w w':World} {vb v':Value} {l l':List UInt8} (ho:Owns B w' v' l') (hg:Gr w vb w' v') (hl:l' = l):PutPost B w vb l (.returned v') w':=by
 subst hl;exact ⟨v',rfl,ho,hg⟩
theorem goodF_zero {t:Tr} (h:goodF t = 0):firstW 1 t = 0 /\ t.size <= 300:=by
 unfold goodF at h
 by_cases h0:firstW 1 t = 0
 ·rw [if_neg (by simpa using h0)] at h
  by_cases h1:300 < t.size
  ·rw [if_pos h1] at h;omega
  ·exact ⟨h0,by omega⟩
 ·rw [if_pos h0] at h;exact absurd h h0
mutual
theorem readT_size:∀ (t:Tr) (T:Ty) (x:Va),readT t T = some x -> x.size <= t.size
 | .nd k n p s args,T,x=>by
  intro h
  have hv:∀ (a b:Int) (c:ByteArray) (ys:List Va),(leafVa a b c ys).size = vsizes ys + 1:=fun a b c ys=>by simp [leafVa,Va.size,tysizes,sizes]
  have h0:vsizes [] = 0:=rfl
  rw [Tr.size]
  rw [readT] at h
  split at h
  ·split at h
   ·simp only [Option.some.injEq] at h;subst h;rw [hv,h0];omega
   ·cases h
  ·split at h
   ·split at h
    ·simp only [Option.some.injEq] at h;subst h;rw [hv,h0];omega
    ·cases h
   ·split at h
    ·split at h
     ·simp only [Option.map_eq_some_iff] at h
      obtain ⟨ys,h1,rfl⟩:=h
      have:=readTs_size args _ ys h1
      rw [hv];omega
     ·cases h
    ·split at h
     ·split at h
      ·simp only [Option.map_eq_some_iff] at h
       obtain ⟨ys,h1,rfl⟩:=h
       have:=readEs_size args _ ys h1
       rw [hv];omega
      ·cases h
     ·split at h
      ·cases h
      ·simp only [Option.map_eq_some_iff] at h
       obtain ⟨ys,h1,rfl⟩:=h
       have:=readTs_size args _ ys h1
       rw [hv];omega
theorem readTs_size:∀ (l:List Tr) (ts:List Ty) (xs:List Va),readTs l ts = some xs -> vsizes xs <= sizes l
 | [],[],xs=>by intro h;simp [readTs] at h;subst h;simp [vsizes,sizes]
 | [],_ :: _,xs=>by intro h;simp [readTs] at h
 | _ :: _,[],xs=>by intro h;simp [readTs] at h
 | t :: l,T :: ts,xs=>by
  intro h
  rw [readTs] at h
  cases hx:readT t T with
  | none=>rw [hx] at h;cases h
  | some x =>
   rw [hx] at h
   simp only [Option.map_eq_some_iff] at h
   obtain ⟨ys,h1,rfl⟩:=h
   have e1:=readT_size t T x hx
   have e2:=readTs_size l ts ys h1
   rw [vsizes,sizes];omega
theorem readEs_size:∀ (l:List Tr) (ts:List Ty) (xs:List Va),readEs l ts = some xs -> vsizes xs <= sizes l
 | [],ts,xs=>by intro h;simp [readEs] at h;subst h;simp [vsizes,sizes]
 | .nd k n p s args :: l,ts,xs=>by
  intro h
  rw [readEs] at h
  cases hx:readTs args ts with
  | none=>rw [hx] at h;cases h
  | some ys =>
   rw [hx] at h
   simp only at h
   split at h
   ·simp only [Option.map_eq_some_iff] at h
    obtain ⟨zs,h1,rfl⟩:=h
    have e1:=readTs_size args ts ys hx
    have e2:=readEs_size l ts zs h1
    have hv:(leafVa 11 0 ⟨#[]⟩ ys).size = vsizes ys + 1:=by simp [leafVa,Va.size,tysizes,sizes]
    rw [vsizes,sizes,hv,Tr.size];omega
   ·cases h
end
def parseF (T:Ty) (t:Tr):Option Va:=if gYq T = true /\ goodF t = 0 then (match readT t T with
 | none=>none
 | some x=>if hasF T x = true then some x else none) else none
def ParsePost (T:Ty) (t:Tr) (W:World) (e:Ending) (w':World):Prop :=
 W.grownBy w' none /\ ((∃ x v,parseF T t = some x /\ e = .returned (.tuple #[v,.int .i64 0]) /\ LiesV (W.heap.size <= ·) w' x v) \/ (parseF T t = none /\ e = .returned (.tuple #[vaV 0 0 0 ⟨#[]⟩ none 0 0 none 0 0 none 0 0,.int .i64 1])))
theorem parse_any {W:World} {T:Ty} {t:Tr} {tv u:Value} (hT:LiesT (fun _=>True) W T tv) (hL:Lies (fun _=>True) W t u) (hz:t.size <= 4611686018427387903):Calls Tryz.prog 117 #[tv,u] W (ParsePost T t W):=by
 obtain ⟨k,n,p,s,na,nl,nc,rfl⟩:=hL.nodeV
 have hT0:=hT
 obtain ⟨ta,tc,VT,rfl,it,hRT⟩:=hT.inv
 have HG:Hid (∀ W2,W.grownBy W2 none -> Calls Tryz.prog 37 #[tyV T.t ta T.args.length tc] W2 fun e w'=>e = .returned (.bool (gYq T)) /\ W2.grownBy w' none):=fun W2 hg=>kgood_any (LiesT.up hT0 hg)
 have HN:Hid (∀ W2,W.grownBy W2 none -> Calls Tryz.prog 39 #[nodeV k n p s na nl nc] W2 fun e w'=>e = .returned (.int .i64 (goodF t)) /\ W2.grownBy w' none):=fun W2 hg=>good_any ((hL.same (sAl hg)).okMono (fun b hb _=>hb)) (by omega)
 have HR:Hid (gYq T = true -> goodF t = 0 -> ∀ W2,W.grownBy W2 none -> Calls Tryz.prog 128 #[tyV T.t ta T.args.length tc,nodeV k n p s na nl nc] W2 (ReadPost t T W2)):=fun h1 h2 W2 hg=>by
  have hs:=(goodF_zero h2).2
  exact read_all t.size t T _ _ W2 1 (Nat.le_refl _) (by omega) (hL.same (sAl hg)) (LiesT.same hT0 (sAl hg)) (goodTy_formed h1).1
 have HH:Hid (∀ (x:Va) (v:Value) (W2:World),W.grownBy W2 none -> LiesV (fun _=>True) W2 x v -> x.size <= 20000000 -> Calls Tryz.prog 31 #[tyV T.t ta T.args.length tc,v] W2 fun e w'=>e = .returned (.bool (hasF T x)) /\ W2.grownBy w' none):=fun x v W2 hg hx hzx=>has_any (LiesT.same hT0 (sAl hg)) hx hzx W2 (gRf _ _)
 have HA0:=jh (heap_keep (o:=(.cells #[.int .i64 0,.int .i64 0,.int .i64 0,.string ⟨#[]⟩,.slice none 0 0,.slice none 0 0,.slice none 0 0] 28)) (rNw W (.cells #[.int .i64 T.t,.slice ta T.args.length tc] 24) (.cells #[.int .i64 k,.int .i64 n,.int .i64 p,.string s,.slice na nl nc] 48)))
 have HB0:=jh (new_2of3 W (.cells #[.int .i64 T.t,.slice ta T.args.length tc] 24) (.cells #[.int .i64 k,.int .i64 n,.int .i64 p,.string s,.slice na nl nc] 48) (.cells #[.int .i64 0,.int .i64 0,.int .i64 0,.string ⟨#[]⟩,.slice none 0 0,.slice none 0 0,.slice none 0 0] 28))
 have HZ0:=jh (new_3of3 W (.cells #[.int .i64 T.t,.slice ta T.args.length tc] 24) (.cells #[.int .i64 k,.int .i64 n,.int .i64 p,.string s,.slice na nl nc] 48) (.cells #[.int .i64 0,.int .i64 0,.int .i64 0,.string ⟨#[]⟩,.slice none 0 0,.slice none 0 0,.slice none 0 0] 28))
 have HG0:=jh (gTq (gTq (gBq (w:=W) (.cells #[.int .i64 T.t,.slice ta T.args.length tc] 24)) (gBq (.cells #[.int .i64 k,.int .i64 n,.int .i64 p,.string s,.slice na nl nc] 48))) (gBq (.cells #[.int .i64 0,.int .i64 0,.int .i64 0,.string ⟨#[]⟩,.slice none 0 0,.slice none 0 0,.slice none 0 0] 28)))
 clear hT hL hT0 hRT it
 unfold tyV nodeV at *
 cases hgd:gYq T with
 | false =>
  have HP:Hid (parseF T t = none):=by show _ = _;unfold parseF;rw [if_neg (by rw [hgd];simp)]
  have HGD:=jh hgd
  clear hgd
  go_enter Tryz.func117,Tryz.ntmps117
  go_wp2_with fail
  refine (HG.out _ HG0.out).mono ?_;rintro e w1 ⟨rfl,hg⟩
  rw [HGD.out]
  have HZ1:=jh ((hg.block _ (lt_of_blk2 HZ0.out) (by simp)).trans HZ0.out)
  have HG1:=jh (gTq HG0.out hg)
  obtain ⟨z10,z11,z12,z13,z14,z15,z16⟩:=box7 HZ1.out
  have y1:=free7 HZ1.out
  clear hg
  go_wp2_with fail
  change bodyPost _ _ _ _ _ (set7 w1 (W.heap.size + 1 + 1) (.int .i64 0) (.int .i64 0) (.int .i64 0) (.string ⟨#[]⟩) (.slice none 0 0) (.slice none 0 0) (.slice none 0 0))
  have hb':=set7_block HZ1.out (.int .i64 0) (.int .i64 0) (.int .i64 0) (.string ⟨#[]⟩) (.slice none 0 0) (.slice none 0 0) (.slice none 0 0)
  have hgs:=set7_grow w1 (W.heap.size + 1 + 1) (.int .i64 0) (.int .i64 0) (.int .i64 0) (.string ⟨#[]⟩) (.slice none 0 0) (.slice none 0 0) (.slice none 0 0)
  have hg':=grow_new HG1.out hgs (by omega)
  generalize set7 w1 (W.heap.size + 1 + 1) (.int .i64 0) (.int .i64 0) (.int .i64 0) (.string ⟨#[]⟩) (.slice none 0 0) (.slice none 0 0) (.slice none 0 0) = wf at *
  obtain ⟨f0,f1,f2,f3,f4,f5,f6⟩:=box7 hb'
  exact bodyPost_ret (v:=.tuple #[vaV 0 0 0 ⟨#[]⟩ none 0 0 none 0 0 none 0 0,.int .i64 1]) (by simp [results,Tryz.results117,go_sem,f0,f1,f2,f3,f4,f5,f6,vaV]) rfl ⟨hg',.inr ⟨HP.out,rfl⟩⟩
 | true =>
  by_cases hgn:goodF t = 0
  ·have HRD:=jh (HR.out hgd hgn)
   have HPF:Hid (parseF T t = match readT t T with
    | none=>none
    | some x=>if hasF T x = true then some x else none):=by show _ = _;unfold parseF;rw [if_pos ⟨hgd,hgn⟩]
   have HSZ:Hid (∀ x,readT t T = some x -> x.size <= 20000000):=fun x hx=>by have h1:=readT_size t T x hx;have h2:=(goodF_zero hgn).2;omega
   have HGD:=jh hgd
   have HGN:=jh hgn
   clear hgd hgn HR
   go_enter Tryz.func117,Tryz.ntmps117
   go_wp2_with fail
   refine (HG.out _ HG0.out).mono ?_;rintro e w1 ⟨rfl,hg⟩
   rw [HGD.out]
   have HA1:=jh ((hg.block _ (lt_of_blk2 HA0.out) (by simp)).trans HA0.out)
   have HB1:=jh ((hg.block _ (lt_of_blk2 HB0.out) (by simp)).trans HB0.out)
   have HZ1:=jh ((hg.block _ (lt_of_blk2 HZ0.out) (by simp)).trans HZ0.out)
   have HG1:=jh (gTq HG0.out hg)
   have a10:=c0q HA1.out
   have a11:=c1q HA1.out
   obtain ⟨b10,b11,b12,b13,b14⟩:=box5 HB1.out
   obtain ⟨z10,z11,z12,z13,z14,z15,z16⟩:=box7 HZ1.out
   have y1:=free7 HZ1.out
   clear hg
   go_wp2_with fail
   refine (HN.out _ HG1.out).mono ?_;rintro e w2 ⟨rfl,hg⟩
   rw [HGN.out]
   have HA2:=jh ((hg.block _ (lt_of_blk2 HA1.out) (by simp)).trans HA1.out)
   have HB2:=jh ((hg.block _ (lt_of_blk2 HB1.out) (by simp)).trans HB1.out)
   have HZ2:=jh ((hg.block _ (lt_of_blk2 HZ1.out) (by simp)).trans HZ1.out)
   have HG2:=jh (gTq HG1.out hg)
   have a20:=c0q HA2.out
   have a21:=c1q HA2.out
   obtain ⟨b20,b21,b22,b23,b24⟩:=box5 HB2.out
   obtain ⟨z20,z21,z22,z23,z24,z25,z26⟩:=box7 HZ2.out
   have y2:=free7 HZ2.out
   clear hg
   clear a10 a11 b10 b11 b12 b13 b14 z10 z11 z12 z13 z14 z15 z16 y1
   go_wp2_with fail
   refine (HRD.out _ HG2.out).mono ?_;rintro e w3 ⟨hg,kk,nn,aa,ss,xa,xl,xc,ya,yl,yc,za,zl,zc,bb,rfl,hpt,hpf⟩
   have HA3:=jh ((hg.block _ (lt_of_blk2 HA2.out) (by simp)).trans HA2.out)
   have HZ3:=jh ((hg.block _ (lt_of_blk2 HZ2.out) (by simp)).trans HZ2.out)
   have HW23:=jh hg
   have HG3:=jh (gTq HG2.out hg)
   have a30:=c0q HA3.out
   have a31:=c1q HA3.out
   obtain ⟨z30,z31,z32,z33,z34,z35,z36⟩:=box7 HZ3.out
   have y3:=free7 HZ3.out
   clear hg
   clear a20 a21 b20 b21 b22 b23 b24 z20 z21 z22 z23 z24 z25 z26 y2
   have l2:W.heap.size + 1 + 1 < w3.heap.size:=lt_of_blk2 HZ3.out
   have l0:W.heap.size < w3.heap.size:=by omega
   have lz2:W.heap.size + 1 + 1 < w2.heap.size:=lt_of_blk2 HZ2.out
   have HX9:=jh (heap_alloc_new w3 (.cells #[.int .i64 kk,.int .i64 nn,.int .i64 aa,.string ss,.slice xa xl xc,.slice ya yl yc,.slice za zl zc] 28))
   have HA9:=jh (heap_keep (o:=(.cells #[.int .i64 kk,.int .i64 nn,.int .i64 aa,.string ss,.slice xa xl xc,.slice ya yl yc,.slice za zl zc] 28)) HA3.out)
   have HZ9:=jh (heap_keep (o:=(.cells #[.int .i64 kk,.int .i64 nn,.int .i64 aa,.string ss,.slice xa xl xc,.slice ya yl yc,.slice za zl zc] 28)) HZ3.out)
   have HG9:=jh (gTq HG3.out (gBq (w:=w3) (.cells #[.int .i64 kk,.int .i64 nn,.int .i64 aa,.string ss,.slice xa xl xc,.slice ya yl yc,.slice za zl zc] 28)))
   unfold vaV
   cases bb with
   | false =>
    have HP:Hid (parseF T t = none):=by show _ = _;rw [HPF.out,hpf rfl]
    clear hpt hpf HPF HSZ HRD HH HG HN
    go_wp2_with fail
    change bodyPost _ _ _ _ _ ((set7 w3 (W.heap.size + 1 + 1) (.int .i64 0) (.int .i64 0) (.int .i64 0) (.string ⟨#[]⟩) (.slice none 0 0) (.slice none 0 0) (.slice none 0 0)).alloc (.cells #[.int .i64 kk,.int .i64 nn,.int .i64 aa,.string ss,.slice xa xl xc,.slice ya yl yc,.slice za zl zc] 28))
    have hb':=heap_keep (o:=(.cells #[.int .i64 kk,.int .i64 nn,.int .i64 aa,.string ss,.slice xa xl xc,.slice ya yl yc,.slice za zl zc] 28)) (set7_block HZ3.out (.int .i64 0) (.int .i64 0) (.int .i64 0) (.string ⟨#[]⟩) (.slice none 0 0) (.slice none 0 0) (.slice none 0 0))
    have hg':=gTq (grow_new HG3.out (set7_grow w3 (W.heap.size + 1 + 1) (.int .i64 0) (.int .i64 0) (.int .i64 0) (.string ⟨#[]⟩) (.slice none 0 0) (.slice none 0 0) (.slice none 0 0)) (by omega)) (gBq (.cells #[.int .i64 kk,.int .i64 nn,.int .i64 aa,.string ss,.slice xa xl xc,.slice ya yl yc,.slice za zl zc] 28))
    generalize (set7 w3 (W.heap.size + 1 + 1) (.int .i64 0) (.int .i64 0) (.int .i64 0) (.string ⟨#[]⟩) (.slice none 0 0) (.slice none 0 0) (.slice none 0 0)).alloc (.cells #[.int .i64 kk,.int .i64 nn,.int .i64 aa,.string ss,.slice xa xl xc,.slice ya yl yc,.slice za zl zc] 28) = wf at *
    obtain ⟨f0,f1,f2,f3,f4,f5,f6⟩:=box7 hb'
    exact bodyPost_ret (v:=.tuple #[vaV 0 0 0 ⟨#[]⟩ none 0 0 none 0 0 none 0 0,.int .i64 1]) (by simp [results,Tryz.results117,go_sem,f0,f1,f2,f3,f4,f5,f6,vaV]) rfl ⟨hg',.inr ⟨HP.out,rfl⟩⟩
   | true =>
    obtain ⟨x,hx,hLx⟩:=hpt rfl
    have HPX:Hid (parseF T t = if hasF T x = true then some x else none):=by show _ = _;rw [HPF.out,hx]
    have hLx9:=hLx.same (w':=w3.alloc (.cells #[.int .i64 kk,.int .i64 nn,.int .i64 aa,.string ss,.slice xa xl xc,.slice ya yl yc,.slice za zl zc] 28)) (fun b o _ hlt=>World.cell?_of_block (heap_alloc_old (w:=w3) (o:=_) (h:=hlt)))
    have HC:=jh (HH.out x _ _ HG9.out (hLx9.okMono (fun _ _ _=>trivial)) (HSZ.out x hx))
    unfold vaV at HC
    have HLX9:=jh hLx9
    clear hpt hpf HPF HSZ HRD HH HG HN hx hLx hLx9
    go_wp2_with fail
    refine HC.out.mono ?_;rintro e w4 ⟨rfl,hg⟩
    have HZ4:=jh ((hg.block _ (lt_of_blk2 HZ9.out) (by simp)).trans HZ9.out)
    have HX4:=jh ((hg.block _ (lt_of_blk2 HX9.out) (by simp)).trans HX9.out)
    have HG4:=jh (gTq HG9.out hg)
    obtain ⟨z40,z41,z42,z43,z44,z45,z46⟩:=box7 HZ4.out
    obtain ⟨v40,v41,v42,v43,v44,v45,v46⟩:=box7 HX4.out
    have y4:=free7 HZ4.out
    have HLX:=jh (HLX9.out.same (w':=w4) (fun b o _ hlt=>World.cell?_of_block (hg.block b hlt (by simp))))
    clear hg a30 a31 z30 z31 z32 z33 z34 z35 z36 y3 HLX9 HC
    cases hh:hasF T x with
    | false =>
     have HP:Hid (parseF T t = none):=by show _ = _;rw [HPX.out,hh];rfl
     clear hh HPX
     go_wp2_with fail
     change bodyPost _ _ _ _ _ (set7 w4 (W.heap.size + 1 + 1) (.int .i64 0) (.int .i64 0) (.int .i64 0) (.string ⟨#[]⟩) (.slice none 0 0) (.slice none 0 0) (.slice none 0 0))
     have hb':=set7_block HZ4.out (.int .i64 0) (.int .i64 0) (.int .i64 0) (.string ⟨#[]⟩) (.slice none 0 0) (.slice none 0 0) (.slice none 0 0)
     have hgs:=set7_grow w4 (W.heap.size + 1 + 1) (.int .i64 0) (.int .i64 0) (.int .i64 0) (.string ⟨#[]⟩) (.slice none 0 0) (.slice none 0 0) (.slice none 0 0)
     have hg':=grow_new HG4.out hgs (by omega)
     generalize set7 w4 (W.heap.size + 1 + 1) (.int .i64 0) (.int .i64 0) (.int .i64 0) (.string ⟨#[]⟩) (.slice none 0 0) (.slice none 0 0) (.slice none 0 0) = wf at *
     obtain ⟨f0,f1,f2,f3,f4,f5,f6⟩:=box7 hb'
     exact bodyPost_ret (v:=.tuple #[vaV 0 0 0 ⟨#[]⟩ none 0 0 none 0 0 none 0 0,.int .i64 1]) (by simp [results,Tryz.results117,go_sem,f0,f1,f2,f3,f4,f5,f6,vaV]) rfl ⟨hg',.inr ⟨HP.out,rfl⟩⟩
    | true =>
     have HP:Hid (parseF T t = some x):=by show _ = _;rw [HPX.out,hh];rfl
     clear hh HPX
     go_wp2_with fail
     change bodyPost _ _ _ _ _ (set7 w4 (W.heap.size + 1 + 1) (.int .i64 kk) (.int .i64 nn) (.int .i64 aa) (.string ss) (.slice xa xl xc) (.slice ya yl yc) (.slice za zl zc))
     have hb':=set7_block HZ4.out (.int .i64 kk) (.int .i64 nn) (.int .i64 aa) (.string ss) (.slice xa xl xc) (.slice ya yl yc) (.slice za zl zc)
     have hgs:=set7_grow w4 (W.heap.size + 1 + 1) (.int .i64 kk) (.int .i64 nn) (.int .i64 aa) (.string ss) (.slice xa xl xc) (.slice ya yl yc) (.slice za zl zc)
     have hg':=grow_new HG4.out hgs (by omega)
     generalize set7 w4 (W.heap.size + 1 + 1) (.int .i64 kk) (.int .i64 nn) (.int .i64 aa) (.string ss) (.slice xa xl xc) (.slice ya yl yc) (.slice za zl zc) = wf at *
     obtain ⟨f0,f1,f2,f3,f4,f5,f6⟩:=box7 hb'
     refine bodyPost_ret (v:=.tuple #[vaV kk nn aa ss xa xl xc ya yl yc za zl zc,.int .i64 0]) (by simp [results,Tryz.results117,go_sem,f0,f1,f2,f3,f4,f5,f6,vaV]) rfl ⟨hg',.inl ⟨_,_,HP.out,rfl,?_⟩⟩
     exact HLX.out.same (w':=wf) (fun b o hb hlt=>World.cell?_of_block (hgs.block b hlt (by simp;have h:w2.heap.size <= b:=hb;omega))) |>.okMono (fun b _ hb=>by have h:w2.heap.size <= b:=hb;show W.heap.size <= b;omega)
  ·have HP:Hid (parseF T t = none):=by show _ = _;unfold parseF;rw [if_neg (by intro h;exact hgn h.2)]
   have hgnb:(goodF t == 0) = false:=by simpa using hgn
   generalize goodF t = gf at *
   have HGD:=jh hgd
   clear hgd HR hgn
   go_enter Tryz.func117,Tryz.ntmps117
   go_wp2_with fail
   refine (HG.out _ HG0.out).mono ?_;rintro e w1 ⟨rfl,hg⟩
   rw [HGD.out]
   have HA1:=jh ((hg.block _ (lt_of_blk2 HA0.out) (by simp)).trans HA0.out)
   have HB1:=jh ((hg.block _ (lt_of_blk2 HB0.out) (by simp)).trans HB0.out)
   have HZ1:=jh ((hg.block _ (lt_of_blk2 HZ0.out) (by simp)).trans HZ0.out)
   have HG1:=jh (gTq HG0.out hg)
   have a10:=c0q HA1.out
   have a11:=c1q HA1.out
   obtain ⟨b10,b11,b12,b13,b14⟩:=box5 HB1.out
   obtain ⟨z10,z11,z12,z13,z14,z15,z16⟩:=box7 HZ1.out
   have y1:=free7 HZ1.out
   clear hg
   go_wp2_with fail
   refine (HN.out _ HG1.out).mono ?_;rintro e w2 ⟨rfl,hg⟩
   have HZ2:=jh ((hg.block _ (lt_of_blk2 HZ1.out) (by simp)).trans HZ1.out)
   have HG2:=jh (gTq HG1.out hg)
   obtain ⟨z20,z21,z22,z23,z24,z25,z26⟩:=box7 HZ2.out
   have y2:=free7 HZ2.out
   clear hg
   clear a10 a11 b10 b11 b12 b13 b14 z10 z11 z12 z13 z14 z15 z16 y1
   go_wp2_with fail
   change bodyPost _ _ _ _ _ (set7 w2 (W.heap.size + 1 + 1) (.int .i64 0) (.int .i64 0) (.int .i64 0) (.string ⟨#[]⟩) (.slice none 0 0) (.slice none 0 0) (.slice none 0 0))
   have hb':=set7_block HZ2.out (.int .i64 0) (.int .i64 0) (.int .i64 0) (.string ⟨#[]⟩) (.slice none 0 0) (.slice none 0 0) (.slice none 0 0)
   have hgs:=set7_grow w2 (W.heap.size + 1 + 1) (.int .i64 0) (.int .i64 0) (.int .i64 0) (.string ⟨#[]⟩) (.slice none 0 0) (.slice none 0 0) (.slice none 0 0)
   have hg':=grow_new HG2.out hgs (by omega)
   generalize set7 w2 (W.heap.size + 1 + 1) (.int .i64 0) (.int .i64 0) (.int .i64 0) (.string ⟨#[]⟩) (.slice none 0 0) (.slice none 0 0) (.slice none 0 0) = wf at *
   obtain ⟨f0,f1,f2,f3,f4,f5,f6⟩:=box7 hb'
   exact bodyPost_ret (v:=.tuple #[vaV 0 0 0 ⟨#[]⟩ none 0 0 none 0 0 none 0 0,.int .i64 1]) (by simp [results,Tryz.results117,go_sem,f0,f1,f2,f3,f4,f5,f6,vaV]) rfl ⟨hg',.inr ⟨HP.out,rfl⟩⟩
end Go.Proofs.YtkglnoimbekhhaaGreat
