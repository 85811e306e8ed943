import Derived.Test.YtkglnoimbekhhaaGreatKZd
import Derived.Test.YtkglnoimbekhhaaGreatKZg
import Derived.Test.YtkglnoimbekhhaaGreatKZi
namespace Go.Proofs.YtkglnoimbekhhaaGreat
set_option maxRecDepth 100000
set_option maxHeartbeats 4000000
open Go.ChangeShapes Go.WideShapes Go.ChangeAt Go.RowKit
set_option linter.unusedVariables false
set_option linter.unusedSimpArgs false
theorem formsOf_any (p:Int) (W:World):Calls Tryz.prog 105 #[.int .i64 p] W fun e w'=>e = .returned (.string ⟨(formsF p).toArray⟩) /\ w' = W:=by
 by_cases h41:p = 41
 ·subst h41;go_enter Tryz.func105,Tryz.ntmps105;go_wp2_with fail;go_ret;exact ⟨rfl,rfl⟩
 by_cases h43:p = 43
 ·subst h43;go_enter Tryz.func105,Tryz.ntmps105;go_wp2_with fail;go_ret;exact ⟨rfl,rfl⟩
 by_cases h44:p = 44
 ·subst h44;go_enter Tryz.func105,Tryz.ntmps105;go_wp2_with fail;go_ret;exact ⟨rfl,rfl⟩
 by_cases h45:p = 45
 ·subst h45;go_enter Tryz.func105,Tryz.ntmps105;go_wp2_with fail;go_ret;exact ⟨rfl,rfl⟩
 by_cases h50:p = 50
 ·subst h50;go_enter Tryz.func105,Tryz.ntmps105;go_wp2_with fail;go_ret;exact ⟨rfl,rfl⟩
 by_cases h51:p = 51
 ·subst h51;go_enter Tryz.func105,Tryz.ntmps105;go_wp2_with fail;go_ret;exact ⟨rfl,rfl⟩
 by_cases h54:p = 54
 ·subst h54;go_enter Tryz.func105,Tryz.ntmps105;go_wp2_with fail;go_ret;exact ⟨rfl,rfl⟩
 by_cases h56:p = 56
 ·subst h56;go_enter Tryz.func105,Tryz.ntmps105;go_wp2_with fail;go_ret;exact ⟨rfl,rfl⟩
 by_cases h82:p = 82
 ·subst h82;go_enter Tryz.func105,Tryz.ntmps105;go_wp2_with fail;go_ret;exact ⟨rfl,rfl⟩
 by_cases h88:p = 88
 ·subst h88;go_enter Tryz.func105,Tryz.ntmps105;go_wp2_with fail;go_ret;exact ⟨rfl,rfl⟩
 by_cases h61:p = 61
 ·subst h61;go_enter Tryz.func105,Tryz.ntmps105;go_wp2_with fail;go_ret;exact ⟨rfl,rfl⟩
 by_cases h52:p = 52
 ·subst h52;go_enter Tryz.func105,Tryz.ntmps105;go_wp2_with fail;go_ret;exact ⟨rfl,rfl⟩
 by_cases h55:p = 55
 ·subst h55;go_enter Tryz.func105,Tryz.ntmps105;go_wp2_with fail;go_ret;exact ⟨rfl,rfl⟩
 by_cases h58:p = 58
 ·subst h58;go_enter Tryz.func105,Tryz.ntmps105;go_wp2_with fail;go_ret;exact ⟨rfl,rfl⟩
 by_cases h64:p = 64
 ·subst h64;go_enter Tryz.func105,Tryz.ntmps105;go_wp2_with fail;go_ret;exact ⟨rfl,rfl⟩
 by_cases h60:p = 60
 ·subst h60;go_enter Tryz.func105,Tryz.ntmps105;go_wp2_with fail;go_ret;exact ⟨rfl,rfl⟩
 by_cases h65:p = 65
 ·subst h65;go_enter Tryz.func105,Tryz.ntmps105;go_wp2_with fail;go_ret;exact ⟨rfl,rfl⟩
 by_cases h68:p = 68
 ·subst h68;go_enter Tryz.func105,Tryz.ntmps105;go_wp2_with fail;go_ret;exact ⟨rfl,rfl⟩
 by_cases h66:p = 66
 ·subst h66;go_enter Tryz.func105,Tryz.ntmps105;go_wp2_with fail;go_ret;exact ⟨rfl,rfl⟩
 have hf:formsF p = []:=by simp [formsF,h41,h43,h44,h45,h50,h51,h54,h56,h82,h88,h61,h52,h55,h58,h64,h60,h65,h68,h66]
 have q41:(p == 41) = false:=by simpa using h41
 have q43:(p == 43) = false:=by simpa using h43
 have q44:(p == 44) = false:=by simpa using h44
 have q45:(p == 45) = false:=by simpa using h45
 have q50:(p == 50) = false:=by simpa using h50
 have q51:(p == 51) = false:=by simpa using h51
 have q54:(p == 54) = false:=by simpa using h54
 have q56:(p == 56) = false:=by simpa using h56
 have q82:(p == 82) = false:=by simpa using h82
 have q88:(p == 88) = false:=by simpa using h88
 have q61:(p == 61) = false:=by simpa using h61
 have q52:(p == 52) = false:=by simpa using h52
 have q55:(p == 55) = false:=by simpa using h55
 have q58:(p == 58) = false:=by simpa using h58
 have q64:(p == 64) = false:=by simpa using h64
 have q60:(p == 60) = false:=by simpa using h60
 have q65:(p == 65) = false:=by simpa using h65
 have q68:(p == 68) = false:=by simpa using h68
 have q66:(p == 66) = false:=by simpa using h66
 have HF:=jh hf
 clear hf
 go_enter Tryz.func105,Tryz.ntmps105
 go_wp2_with fail
 go_ret
 exact ⟨by rw [HF.out];rfl,rfl⟩
theorem u8_ne {f:UInt8} {k:Nat} (hk:k < 256) (h:f ≠ UInt8.ofNat k):(f.toNat:Int) ≠ (k:Int):=fun e=>h (by
 have e2:f.toNat = k:=by omega
 rw [← e2,UInt8.ofNat_toNat])
theorem take_any {WB W:World} {ib:Nat} {i:Ins} {t:Tr} {nv:Value} (f:UInt8) (hI:InsIs WB W ib i) (hL:Lies (· + 1 < ib) WB t nv) (htl:i.types.length <= 1000) (hrl:i.rows.length <= 1000) :
 Calls Tryz.prog 106 #[.pointer (some ⟨ib,0,none⟩),.int .u8 (f.toNat:Int),nv] W (TakePost WB ib i f t):=by
 by_cases h1:f = 110
 ·subst h1;exact takeI_n hI hL
 ·by_cases h2:f = 116
  ·subst h2;exact take_t (.inl ⟨rfl,rfl⟩) hI hL htl hrl
  ·by_cases h3:f = 117
   ·subst h3;exact take_t (.inr ⟨rfl,rfl⟩) hI hL htl hrl
   ·by_cases h4:f = 99
    ·subst h4;exact take_c (.inl ⟨rfl,rfl⟩) hI hL htl hrl
    ·by_cases h5:f = 100
     ·subst h5;exact take_c (.inr ⟨rfl,rfl⟩) hI hL htl hrl
     ·exact take_v ⟨h1,by simp [h2,h3],by simp [h4,h5]⟩ hI hL ⟨u8_ne (k:=110) (by decide) h1,u8_ne (k:=116) (by decide) h2,u8_ne (k:=117) (by decide) h3,u8_ne (k:=99) (by decide) h4,u8_ne (k:=100) (by decide) h5⟩ htl hrl
theorem takeF_len {i j:Ins} {f:UInt8} {t:Tr} (h:takeF i f t = some j):j.types.length <= i.types.length + 1 /\ j.rows.length <= i.rows.length + 1:=by
 unfold takeF at h
 split at h
 ·split at h
  ·cases h;exact ⟨Nat.le_succ _,Nat.le_succ _⟩
  ·cases h
 ·split at h
  ·split at h
   ·cases h;simp
   ·cases h
  ·split at h
   ·split at h
    ·cases h;simp
    ·cases h
   ·cases h;exact ⟨Nat.le_succ _,Nat.le_succ _⟩
def InsPost (r:Option Ins) (W:World) (e:Ending) (w':World):Prop :=
 W.grownBy w' none /\ ((r = none /\ e = .returned (.tuple #[insV 0 0 none 0 0 none 0 0 0 0 0 ⟨#[]⟩ none 0 0,.bool false])) \/ ∃ i ta tc ra rc da dc,r = some i /\ e = .returned (.tuple #[insV i.p i.n ta i.types.length tc ra i.rows.length rc i.data.k0 i.data.n0 i.data.p0 i.data.s0 da i.data.args0.length dc,.bool true]) /\
  RowC w' i.types (.slice ta i.types.length tc) /\ RowR w' i.rows ra /\ i.rows.length <= rc /\ Lies (fun _=>True) w' i.data (nodeV i.data.k0 i.data.n0 i.data.p0 i.data.s0 da i.data.args0.length dc))
def set9 (w:World) (g:Nat) (y0 y1 y2 y3 y4 y5 y6 y7 y8:Value):World:=((((((((w.setCell ⟨g,0,none⟩ y0).setCell ⟨g,1,none⟩ y1).setCell ⟨g,2,none⟩ y2).setCell ⟨g,3,none⟩ y3).setCell ⟨g,4,none⟩ y4).setCell ⟨g,5,none⟩ y5).setCell ⟨g,6,none⟩ y6).setCell ⟨g,7,none⟩ y7).setCell ⟨g,8,none⟩ y8
theorem set9_block {w:World} {g:Nat} {T:TypeId} {x0 x1 x2 x3 x4 x5 x6 x7 x8:Value} (h:w.heap[g]? = some (.cells #[x0,x1,x2,x3,x4,x5,x6,x7,x8] T (0,0))) (y0 y1 y2 y3 y4 y5 y6 y7 y8:Value):(set9 w g y0 y1 y2 y3 y4 y5 y6 y7 y8).heap[g]? = some (.cells #[y0,y1,y2,y3,y4,y5,y6,y7,y8] T (0,0)):=by
 simp [set9,World.setCell,Array.getElem?_modify,h]
theorem set9_grow (w:World) (g:Nat) (y0 y1 y2 y3 y4 y5 y6 y7 y8:Value):w.grownBy (set9 w g y0 y1 y2 y3 y4 y5 y6 y7 y8) (some g) :=
 gSq (gSq (gSq (gSq (gSq (gSq (gSq (gSq (gSq (gRf w (some g)) 0 none y0) 1 none y1) 2 none y2) 3 none y3) 4 none y4) 5 none y5) 6 none y6) 7 none y7) 8 none y8
theorem grow_newR {w w1 w2:World} {b:Nat} (h:w.grownBy w1 none) (hg:w1.grownBy w2 (some b)) (hb:w.heap.size <= b):w.grownBy w2 none :=
 ⟨hg.os.trans h.os,hg.tape.trans h.tape,hg.output.trans h.output,Nat.le_trans h.size hg.size,fun k hk hr=>(hg.block k (Nat.lt_of_lt_of_le hk h.size) (by simp;omega)).trans (h.block k hk hr)⟩
theorem takesF_drop {i j:Ins} {fs:List UInt8} {l:List Tr} {k:Nat} (h1:k < fs.length) (h2:k < l.length):takesF i (fs.drop k) (l.drop k) = match takeF i fs[k] l[k] with
 | none=>none
 | some j=>takesF j (fs.drop (k + 1)) (l.drop (k + 1)):=by
 rw [List.drop_eq_getElem_cons h1,List.drop_eq_getElem_cons h2]
 rfl
theorem readI_loop {W:World} {t:Tr} {nv:Value} (hL:Lies (fun _=>True) W t nv) (h1:t.k0 = 2) (h2:40 <= t.p0) (h3:t.args0.length = (formsF t.p0).length) :
 Calls Tryz.prog 81 #[nv] W (InsPost (takesF ⟨t.p0,0,[],[],tr0⟩ (formsF t.p0) t.args0) W):=by
 obtain ⟨na,nc,VN,e1,⟨ik,iN,ip,hss⟩,hRN⟩:=hL.invN
 rw [e1]
 unfold nodeV
 have hfl:t.args0.length <= 3:=by rw [h3];unfold formsF;split <;> (try split) <;> (try split) <;> (try split) <;> (try split) <;> (try split) <;> (try split) <;> simp
 have hsz:(ByteArray.mk (formsF t.p0).toArray).size = t.args0.length:=by rw [h3];simp [ByteArray.size]
 obtain ⟨hg3,hI3,hR3,hK3⟩:=start3 W (.cells #[.int .i64 2,.int .i64 t.n0,.int .i64 t.p0,.string t.s0,.slice na t.args0.length nc] 48) (.cells #[.int .i64 0,.int .i64 0,.slice none 0 0,.slice none 0 0,.int .i64 0,.int .i64 0,.int .i64 0,.string ⟨#[]⟩,.slice none 0 0] 115) (.cells #[.int .i64 t.p0,.int .i64 0,.slice none 0 0,.slice none 0 0,.int .i64 0,.int .i64 0,.int .i64 0,.string ⟨#[]⟩,.slice none 0 0] 115)
 have hWB:(((W.alloc (.cells #[.int .i64 2,.int .i64 t.n0,.int .i64 t.p0,.string t.s0,.slice na t.args0.length nc] 48)).alloc (.cells #[.int .i64 0,.int .i64 0,.slice none 0 0,.slice none 0 0,.int .i64 0,.int .i64 0,.int .i64 0,.string ⟨#[]⟩,.slice none 0 0] 115)).alloc (.cells #[.int .i64 t.p0,.int .i64 0,.slice none 0 0,.slice none 0 0,.int .i64 0,.int .i64 0,.int .i64 0,.string ⟨#[]⟩,.slice none 0 0] 115)).heap.size = W.heap.size + 1 + 1 + 1:=by simp
 have HNB:Hid (RowN (· + 1 < W.heap.size + 1 + 1) _ t.args0 na VN):=((hRN.okMono (ok':=(· < W.heap.size)) (fun b hb _=>hb)).same (fun b o hb _=>World.cell?_of_block (hg3.block b hb (by simp)))).okMono (fun b _ hb=>by have : b < W.heap.size:=hb;show b + 1 < _;omega)
 have HI0:Hid (InsIs _ _ (W.heap.size + 1 + 1) ⟨t.p0,0,[],[],tr0⟩):=⟨.slice none 0 0,.slice none 0 0,[],[],none,0,hK3,⟨gRf _ _,by rw [hWB];omega,World.ownsRow_nil _ _ _ _,rfl,fun k t u h=>by simp at h,World.ownsRow_nil _ _ _ _,rfl,fun k t u h=>by simp at h⟩,Lies.mk (hk:=Nat.zero_le _) (fun _=>.int .i64 0) (Nat.zero_le _) (Nat.zero_le _) ⟨by decide,by decide⟩ ⟨by decide,by decide⟩ ⟨by decide,by decide⟩ (fun i hi=>by cases hi) (fun i hi=>by cases hi)⟩
 have HG3:=jh hg3
 have HR3:=jh hR3
 have HWB:=jh hWB
 have hp40:¬ t.p0 < 40:=by omega
 have h3r:(formsF t.p0).length = t.args0.length:=h3.symm
 obtain ⟨q,hq⟩:∃ q,q = takesF ⟨t.p0,0,[],[],tr0⟩ (formsF t.p0) t.args0:=⟨_,rfl⟩
 rw [← hq]
 have HQ:=jh hq
 generalize t.k0 = kk at *
 subst h1
 clear hq hL hRN hg3 hI3 hR3 hK3 hWB h3 e1 h2
 go_enter Tryz.func81,Tryz.ntmps81
 go_wp2_with fail
 refine (formsOf_any _ _).mono ?_;rintro e w1 ⟨rfl,rfl⟩
 go_wp2_with fail
 generalize ((W.alloc _).alloc _).alloc _ = WB at *
 go_loopw [34] (fun iv wr=>∃ (j:Nat) (i:Ins),j <= t.args0.length /\ iv = .int .i64 j /\ InsIs WB wr (W.heap.size + 1 + 1) i /\ i.types.length <= j /\ i.rows.length <= j /\ q = takesF i ((formsF t.p0).drop j) (t.args0.drop j)) (fun iv _=>t.args0.length - (intOf iv).toNat)
 case atStart=>exact ⟨0,_,Nat.zero_le _,rfl,HI0.out,Nat.le_refl _,Nat.le_refl _,HQ.out⟩
 case round =>
  obtain ⟨j,i,hj,rfl,hI,htl,hrl,hqj⟩:=hrel
  have hgB:WB.grownBy wr (some (W.heap.size + 1 + 1)):=by obtain ⟨_,_,_,_,_,_,_,hm,_⟩:=hI;exact hm.grow
  have hR:=(hgB.block _ (Array.getElem?_eq_some_iff.1 HR3.out).1 (by simp)).trans HR3.out
  have HQJ:=jh hqj
  have HGB:=jh hgB
  clear hqj HI0 HQ
  by_cases hlt:j < t.args0.length
  ·obtain ⟨b,o,rfl,hb1,k',n',p',s',a',l',c',hv,y0,y1,y2,y3,y4⟩:=HNB.out.2.1 j hlt
   have hLj:=HNB.out.2.2 j hlt
   rw [hv] at hLj
   have hfj:j < (formsF t.p0).length:=by omega
   have hji:(j:Int) < (t.args0.length:Int):=by omega
   have hkeep:∀ {o:Nat} {v:Value},WB.cell? ⟨b,o,none⟩ = some v -> wr.cell? ⟨b,o,none⟩ = some v:=fun {o v} h=>(World.cell?_of_block (hgB.block b (World.block_lt_of_cell? WB _ h) (by have h1:b + 1 < W.heap.size + 1 + 1:=hb1;simp;omega))).trans h
   have z0:=hkeep y0
   have z1:=hkeep y1
   have z2:=hkeep y2
   have z3:=hkeep y3
   have z4:=hkeep y4
   have hgn:=gBq (w:=wr) (.cells #[.int .i64 k',.int .i64 n',.int .i64 p',.string s',.slice a' l' c'] 48)
   have hbn:=heap_alloc_new wr (.cells #[.int .i64 k',.int .i64 n',.int .i64 p',.string s',.slice a' l' c'] 48)
   have hgd:(wr.alloc (.cells #[.int .i64 k',.int .i64 n',.int .i64 p',.string s',.slice a' l' c'] 48)).grownBy (wr.alloc (.cells #[.int .i64 k',.int .i64 n',.int .i64 p',.string s',.slice a' l' c'] 48)).drew none:=gDr (gRf _ _)
   obtain ⟨n0,n1,n2,n3,n4⟩:=box5 (kBq hbn hgd)
   have HT:=jh (take_any ((formsF t.p0)[j]'hfj) (hI.call (gTq hgn hgd)) hLj (by omega) (by omega))
   have HNX:=jh (takesF_drop (i:=i) (j:=i) hfj hlt)
   have hTr:True:=trivial
   have hix:(ByteArray.mk (formsF t.p0).toArray).data[j]? = some ((formsF t.p0)[j]'hfj):=by simp [hfj]
   clear hI hLj hgn hbn hgd hgB hR hkeep y0 y1 y2 y3 y4
   go_wp2_with fail
   refine wp_region_held_drew (S:=fun _=>True) (by kernel_rfl) ?_ (fun hHeld=>?_)
   ·trivial
   generalize (wr.alloc _).drew = w5 at *
   refine rGq 0 39 ?_
   refine rGq 1 40 ?_
   refine rGq 2 41 ?_
   refine wpAnyH_ready (rs:=[3]) (by kernel_rfl) (by simp) ?_
   refine AllReadyH.cons rfl (fun K hK=>?_) AllReadyH.nil
   go_simp
   refine hK.out _ _ trivial (fun _=>?_)
   clear hK K
   refine wpAnyH_ready (rs:=[4]) (by kernel_rfl) (by simp) ?_
   refine AllReadyH.cons rfl (fun K hK=>?_) AllReadyH.nil
   go_simp
   go_at_call 106
   refine HT.out.mono ?_;rintro e w6 ⟨ok,rfl,hg6,hcase⟩
   refine hK.out _ _ trivial (fun _=>?_)
   clear hK K HT
   refine rGq 5 44 ?_
   refine wpAnyH_done (by kernel_rfl) ?_ _
   rcases hcase with ⟨rfl,hno⟩ | ⟨rfl,i2,hyes,hI2⟩
   ·have hqn:q = none:=by rw [HQJ.out,HNX.out,hno]
    subst hqn
    have hR6:=(hg6.block _ (Array.getElem?_eq_some_iff.1 HR3.out).1 (by simp)).trans HR3.out
    obtain ⟨r0,r1,r2,r3,r4,r5,r6,r7,r8⟩:=box9 hR6
    have rf:=free9 hR6
    have HR6:=jh hR6
    have HGW:=jh (grow_newR HG3.out hg6 (by omega))
    clear hR6 hg6 hno HNX HQJ n0 n1 n2 n3 n4 z0 z1 z2 z3 z4
    go_wp2_with fail
    change bodyPost _ _ _ _ _ (set9 w6 (W.heap.size + 1) (.int .i64 0) (.int .i64 0) (.slice none 0 0) (.slice none 0 0) (.int .i64 0) (.int .i64 0) (.int .i64 0) (.string ⟨#[]⟩) (.slice none 0 0))
    have hb':=set9_block HR6.out (.int .i64 0) (.int .i64 0) (.slice none 0 0) (.slice none 0 0) (.int .i64 0) (.int .i64 0) (.int .i64 0) (.string ⟨#[]⟩) (.slice none 0 0)
    have hg':=grow_newR HGW.out (set9_grow w6 (W.heap.size + 1) (.int .i64 0) (.int .i64 0) (.slice none 0 0) (.slice none 0 0) (.int .i64 0) (.int .i64 0) (.int .i64 0) (.string ⟨#[]⟩) (.slice none 0 0)) (Nat.le_succ _)
    generalize set9 w6 (W.heap.size + 1) _ _ _ _ _ _ _ _ _ = wf at *
    obtain ⟨s0,s1,s2,s3,s4,s5,s6,s7,s8⟩:=box9 hb'
    exact bodyPost_ret (v:=.tuple #[insV 0 0 none 0 0 none 0 0 0 0 0 ⟨#[]⟩ none 0 0,.bool false]) (by simp [results,Tryz.results81,go_sem,s0,s1,s2,s3,s4,s5,s6,s7,s8,insV]) rfl ⟨hg',.inl ⟨rfl,rfl⟩⟩
   ·have HI2:=jh hI2
    have HL2:=jh (takeF_len hyes)
    have hqs:q = takesF i2 ((formsF t.p0).drop (j + 1)) (t.args0.drop (j + 1)):=by rw [HQJ.out,HNX.out,hyes]
    have HQS:=jh hqs
    clear hqs hI2 hyes hg6 HNX HQJ n0 n1 n2 n3 n4 z0 z1 z2 z3 z4
    go_wp2_with fail
    go_roundw
    case rel=>exact ⟨j + 1,i2,by omega,by go_num,HI2.out,by have:=HL2.out;omega,by have:=HL2.out;omega,HQS.out⟩
    case measure=>simp [intOf];omega
  ·have hji:¬ (j:Int) < (t.args0.length:Int):=by omega
   have hqs:q = some i:=by
    rw [HQJ.out,List.drop_of_length_le (by omega),List.drop_of_length_le (by omega)]
    rfl
   subst hqs
   obtain ⟨ta,tc,ra,rc,da,dc,hib,_⟩:=hI.done (gRf wr (some (W.heap.size + 1))) rfl
   have HI:=jh hI
   obtain ⟨v0,v1,v2,v3,v4,v5,v6,v7,v8⟩:=box9 hib
   obtain ⟨r0,r1,r2,r3,r4,r5,r6,r7,r8⟩:=box9 hR
   have rf:=free9 hR
   have HR:=jh hR
   have HIB:=jh hib
   clear hib hR hI HQJ hgB
   go_wp2_with fail
   change bodyPost _ _ _ _ _ (set9 wr (W.heap.size + 1) (.int .i64 i.p) (.int .i64 i.n) (.slice ta i.types.length tc) (.slice ra i.rows.length rc) (.int .i64 i.data.k0) (.int .i64 i.data.n0) (.int .i64 i.data.p0) (.string i.data.s0) (.slice da i.data.args0.length dc))
   have hb':=set9_block HR.out (.int .i64 i.p) (.int .i64 i.n) (.slice ta i.types.length tc) (.slice ra i.rows.length rc) (.int .i64 i.data.k0) (.int .i64 i.data.n0) (.int .i64 i.data.p0) (.string i.data.s0) (.slice da i.data.args0.length dc)
   have hgs:=set9_grow wr (W.heap.size + 1) (.int .i64 i.p) (.int .i64 i.n) (.slice ta i.types.length tc) (.slice ra i.rows.length rc) (.int .i64 i.data.k0) (.int .i64 i.data.n0) (.int .i64 i.data.p0) (.string i.data.s0) (.slice da i.data.args0.length dc)
   have hg':=grow_newR (grow_newR HG3.out HGB.out (by omega)) hgs (Nat.le_succ _)
   obtain ⟨ta',tc',ra',rc',da',dc',hib',k1,k2,k3,k4⟩:=HI.out.done hgs rfl
   have heq:=HIB.out.symm.trans hib'
   simp only [Option.some.injEq,Obj.cells.injEq,Array.mk.injEq,List.cons.injEq,Value.slice.injEq,true_and,and_true] at heq
   obtain ⟨⟨rfl,rfl⟩,⟨rfl,rfl⟩,⟨rfl,rfl⟩⟩:=heq
   generalize set9 wr (W.heap.size + 1) _ _ _ _ _ _ _ _ _ = wf at *
   obtain ⟨s0,s1,s2,s3,s4,s5,s6,s7,s8⟩:=box9 hb'
   exact bodyPost_ret (v:=.tuple #[insV i.p i.n ta i.types.length tc ra i.rows.length rc i.data.k0 i.data.n0 i.data.p0 i.data.s0 da i.data.args0.length dc,.bool true]) (by simp [results,Tryz.results81,go_sem,s0,s1,s2,s3,s4,s5,s6,s7,s8,insV]) rfl ⟨hg',.inr ⟨i,ta,tc,ra,rc,da,dc,rfl,rfl,k1,k2,k3,k4⟩⟩
theorem readI_no {W:World} {t:Tr} {nv:Value} (hL:Lies (fun _=>True) W t nv) (h:¬ (t.k0 = 2 /\ 40 <= t.p0 /\ t.args0.length = (formsF t.p0).length)) :
 Calls Tryz.prog 81 #[nv] W (InsPost none W):=by
 obtain ⟨na,nc,VN,e1,⟨ik,iN,ip,hss⟩,hRN⟩:=hL.invN
 rw [e1]
 unfold nodeV
 obtain ⟨hg3,hI3,hR3⟩:=start2 W (.cells #[.int .i64 t.k0,.int .i64 t.n0,.int .i64 t.p0,.string t.s0,.slice na t.args0.length nc] 48) (.cells #[.int .i64 0,.int .i64 0,.slice none 0 0,.slice none 0 0,.int .i64 0,.int .i64 0,.int .i64 0,.string ⟨#[]⟩,.slice none 0 0] 115)
 obtain ⟨m0,m1,m2,m3,m4⟩:=box5 hI3
 obtain ⟨r0,r1,r2,r3,r4,r5,r6,r7,r8⟩:=box9 hR3
 have rf:=free9 hR3
 have HG3:=jh hg3
 have HR3:=jh hR3
 have hfl:(formsF t.p0).length <= 3:=by unfold formsF;split <;> (try split) <;> (try split) <;> (try split) <;> (try split) <;> (try split) <;> (try split) <;> simp
 have hal:t.args0.length <= 9223372036854775807:=by have:=hRN.1;unfold maxLen at this;omega
 clear hL hRN e1 hg3 hI3 hR3
 generalize t.k0 = kk at *
 generalize t.p0 = pp at *
 by_cases h1:kk = 2
 ·subst h1
  by_cases h2:pp < 40
  ·go_enter Tryz.func81,Tryz.ntmps81
   go_wp2_with fail
   refine (formsOf_any _ _).mono ?_;rintro e w1 ⟨rfl,rfl⟩
   go_wp2_with fail
   generalize (W.alloc _).alloc _ = w6 at *
   obtain ⟨s0,s1,s2,s3,s4,s5,s6,s7,s8⟩:=box9 HR3.out
   exact bodyPost_ret (v:=.tuple #[insV 0 0 none 0 0 none 0 0 0 0 0 ⟨#[]⟩ none 0 0,.bool false]) (by simp [results,Tryz.results81,go_sem,s0,s1,s2,s3,s4,s5,s6,s7,s8,insV]) rfl ⟨HG3.out,.inl ⟨rfl,rfl⟩⟩
  ·have h3:((t.args0.length:Int) != ((formsF pp).length:Int)) = true:=by simp;omega
   have h4:¬ (t.args0.length:Int) = ((formsF pp).length:Int):=by omega
   have h5:¬ t.args0.length = (formsF pp).length:=by omega
   clear h
   go_enter Tryz.func81,Tryz.ntmps81
   go_wp2_with fail
   refine (formsOf_any _ _).mono ?_;rintro e w1 ⟨rfl,rfl⟩
   go_wp2_with fail
   generalize (W.alloc _).alloc _ = w6 at *
   obtain ⟨s0,s1,s2,s3,s4,s5,s6,s7,s8⟩:=box9 HR3.out
   exact bodyPost_ret (v:=.tuple #[insV 0 0 none 0 0 none 0 0 0 0 0 ⟨#[]⟩ none 0 0,.bool false]) (by simp [results,Tryz.results81,go_sem,s0,s1,s2,s3,s4,s5,s6,s7,s8,insV]) rfl ⟨HG3.out,.inl ⟨rfl,rfl⟩⟩
 ·have h2:(kk != 2) = true:=by simpa using h1
  clear h
  go_enter Tryz.func81,Tryz.ntmps81
  go_wp2_with fail
  refine (formsOf_any _ _).mono ?_;rintro e w1 ⟨rfl,rfl⟩
  go_wp2_with fail
  generalize (W.alloc _).alloc _ = w6 at *
  obtain ⟨s0,s1,s2,s3,s4,s5,s6,s7,s8⟩:=box9 HR3.out
  exact bodyPost_ret (v:=.tuple #[insV 0 0 none 0 0 none 0 0 0 0 0 ⟨#[]⟩ none 0 0,.bool false]) (by simp [results,Tryz.results81,go_sem,s0,s1,s2,s3,s4,s5,s6,s7,s8,insV]) rfl ⟨HG3.out,.inl ⟨rfl,rfl⟩⟩
theorem readI_any {W:World} {t:Tr} {nv:Value} (hL:Lies (fun _=>True) W t nv):Calls Tryz.prog 81 #[nv] W (InsPost (readF t) W):=by
 unfold readF
 by_cases h:t.k0 = 2 /\ 40 <= t.p0 /\ t.args0.length = (formsF t.p0).length
 ·rw [if_pos h];exact readI_loop hL h.1 h.2.1 h.2.2
 ·rw [if_neg h];exact readI_no hL h
theorem ent_mi1:∀ args w,(callFunc 72 args).run Tryz.prog w = .ok (.enter 72 args) w:=fun args w=>by simp [go_sem]
theorem mintsTs_any (l:List Tr):mintsTs l = l.any mintsT:=by
 induction l with
 | nil=>simp [mintsTs]
 | cons t l ih=>simp [mintsTs,ih]
theorem indexN_any {W:World} {l:List Tr} {na:Option Addr} {nc:Nat} {VN:Nat -> Value} (hN:RowN (fun _=>True) W l na VN)
 (hK:∀ (j:Nat) (h:j < l.length) (W2:World),W.grownBy W2 none -> Calls Tryz.prog 72 #[VN j] W2 fun e w'=>e = .returned (.bool (mintsT l[j])) /\ W2.grownBy w' none) :
 Calls Tryz.prog 99 #[.slice na l.length nc,.func (.func 72) #[] #[]] W fun e w'=>∃ r:Int,e = .returned (.int .i64 r) /\ ((0 <= r /\ l.any mintsT = true) \/ (r = -1 /\ l.any mintsT = false)) /\ W.grownBy w' none:=by
 have hn:=hN.1
 unfold maxLen at hn
 have HN:=jh hN
 have HKK:=jh hK
 have eg:=ent_mi1
 clear hN hK
 go_enter Tryz.func99,Tryz.ntmps99
 go_wp2_with fail
 go_loopw [8] (fun iv wr=>∃ j:Nat,j <= l.length /\ iv = .int .i64 j /\ (∀ i (h:i < l.length),i < j -> mintsT l[i] = false) /\ W.grownBy wr none) (fun iv _=>l.length - (intOf iv).toNat)
 case atStart=>exact ⟨0,Nat.zero_le _,rfl,fun i h hi=>by omega,gRf _ _⟩
 case round =>
  obtain ⟨j,hj,rfl,hall,hgr⟩:=hrel
  have HALL:=jh hall
  have HGR:=jh hgr
  clear hall
  by_cases hlt:j < l.length
  ·obtain ⟨b,o,rfl,_,k',n',p',s',a',l',c',hv,h0,h1,h2,h3,h4⟩:=(HN.out.2.1 j hlt).same (w':=wr) (sAl hgr)
   have hk:=HKK.out j hlt wr hgr
   rw [hv] at hk
   unfold nodeV at hk
   have HK:=jh hk
   have hj2:(j:Int) < (l.length:Int):=by omega
   clear hgr hv hk
   cases hq:mintsT l[j] with
   | false =>
    rw [hq] at HK
    have HQ:=jh hq
    clear hq
    go_wp2_with fail
    refine HK.out.mono ?_;rintro e w1 ⟨rfl,hg⟩
    have HG:=jh (gTq HGR.out hg)
    clear hg
    go_wp2_with fail
    go_roundw
    case rel =>
     refine ⟨j + 1,by omega,by go_num,fun i h hi=>?_,HG.out⟩
     by_cases e:i = j
     ·subst e;exact HQ.out
     ·exact HALL.out i h (by omega)
    case measure=>simp [intOf];omega
   | true =>
    rw [hq] at HK
    have HQ:=jh hq
    clear hq
    go_wp2_with fail
    refine HK.out.mono ?_;rintro e w1 ⟨rfl,hg⟩
    have HG:=jh (gTq HGR.out hg)
    clear hg
    go_wp2_with fail
    go_ret
    exact ⟨_,rfl,.inl ⟨by omega,List.any_eq_true.2 ⟨_,List.getElem_mem hlt,HQ.out⟩⟩,HG.out⟩
  ·have hall2:l.any mintsT = false:=by
    cases h:l.any mintsT with
    | false=>rfl
    | true =>
     obtain ⟨x,hx,hm⟩:=List.any_eq_true.1 h
     obtain ⟨i,hi,rfl⟩:=List.getElem_of_mem hx
     rw [HALL.out i hi (by omega)] at hm
     cases hm
   have HA:=jh hall2
   have hj3:¬ (j:Int) < (l.length:Int):=by omega
   clear hall2 hgr
   go_wp2_with fail
   go_ret
   refine ⟨_,rfl,.inr ⟨rfl,?_⟩,HGR.out⟩
   first | exact HA.out | exact (fun x hx=>by have h:=HA.out;rw [List.any_eq_false] at h;simpa using h x hx)
theorem containsN_any {W:World} {l:List Tr} {na:Option Addr} {nc:Nat} {VN:Nat -> Value} (hN:RowN (fun _=>True) W l na VN)
 (hK:∀ (j:Nat) (h:j < l.length) (W2:World),W.grownBy W2 none -> Calls Tryz.prog 72 #[VN j] W2 fun e w'=>e = .returned (.bool (mintsT l[j])) /\ W2.grownBy w' none) :
 Calls Tryz.prog 71 #[.slice na l.length nc,.func (.func 72) #[] #[]] W fun e w'=>e = .returned (.bool (l.any mintsT)) /\ W.grownBy w' none:=by
 have H:=jh (indexN_any (nc:=nc) hN hK)
 clear hN hK
 generalize l.any mintsT = q at *
 go_enter Tryz.func71,Tryz.ntmps71
 go_wp2_with fail
 refine H.out.mono ?_;rintro e w1 ⟨r,rfl,hr,hg⟩
 have HG:=jh hg
 have HR:=jh hr
 clear hg hr
 go_wp2_with fail
 go_ret
 refine Lf.retb ?_ HG.out
 rcases HR.out with ⟨h1,rfl⟩ | ⟨rfl,rfl⟩
 ·simp [h1]
 ·rfl
theorem mints1_any {W:World} {k n p:Int} {str:ByteArray} {a:Option Addr} {l c:Nat} {b:Bool} (hk:∀ W2,W.grownBy W2 none -> Calls Tryz.prog 49 #[.slice a l c] W2 fun e w'=>e = .returned (.bool b) /\ W2.grownBy w' none) :
 Calls Tryz.prog 72 #[nodeV k n p str a l c] W fun e w'=>e = .returned (.bool (decide (k = 2 /\ p = 84) || b)) /\ W.grownBy w' none:=by
 have HG0:=jh (gBq (w:=W) (.cells #[.int .i64 k,.int .i64 n,.int .i64 p,.string str,.slice a l c] 48))
 obtain ⟨m0,m1,m2,m3,m4⟩:=box5 (heap_alloc_new W (.cells #[.int .i64 k,.int .i64 n,.int .i64 p,.string str,.slice a l c] 48))
 have HK:=jh (hk _ HG0.out)
 clear hk
 unfold nodeV
 by_cases h1:k = 2
 ·by_cases h2:p = 84
  ·subst h1;subst h2
   go_enter Tryz.func72,Tryz.ntmps72
   go_wp2_with fail
   go_ret
   exact ⟨rfl,HG0.out⟩
  ·have n2:(p == 84) = false:=by simpa using h2
   have hb:(decide (k = 2 /\ p = 84) || b) = b:=by simp [h2]
   rw [hb]
   subst h1
   clear hb
   go_enter Tryz.func72,Tryz.ntmps72
   go_wp2_with fail
   refine HK.out.mono ?_;rintro e w1 ⟨rfl,hg⟩
   have HG:=jh (gTq HG0.out hg)
   clear hg
   go_wp2_with fail
   go_ret
   exact ⟨rfl,HG.out⟩
 ·have n1:(k == 2) = false:=by simpa using h1
  have hb:(decide (k = 2 /\ p = 84) || b) = b:=by simp [h1]
  rw [hb]
  clear hb
  go_enter Tryz.func72,Tryz.ntmps72
  go_wp2_with fail
  refine HK.out.mono ?_;rintro e w1 ⟨rfl,hg⟩
  have HG:=jh (gTq HG0.out hg)
  clear hg
  go_wp2_with fail
  go_ret
  exact ⟨rfl,HG.out⟩
theorem mints_of {W:World} {a:Option Addr} {l c:Nat} {b:Bool} (H0:Calls Tryz.prog 71 #[.slice a l c,.func (.func 72) #[] #[]] W fun e w'=>e = .returned (.bool b) /\ W.grownBy w' none) :
 Calls Tryz.prog 49 #[.slice a l c] W fun e w'=>e = .returned (.bool b) /\ W.grownBy w' none:=by
 have H:=jh H0
 clear H0
 go_enter Tryz.func49,Tryz.ntmps49
 go_wp2_with fail
 refine H.out.mono ?_;rintro e w1 ⟨rfl,hg⟩
 have HG:=jh hg
 clear hg
 go_wp2_with fail
 go_ret
 exact ⟨rfl,HG.out⟩
theorem mints_any:∀ (N:Nat) {W:World} {l:List Tr} {na:Option Addr} {nc:Nat} {VN:Nat -> Value},RowN (fun _=>True) W l na VN -> sizes l <= N -> Calls Tryz.prog 49 #[.slice na l.length nc] W fun e w'=>e = .returned (.bool (mintsTs l)) /\ W.grownBy w' none:=by
 intro N
 induction N with
 | zero =>
  intro W l na nc VN hN hz
  rw [mintsTs_any]
  refine mints_of (containsN_any hN (fun j h W2 hg=>?_))
  have:=length_le_sizes l
  omega
 | succ N ih =>
  intro W l na nc VN hN hz
  rw [mintsTs_any]
  refine mints_of (containsN_any hN (fun j h W2 hg=>?_))
  have hLj:=(hN.2.2 j h).same (sAl hg)
  have hsz:(l[j]).size <= sizes l:=by
   have h7:=sizes_take_succ l j h
   have h8:=sizes_take_le l (j + 1)
   omega
  generalize l[j] = t at *
  generalize VN j = v at *
  cases hLj with
  | @mk k n p s args a c _ V hl hs ik iN ip hc hr =>
   have hm:mintsT (.nd k n p s args) = (decide (k = 2 /\ p = 84) || mintsTs args):=by rw [mintsT]
   rw [hm]
   refine mints1_any (fun W3 hg3=>ih (VN:=V) ?_ ?_)
   ·exact RowN.same ⟨hl,hc,hr⟩ (sAl hg3)
   ·rw [Tr.size] at hsz;omega
end Go.Proofs.YtkglnoimbekhhaaGreat
