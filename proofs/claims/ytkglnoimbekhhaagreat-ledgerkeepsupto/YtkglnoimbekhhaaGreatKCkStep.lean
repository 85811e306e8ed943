import Derived.Test.YtkglnoimbekhhaaGreatKZq
import Derived.Test.YtkglnoimbekhhaaGreatKZh
import Derived.Test.YtkglnoimbekhhaaGreatKCkChooses
import Derived.Test.YtkglnoimbekhhaaGreatKZs
import Derived.Test.YtkglnoimbekhhaaGreatKCkEnters3
import Derived.Test.YtkglnoimbekhhaaGreatKZl
import Derived.Test.YtkglnoimbekhhaaGreatKZf
import Derived.Test.YtkglnoimbekhhaaGreatKZe
import Derived.Test.YtkglnoimbekhhaaGreatKZk
namespace Go.Proofs.YtkglnoimbekhhaaGreat
set_option linter.unusedVariables false
set_option linter.unusedSimpArgs false
theorem moves_all {W:World} {n:Int} {ta ra da:Option Addr} {tl tc rl rc dl dc:Nat} {dk dn dp:Int} {ds:ByteArray} {s types:List Ty} {rows:List (List Tr)} {data:Tr} {sv:Value} (p:Int) (hp:p = 40 \/ p = 41 \/ p = 42 \/ p = 43 \/ p = 44) (hs:RowC W s sv) (hT:RowC W types (.slice ta tl tc)) (h0:0 <= n) (hgd:s.all gYq = true) (hn:s.length <= 1000) :
 Calls Tryz.prog 82 #[insV p n ta tl tc ra rl rc dk dn dp ds da dl dc,sv] W (LPq (movesF ⟨p,n,types,rows,data⟩ s) W):=by
 rcases hp with rfl | rfl | rfl | rfl | rfl
 ·by_cases h1:sFq s [0] = true
  ·have e:movesF ⟨40,n,types,rows,data⟩ s = pFq (s.drop 1) []:=by simp [movesF,h1]
   rw [e];exact moves_40 hs hT h1 hgd hn
  ·rw [Bool.not_eq_true] at h1
   have e:movesF ⟨40,n,types,rows,data⟩ s = .no 5:=by simp [movesF,h1]
   rw [e];exact moves_40n hs hT h1 hgd hn
 ·by_cases h1:1 <= n
  ·by_cases h2:n <= (s.length:Int)
   ·obtain ⟨m,rfl⟩:∃ m:Nat,n = (m:Int) + 1:=⟨n.toNat - 1,by omega⟩
    have em:((m:Int) + 1).toNat - 1 = m:=by omega
    by_cases h3:copyT (tAq s m) = true
    ·have e:movesF ⟨41,(m:Int) + 1,types,rows,data⟩ s = pFq s [tAq s m]:=by
      unfold movesF
      rw [if_neg (by simp),if_pos ⟨rfl,h1,h2,by rw [em];exact h3⟩,em]
     rw [e];exact moves_41 hs (by omega) h3 (Nat.le_trans (sz_at hgd m) (by decide)) hn
    ·rw [Bool.not_eq_true] at h3
     have e:movesF ⟨41,(m:Int) + 1,types,rows,data⟩ s = .no 5:=by
      unfold movesF
      rw [if_neg (by simp),if_neg (by rw [em];simp [h3]),if_neg (by simp),if_neg (by simp),if_neg (by simp)]
     rw [e];exact moves_41c hs (by omega) h3 (Nat.le_trans (sz_at hgd m) (by decide)) hn
   ·have e:movesF ⟨41,n,types,rows,data⟩ s = .no 5:=by
     unfold movesF
     rw [if_neg (by simp),if_neg (by rintro ⟨_,_,h,_⟩;exact h2 h),if_neg (by simp),if_neg (by simp),if_neg (by simp)]
    rw [e];exact moves_41b hs h1 h2
  ·have e:movesF ⟨41,n,types,rows,data⟩ s = .no 5:=by
    unfold movesF
    rw [if_neg (by simp),if_neg (by rintro ⟨_,h,_⟩;exact h1 h),if_neg (by simp),if_neg (by simp),if_neg (by simp)]
   rw [e];exact moves_41a hs h1
 ·by_cases h1:sFq s [0,0] = true
  ·have e:movesF ⟨42,n,types,rows,data⟩ s = pFq (s.drop 2) [(tAq s 1),(tAq s 0)]:=by simp [movesF,h1]
   rw [e];exact moves_42 hs hT h1 hgd hn
  ·rw [Bool.not_eq_true] at h1
   have e:movesF ⟨42,n,types,rows,data⟩ s = .no 5:=by simp [movesF,h1]
   rw [e];exact moves_42n hs hT h1 hgd hn
 ·by_cases h1:n < (s.length:Int)
  ·obtain ⟨m,rfl⟩:∃ m:Nat,n = (m:Int):=⟨n.toNat,by omega⟩
   have e:movesF ⟨43,(m:Int),types,rows,data⟩ s = pFq (s.take m ++ s.drop (m + 1)) [tAq s m]:=by
    unfold movesF
    rw [if_neg (by simp),if_neg (by simp),if_neg (by simp),if_pos ⟨rfl,h1⟩]
    rfl
   rw [e];exact moves_43 hs (by omega) hn
  ·have e:movesF ⟨43,n,types,rows,data⟩ s = .no 5:=by
    unfold movesF
    rw [if_neg (by simp),if_neg (by simp),if_neg (by simp),if_neg (by rintro ⟨_,h⟩;exact h1 h),if_neg (by simp)]
   rw [e];exact moves_43n hs h1
 ·by_cases h1:n < (s.length:Int)
  ·obtain ⟨m,rfl⟩:∃ m:Nat,n = (m:Int):=⟨n.toNat,by omega⟩
   have e:movesF ⟨44,(m:Int),types,rows,data⟩ s = pFq (s.take 1 ++ s.drop (m + 1)) ((s.drop 1).take m):=by
    unfold movesF
    rw [if_neg (by simp),if_neg (by simp),if_neg (by simp),if_neg (by simp),if_pos ⟨rfl,h1⟩]
    rfl
   rw [e];exact moves_44 hs (by omega) hn
  ·have e:movesF ⟨44,n,types,rows,data⟩ s = .no 5:=by
    unfold movesF
    rw [if_neg (by simp),if_neg (by simp),if_neg (by simp),if_neg (by simp),if_neg (by rintro ⟨_,h⟩;exact h1 h)]
   rw [e];exact moves_44n hs h1
theorem tells_all {W:World} {n:Int} {ta ra da:Option Addr} {tl tc rl rc dc:Nat} {s types:List Ty} {rows:List (List Tr)} {d:Tr} {sv:Value} (p:Int) (hp:p = 45 \/ p = 80 \/ p = 81 \/ p = 82 \/ p = 83) (hs:RowC W s sv) (hT:RowC W types (.slice ta tl tc)) (htl:types.length = tcF p) (hgt:types.all gYq = true) (hgd:s.all gYq = true) (hn:s.length <= 1000)
 (hD:Lies (fun _=>True) W d (nodeV d.k0 d.n0 d.p0 d.s0 da d.args0.length dc)) (hdz:d.size <= 4611686018427387903) :
 Calls Tryz.prog 89 #[insV p n ta tl tc ra rl rc d.k0 d.n0 d.p0 d.s0 da d.args0.length dc,sv] W (LPq (tellsF ⟨p,n,types,rows,d⟩ s) W):=by
 rcases hp with rfl | rfl | rfl | rfl | rfl
 ·have ht:types.length = 1:=by simpa [tcF,formsF] using htl
  have hz:=Nat.le_trans (sz_at hgt 0) (show 300 <= 50000000 by decide)
  by_cases h1:packT (tAq types 0) = true
  ·have e:tellsF ⟨45,n,types,rows,d⟩ s = (if (parseF (tAq types 0) d).isSome = true then pFq s [tAq types 0] else .no 5):=by
    by_cases h2:(parseF (tAq types 0) d).isSome = true
    ·simp [tellsF,h1,h2]
    ·rw [Bool.not_eq_true] at h2
     simp [tellsF,h1,h2]
   rw [e];exact tells_45 hs hT ht h1 hz hn hD hdz
  ·rw [Bool.not_eq_true] at h1
   have e:tellsF ⟨45,n,types,rows,d⟩ s = .no 5:=by simp [tellsF,h1]
   rw [e];exact tells_45n hs hT ht h1 hz
 ·by_cases h1:sFq s [6,6] = true
  ·have e:tellsF ⟨80,n,types,rows,d⟩ s = pFq (s.drop 2) [(.nd 6 [])]:=by simp [tellsF,h1]
   rw [e];exact tells_80 hs hT h1 hgd hn
  ·rw [Bool.not_eq_true] at h1
   have e:tellsF ⟨80,n,types,rows,d⟩ s = .no 5:=by simp [tellsF,h1]
   rw [e];exact tells_80n hs hT h1 hgd hn
 ·by_cases h1:sFq s [0] = true
  ·by_cases h2:packT (tAq s 0) = true
   ·have e:tellsF ⟨81,n,types,rows,d⟩ s = pFq (s.drop 1) [(.nd 6 [])]:=by simp [tellsF,h1,h2]
    rw [e];exact tells_81 hs hT h1 h2 (Nat.le_trans (sz_at hgd 0) (by decide)) hgd hn
   ·rw [Bool.not_eq_true] at h2
    have e:tellsF ⟨81,n,types,rows,d⟩ s = .no 5:=by simp [tellsF,h1,h2]
    rw [e];exact tells_81n1 hs hT h1 h2 (Nat.le_trans (sz_at hgd 0) (by decide)) hgd hn
  ·rw [Bool.not_eq_true] at h1
   have e:tellsF ⟨81,n,types,rows,d⟩ s = .no 5:=by simp [tellsF,h1]
   rw [e];exact tells_81n hs hT h1 hgd hn
 ·have ht:types.length = 1:=by simpa [tcF,formsF] using htl
  have hz:=Nat.le_trans (sz_at hgt 0) (show 300 <= 50000000 by decide)
  by_cases h1:sFq s [6] = true
  ·by_cases h2:packT (tAq types 0) = true
   ·have e:tellsF ⟨82,n,types,rows,d⟩ s = pFq (s.drop 1) [(.nd 9 [(tAq types 0)])]:=by simp [tellsF,h1,h2]
    rw [e];exact tells_82 hs hT h1 h2 hz ht hgd hn
   ·rw [Bool.not_eq_true] at h2
    have e:tellsF ⟨82,n,types,rows,d⟩ s = .no 5:=by simp [tellsF,h1,h2]
    rw [e];exact tells_82n1 hs hT h1 h2 hz ht hgd hn
  ·rw [Bool.not_eq_true] at h1
   have e:tellsF ⟨82,n,types,rows,d⟩ s = .no 5:=by simp [tellsF,h1]
   rw [e];exact tells_82n hs hT h1 hgd hn
 ·by_cases h1:sFq s [0] = true
  ·by_cases h2:packT (tAq s 0) = true
   ·have e:tellsF ⟨83,n,types,rows,d⟩ s = .ok true []:=by simp [tellsF,h1,h2]
    rw [e];exact tells_83 hs hT h1 h2 (Nat.le_trans (sz_at hgd 0) (by decide)) hgd hn
   ·rw [Bool.not_eq_true] at h2
    have e:tellsF ⟨83,n,types,rows,d⟩ s = .no 5:=by simp [tellsF,h1,h2]
    rw [e];exact tells_83n1 hs hT h1 h2 (Nat.le_trans (sz_at hgd 0) (by decide)) hgd hn
  ·rw [Bool.not_eq_true] at h1
   have e:tellsF ⟨83,n,types,rows,d⟩ s = .no 5:=by simp [tellsF,h1]
   rw [e];exact tells_83n hs hT h1 hgd hn
def RowS (N:Nat):Prop:=∀ (l:List Tr) (W:World) (na:Option Addr) (nc:Nat) (VN:Nat -> Value) (s:List Ty) (a2:Option Addr) (l2 c2:Nat),RowN (fun _=>True) W l na VN -> (∀ x ∈ l,x.size <= N) -> RowC W s (.slice a2 l2 c2) -> s.length + N <= 1001 -> s.all gYq = true ->
 Calls Tryz.prog 43 #[.slice na l.length nc,.slice a2 l2 c2] W (LPq (rowG (stepF N) l false s) W)
def StepS (N:Nat):Prop:=∀ (t:Tr) (v:Value) (W:World) (s:List Ty) (a2:Option Addr) (l2 c2:Nat),t.size <= N -> Lies (fun _=>True) W t v -> RowC W s (.slice a2 l2 c2) -> s.length + N <= 1001 -> s.all gYq = true ->
 Calls Tryz.prog 61 #[v,.slice a2 l2 c2] W (LPq (stepF N t s) W)
theorem row_of_step {N:Nat} (hN:N <= 300) (h:StepS N):RowS N:=fun l W na nc VN s a2 l2 c2 h1 h2 h3 h4 h5 =>
 row_any (L:=1001 - N) (by omega) h1 h3 (by omega) h5 (fun j hj W2 s2 a3 l3 c3 hg hr hl hgd=>h l[j] (VN j) W2 s2 a3 l3 c3 (h2 _ (List.getElem_mem hj)) ((h1.2.2 j hj).same (sAl hg)) hr (by omega) hgd)
section
variable {N:Nat} {W:World} {p n:Int} {ta ra da:Option Addr} {tl tc rc dl dc:Nat} {dk dn dp:Int} {ds:ByteArray} {s types:List Ty} {rows:List (List Tr)} {data:Tr}
theorem rowAt_mem {i:Ins} {N k:Nat} (h:InsOk N i):∀ x ∈ rowAt i k,x.size <= N:=by
 unfold rowAt
 cases e:i.rows[k]? with
 | none=>intro x hx;simp at hx
 | some l=>exact h.rows l (List.mem_of_getElem? e)
theorem rowG_bounds {st:Tr -> List Ty -> Led} {l:List Tr} {s:List Ty} (h1:s.length <= 1001) (h2:s.all gYq = true):∀ f ts,rowG st l false s = .ok f ts -> ts.length <= 20000000 /\ tysizes ts <= 20000000:=fun f ts h=>by
 obtain ⟨k1,k2⟩:=rowG_small l false s h1 h2 h
 have:=tys_sum k2
 omega
theorem either_s {i:Ins} (hR:RowS N) (hi:InsOk N i) (h2:i.rows.length = 2) {W:World} {x y s:List Ty} {sv xv yv:Value} (hr:RowR W i.rows ra) (hs:RowC W s sv) (hx:RowC W x xv) (hy:RowC W y yv) (gs:s.all gYq = true) (gx:x.all gYq = true) (gy:y.all gYq = true) (bx:x.length + s.length + N <= 1001) (by':y.length + s.length + N <= 1001) :
 Calls Tryz.prog 111 #[insV p n ta tl tc ra i.rows.length rc dk dn dp ds da dl dc,sv,xv,yv] W (LPq (eitherF (fun l s=>rowG (stepF N) l false s) i s x y) W):=by
 obtain ⟨b,o,na,nc,VN,rfl,c1,r1⟩:=hr 0 (rowAt i 0) (by unfold rowAt;rw [List.getElem?_eq_getElem (by omega)];rfl)
 obtain ⟨b',o',nb,mc,VM,e,c2,r2⟩:=hr 1 (rowAt i 1) (by unfold rowAt;rw [List.getElem?_eq_getElem (by omega)];rfl)
 simp only [Option.some.injEq,Addr.mk.injEq,and_true] at e
 obtain ⟨rfl,rfl⟩:=e
 rw [h2]
 exact either_any hs hx hy (by simpa using c1) c2 (fun W2 a2 l2 c2 hg hc=>hR _ W2 na nc VN _ a2 l2 c2 (r1.same (sAl hg)) (rowAt_mem hi) hc (by simp;omega) (good_app gx gs)) (fun W2 a2 l2 c2 hg hc=>hR _ W2 nb mc VM _ a2 l2 c2 (r2.same (sAl hg)) (rowAt_mem hi) hc (by simp;omega) (good_app gy gs))
  (rowG_bounds (by simp;omega) (good_app gx gs)) (by omega) (by omega)
theorem through_s {i:Ins} (hR:RowS N) (hi:InsOk N i) (h1:1 <= i.rows.length) {W:World} {x y z:List Ty} {xv yv zv:Value} (hr:RowR W i.rows ra) (hx:RowC W x xv) (hy:RowC W y yv) (hz:RowC W z zv) (gx:x.all gYq = true) (bx:x.length + N <= 1001) (by':y.length <= 1001) (bz:z.length <= 1001) :
 Calls Tryz.prog 112 #[insV p n ta tl tc ra i.rows.length rc dk dn dp ds da dl dc,xv,yv,zv] W (LPq (throughF (fun l s=>rowG (stepF N) l false s) i x y z) W):=by
 obtain ⟨b,o,na,nc,VN,rfl,c1,r1⟩:=hr 0 (rowAt i 0) (by unfold rowAt;rw [List.getElem?_eq_getElem (by omega)];rfl)
 obtain ⟨xa,xl,xc,rfl⟩:=hx.form3
 exact through_any hx hy hz h1 (by simpa using c1) (fun W2 hg=>hR _ W2 na nc VN _ xa xl xc (r1.same (sAl hg)) (rowAt_mem hi) (hx.grow hg) bx gx) (rowG_bounds (by omega) gx) (by omega) (by omega)
theorem below_s {i:Ins} (hR:RowS N) (hi:InsOk N i) (h1:1 <= i.rows.length) {W:World} {s:List Ty} {T:Ty} {sv:Value} {t0:Int} {a0:Option Addr} {l0 k0:Nat} (hr:RowR W i.rows ra) (hs:RowC W s sv) (hT:LiesT (fun _=>True) W T (tyV t0 a0 l0 k0)) (gs:s.all gYq = true) (bs:s.length + N <= 1001) :
 Calls Tryz.prog 113 #[insV p n ta tl tc ra i.rows.length rc dk dn dp ds da dl dc,tyV t0 a0 l0 k0,sv] W (LPq (belowF (fun l s=>rowG (stepF N) l false s) i T s) W):=by
 obtain ⟨b,o,na,nc,VN,rfl,c1,r1⟩:=hr 0 (rowAt i 0) (by unfold rowAt;rw [List.getElem?_eq_getElem (by omega)];rfl)
 obtain ⟨xa,xl,xc,rfl⟩:=hs.form3
 have h:=below_any (p:=p) (n:=n) (ta:=ta) (tl:=tl) (tc:=tc) (rc:=rc) (dk:=dk) (dn:=dn) (dp:=dp) (ds:=ds) (da:=da) (dl:=dl) (dc:=dc) (r:=rowG (stepF N) (rowAt i 0) false s) hT ⟨xa,xl,xc,rfl⟩ h1 (by simpa using c1) (fun W2 hg=>hR _ W2 na nc VN _ xa xl xc (r1.same (sAl hg)) (rowAt_mem hi) (hs.grow hg) bs gs) (fun f ts h=>by have:=(rowG_small _ false s (by omega) gs h).1;omega)
 have e:belowM T (rowG (stepF N) (rowAt i 0) false s) = belowF (fun l s=>rowG (stepF N) l false s) i T s:=by
  unfold belowF belowM
  dsimp only
  cases rowG (stepF N) (rowAt i 0) false s <;> rfl
 rw [← e]
 exact h
theorem chooses_s {i:Ins} (hR:RowS N) (hi:InsOk N i) (hp:i.p = 52 \/ i.p = 55 \/ i.p = 58 \/ i.p = 64) {W:World} {s:List Ty} {sv:Value} (hr:RowR W i.rows ra) (hs:RowC W s sv) (hgd:s.all gYq = true) (hn:s.length + (N + 1) <= 1001) :
 Calls Tryz.prog 85 #[insV i.p n ta tl tc ra i.rows.length rc dk dn dp ds da dl dc,sv] W (LPq (choosesF (fun l s=>rowG (stepF N) l false s) i s) W):=by
 have h2:i.rows.length = 2:=by
  rw [hi.nr]
  rcases hp with e | e | e | e <;> rw [e] <;> simp [rcF,formsF]
 have hE:∀ (W2:World) (x y:List Ty) (xv yv:Value) (a2:Option Addr) (l2 c2:Nat),W.grownBy W2 none -> RowC W2 (s.drop 1) (.slice a2 l2 c2) -> RowC W2 x xv -> RowC W2 y yv -> x.length <= 2 -> y.length <= 2 -> x.all gYq = true -> y.all gYq = true -> 1 <= s.length -> Calls Tryz.prog 111 #[insV i.p n ta tl tc ra i.rows.length rc dk dn dp ds da dl dc,.slice a2 l2 c2,xv,yv] W2 (LPq (eitherF (fun l s=>rowG (stepF N) l false s) i (s.drop 1) x y) W2) :=
  fun W2 x y xv yv a2 l2 c2 hg h1 h3 h4 h5 h6 h7 h8 h9=>either_s hR hi h2 (hr.grow hg) h1 h3 h4 (good_drop hgd 1) h7 h8 (by rw [List.length_drop];omega) (by rw [List.length_drop];omega)
 have hn':s.length <= 1000:=by omega
 rcases hp with e | e | e | e <;> rw [e] at hE ⊢ <;> unfold choosesF <;> simp only [e]
 ·by_cases h:sFq s [12] = true
  ·rw [if_pos (by simp [h])]
   exact chooses_52 (E:=fun x y=>eitherF (fun l s=>rowG (stepF N) l false s) i (s.drop 1) x y) hs h hgd hn' (fun W2 x y xv yv a2 l2 c2 h1 h2 h3 h4 h5 h6 h7 h8=>hE W2 x y xv yv a2 l2 c2 h1 h2 h3 h4 h5 h6 h7 h8 (slq h))
  ·rw [Bool.not_eq_true] at h
   rw [if_neg (by simp [h]),if_neg (by simp),if_neg (by simp),if_neg (by simp)]
   exact chooses_52n hs h
 ·by_cases h:sFq s [9] = true
  ·rw [if_neg (by simp),if_pos (by simp [h])]
   exact chooses_55 (E:=fun x y=>eitherF (fun l s=>rowG (stepF N) l false s) i (s.drop 1) x y) hs h hgd hn' (fun W2 x y xv yv a2 l2 c2 h1 h2 h3 h4 h5 h6 h7 h8=>hE W2 x y xv yv a2 l2 c2 h1 h2 h3 h4 h5 h6 h7 h8 (slq h))
  ·rw [Bool.not_eq_true] at h
   rw [if_neg (by simp),if_neg (by simp [h]),if_neg (by simp),if_neg (by simp)]
   exact chooses_55n hs h
 ·by_cases h:sFq s [10] = true
  ·rw [if_neg (by simp),if_neg (by simp),if_pos (by simp [h])]
   exact chooses_58 (E:=fun x y=>eitherF (fun l s=>rowG (stepF N) l false s) i (s.drop 1) x y) hs h hgd hn' (fun W2 x y xv yv a2 l2 c2 h1 h2 h3 h4 h5 h6 h7 h8=>hE W2 x y xv yv a2 l2 c2 h1 h2 h3 h4 h5 h6 h7 h8 (slq h))
  ·rw [Bool.not_eq_true] at h
   rw [if_neg (by simp),if_neg (by simp),if_neg (by simp [h]),if_neg (by simp)]
   exact chooses_58n hs h
 ·by_cases h:sFq s [2] = true
  ·rw [if_neg (by simp),if_neg (by simp),if_neg (by simp),if_pos (by simp [h])]
   exact chooses_64 (E:=fun x y=>eitherF (fun l s=>rowG (stepF N) l false s) i (s.drop 1) x y) hs h hgd hn' (fun W2 x y xv yv a2 l2 c2 h1 h2 h3 h4 h5 h6 h7 h8=>hE W2 x y xv yv a2 l2 c2 h1 h2 h3 h4 h5 h6 h7 h8 (slq h))
  ·rw [Bool.not_eq_true] at h
   rw [if_neg (by simp),if_neg (by simp),if_neg (by simp),if_neg (by simp [h])]
   exact chooses_64n hs h
theorem enters_s {i:Ins} (hR:RowS N) (hi:InsOk N i) (hp:i.p = 60 \/ i.p = 65 \/ i.p = 66 \/ i.p = 67 \/ i.p = 68) {W:World} {s:List Ty} {sv:Value} (hr:RowR W i.rows ra) (hT:RowC W i.types (.slice ta i.types.length tc)) (hs:RowC W s sv) (hgd:s.all gYq = true) (hn:s.length + (N + 1) <= 1001) :
 Calls Tryz.prog 86 #[insV i.p n ta i.types.length tc ra i.rows.length rc dk dn dp ds da dl dc,sv] W (LPq (entersF (fun l s=>rowG (stepF N) l false s) i s) W):=by
 have hn':s.length <= 1000:=by omega
 have hTh:1 <= i.rows.length -> ∀ (W2:World) (x y z:List Ty) (xv yv zv:Value),W.grownBy W2 none -> RowC W2 x xv -> RowC W2 y yv -> RowC W2 z zv -> x.length <= s.length + 1 -> y.length <= 1001 -> z.length <= 1001 -> x.all gYq = true -> Calls Tryz.prog 112 #[insV i.p n ta i.types.length tc ra i.rows.length rc dk dn dp ds da dl dc,xv,yv,zv] W2 (LPq (throughF (fun l s=>rowG (stepF N) l false s) i x y z) W2) :=
  fun h1 W2 x y z xv yv zv hg hx hy hz bx by' bz gx=>through_s hR hi h1 (hr.grow hg) hx hy hz gx (by omega) by' bz
 rcases hp with e | e | e | e | e
 ·have h1:1 <= i.rows.length:=by rw [hi.nr,e];simp [rcF,formsF]
  replace hTh:=hTh h1
  rw [e] at hTh ⊢
  unfold entersF
  simp only [e]
  by_cases h:sFq s [10] = true
  ·rw [if_pos (by simp [h])]
   exact enters_60a (Th:=fun x y z=>throughF (fun l s=>rowG (stepF N) l false s) i x y z) hs h hgd hn' hTh
  ·rw [Bool.not_eq_true] at h
   by_cases h':sFq s [13] = true
   ·rw [if_neg (by simp [h]),if_pos (by simp [h'])]
    exact enters_60b (Th:=fun x y z=>throughF (fun l s=>rowG (stepF N) l false s) i x y z) hs h h' hgd hn' hTh
   ·rw [Bool.not_eq_true] at h'
    rw [if_neg (by simp [h]),if_neg (by simp [h']),if_neg (by simp),if_neg (by simp),if_neg (by simp),if_neg (by simp)]
    exact enters_60n hs h h' hgd hn'
 ·have h1:1 <= i.rows.length:=by rw [hi.nr,e];simp [rcF,formsF]
  replace hTh:=hTh h1
  rw [e] at hTh ⊢
  unfold entersF
  simp only [e]
  by_cases h:sFq s [2] = true
  ·rw [if_neg (by simp),if_neg (by simp),if_pos (by simp [h])]
   exact enters_65 (Th:=fun x y z=>throughF (fun l s=>rowG (stepF N) l false s) i x y z) hs h hgd hn' hTh
  ·rw [Bool.not_eq_true] at h
   rw [if_neg (by simp),if_neg (by simp),if_neg (by simp [h]),if_neg (by simp),if_neg (by simp),if_neg (by simp)]
   exact enters_65n hs h hgd hn'
 ·have h1:1 <= i.rows.length:=by rw [hi.nr,e];simp [rcF,formsF]
  have h2:i.types.length = 2:=by rw [hi.nt,e];simp [tcF,formsF]
  replace hTh:=hTh h1
  obtain ⟨b,o,na,nc,VN,rfl,c1,r1⟩:=hr 0 (rowAt i 0) (by unfold rowAt;rw [List.getElem?_eq_getElem (by omega)];rfl)
  have hM:∀ W2,W.grownBy W2 none -> Calls Tryz.prog 49 #[.slice na (rowAt i 0).length nc] W2 fun e w'=>e = .returned (.bool (mintsTs (rowAt i 0))) /\ W2.grownBy w' none:=fun W2 hg=>mints_any _ (r1.same (sAl hg)) (Nat.le_refl _)
  rw [e] at hTh ⊢
  unfold entersF
  simp only [e]
  by_cases h:mintsTs (rowAt i 0) = true
  ·rw [if_neg (by simp),if_neg (by simp),if_neg (by simp),if_neg (by simp [h]),if_neg (by simp),if_neg (by simp)]
   rw [h] at hM
   exact enters_66n (types:=[]) hs hn' h1 (by simpa using c1) hM
  ·rw [Bool.not_eq_true] at h
   rw [if_neg (by simp),if_neg (by simp),if_neg (by simp),if_pos (by simp [h])]
   rw [h] at hM
   exact enters_66 (Th:=fun x y z=>throughF (fun l s=>rowG (stepF N) l false s) i x y z) hs hn' h1 (by simpa using c1) hM hT h2 hi.gt hTh
 ·rw [e]
  unfold entersF
  simp only [e]
  by_cases h:sFq s [0,14] = true
  ·by_cases h':sameT (tAq s 0) (tAq (tAq s 1).args 0) = true
   ·rw [if_neg (by simp),if_neg (by simp),if_neg (by simp),if_neg (by simp),if_pos (by simp [h,h'])]
    exact enters_67 hs hT h h' (Nat.le_trans (sz_at hgd 0) (by decide)) hgd hn'
   ·rw [Bool.not_eq_true] at h'
    rw [if_neg (by simp),if_neg (by simp),if_neg (by simp),if_neg (by simp),if_neg (by simp [h']),if_neg (by simp)]
    exact enters_67n1 hs hT h h' (Nat.le_trans (sz_at hgd 0) (by decide)) hgd hn'
  ·rw [Bool.not_eq_true] at h
   rw [if_neg (by simp),if_neg (by simp),if_neg (by simp),if_neg (by simp),if_neg (by simp [h]),if_neg (by simp)]
   exact enters_67n hs hT h hgd hn'
 ·have h1:1 <= i.rows.length:=by rw [hi.nr,e];simp [rcF,formsF]
  have hB:∀ (W2:World) (a2 a3:Option Addr) (l2 c2 l3 k3:Nat) (t3:Int),W.grownBy W2 none -> RowC W2 (s.drop 1) (.slice a2 l2 c2) -> LiesT (fun _=>True) W2 (tAq s 0) (tyV t3 a3 l3 k3) -> Calls Tryz.prog 113 #[insV i.p n ta i.types.length tc ra i.rows.length rc dk dn dp ds da dl dc,tyV t3 a3 l3 k3,.slice a2 l2 c2] W2 (LPq (belowF (fun l s=>rowG (stepF N) l false s) i (tAq s 0) (s.drop 1)) W2) :=
   fun W2 a2 a3 l2 c2 l3 k3 t3 hg hd hl=>below_s hR hi h1 (hr.grow hg) hd hl (good_drop hgd 1) (by rw [List.length_drop];omega)
  rw [e] at hB ⊢
  unfold entersF
  simp only [e]
  by_cases h:sFq s [0] = true
  ·rw [if_neg (by simp),if_neg (by simp),if_neg (by simp),if_neg (by simp),if_neg (by simp),if_pos (by simp [h])]
   exact enters_68 hs h hn' hB
  ·rw [Bool.not_eq_true] at h
   rw [if_neg (by simp),if_neg (by simp),if_neg (by simp),if_neg (by simp),if_neg (by simp),if_neg (by simp [h])]
   exact enters_68n hs h hn'
end
theorem step_succ {N:Nat} (hN:N <= 300) (hR:RowS N):StepS (N + 1):=by
 intro t v W s a2 l2 c2 hz hL hs hn hgd
 rw [stepF]
 by_cases hk:t.k0 = 3
 ·rw [if_pos hk]
  obtain ⟨na,nc,VN,e1,_,hRN⟩:=hL.invN
  have e0:t.size = sizes t.args0 + 1:=by cases t;rfl
  exact step_seq e1 hk (fun W2 hg=>hR _ W2 na nc VN s a2 l2 c2 (hRN.same (sAl hg)) (fun x hx=>by have:=size_memT hx;omega) (hs.grow hg) (by omega) hgd)
 ·rw [if_neg hk]
  cases hr:readF t with
  | none=>exact step_none hL hk hr
  | some i =>
   have hi:=readF_ok hz hr
   have hn':s.length <= 1000:=by omega
   have h40:=hi.p40
   show Calls _ _ _ _ (LPq (insF _ i s) W)
   unfold insF
   by_cases g1:i.p = 40 \/ i.p = 41 \/ i.p = 42 \/ i.p = 43 \/ i.p = 44
   ·rw [if_pos g1]
    exact step_moves hL hk hr g1 (fun W2 ta ra da tc rc dc hg k1 k2 k3 k4=>moves_all i.p g1 (hs.grow hg) k1 hi.n0 hgd hn')
   rw [if_neg g1]
   by_cases g2:i.p = 46 \/ i.p = 47 \/ i.p = 48 \/ i.p = 49 \/ i.p = 50 \/ i.p = 51 \/ i.p = 53 \/ i.p = 54
   ·rw [if_pos g2]
    exact step_binds hL hk hr g2 (fun W2 ta ra da tc rc dc hg k1 k2 k3 k4=>binds_all i.p g2 (hs.grow hg) k1 hi.nt hi.gt hgd hn')
   rw [if_neg g2]
   by_cases g3:i.p = 56 \/ i.p = 57 \/ i.p = 59 \/ i.p = 61 \/ i.p = 62 \/ i.p = 63
   ·rw [if_pos g3]
    exact step_gathers hL hk hr g3 (fun W2 ta ra da tc rc dc hg k1 k2 k3 k4=>gathers_all i.p g3 (hs.grow hg) k1 hi.nt hi.gt hgd hn')
   rw [if_neg g3]
   by_cases g4:i.p = 52 \/ i.p = 55 \/ i.p = 58 \/ i.p = 64
   ·rw [if_pos g4]
    exact step_chooses hL hk hr g4 (fun W2 ta ra da tc rc dc hg k1 k2 k3 k4=>chooses_s hR hi g4 k2 (hs.grow hg) hgd hn)
   rw [if_neg g4]
   by_cases g5:i.p = 60 \/ i.p = 65 \/ i.p = 66 \/ i.p = 67 \/ i.p = 68
   ·rw [if_pos g5]
    exact step_enters hL hk hr g5 (fun W2 ta ra da tc rc dc hg k1 k2 k3 k4=>enters_s hR hi g5 k2 k1 (hs.grow hg) hgd hn)
   rw [if_neg g5]
   by_cases g6:i.p = 69 \/ i.p = 70 \/ i.p = 71 \/ i.p = 72 \/ i.p = 93 \/ i.p = 94 \/ i.p = 95
   ·rw [if_pos g6]
    exact step_reckons hL hk hr g6 (fun W2 ta ra da tc rc dc hg k1 k2 k3 k4=>reckons_all i.p (by omega) (hs.grow hg) k1 hi.nt hi.gt hgd hn')
   rw [if_neg g6]
   by_cases g7:i.p = 73 \/ i.p = 74 \/ i.p = 75 \/ i.p = 76 \/ i.p = 77 \/ i.p = 78 \/ i.p = 79
   ·rw [if_pos g7]
    exact step_asks hL hk hr g7 (fun W2 ta ra da tc rc dc hg k1 k2 k3 k4=>asks_all i.p g7 (hs.grow hg) k1 hi.nt hi.gt hgd hn')
   rw [if_neg g7]
   by_cases g8:i.p = 45 \/ i.p = 80 \/ i.p = 81 \/ i.p = 82 \/ i.p = 83
   ·rw [if_pos g8]
    exact step_tells hL hk hr g8 (fun W2 ta ra da tc rc dc hg k1 k2 k3 k4=>tells_all i.p g8 (hs.grow hg) k1 hi.nt hi.gt hgd hn' k4 (by have:=hi.data;omega))
   rw [if_neg g8]
   by_cases g9:i.p = 84 \/ i.p = 85 \/ i.p = 86 \/ i.p = 87
   ·rw [if_pos g9]
    exact step_vouches hL hk hr g9 (fun W2 ta ra da tc rc dc hg k1 k2 k3 k4=>vouches_all i.p g9 (hs.grow hg) k1 hi.nt hi.gt hgd hn')
   rw [if_neg g9]
   exact step_sends hL hk hr (by omega) (fun W2 ta ra da tc rc dc hg k1 k2 k3 k4=>sends_all i.p (by omega) (hs.grow hg) k1 hi.nt hi.gt hgd hn')
theorem step_all:∀ N,N <= 300 -> StepS N
 | 0,_=>fun t v W s a2 l2 c2 hz=>by
  have : 1 <= t.size:=by cases t;simp [Tr.size]
  omega
 | N + 1,h=>step_succ (by omega) (row_of_step (by omega) (step_all N (by omega)))
end Go.Proofs.YtkglnoimbekhhaaGreat
