import Derived.Test.YtkglnoimbekhhaaGreatKZe
import Derived.Test.YtkglnoimbekhhaaGreatKCkGa
import Derived.Test.YtkglnoimbekhhaaGreatKCkGb
import Derived.Test.YtkglnoimbekhhaaGreatKCkGc
import Derived.Test.YtkglnoimbekhhaaGreatKCkGd
import Derived.Test.YtkglnoimbekhhaaGreatKZr
import Derived.Test.YtkglnoimbekhhaaGreatKZu
import Derived.Test.YtkglnoimbekhhaaGreatKCkTwo
import Derived.Test.YtkglnoimbekhhaaGreatKZd
namespace Go.Proofs.YtkglnoimbekhhaaGreat
set_option maxRecDepth 100000
set_option maxHeartbeats 4000000
open Go.ChangeShapes Go.WideShapes Go.ChangeAt Go.RowKit
set_option linter.unusedVariables false
set_option linter.unusedSimpArgs false
def tcF (p:Int):Nat:=((formsF p).filter (fun f=>decide (f = 116 \/ f = 117))).length
theorem sz_at {s:List Ty} (h:s.all gYq = true) (i:Nat):(tAq s i).size <= 300:=by
 unfold tAq
 cases e:s[i]? with
 | none=>simp [Ty.size,tysizes]
 | some T =>
  have h1:=List.all_eq_true.1 h T (List.mem_of_getElem? e)
  simp only [gYq,Bool.and_eq_true,decide_eq_true_eq] at h1
  exact h1.1.2
theorem sz_arg {T:Ty} {k:Nat} (h:T.size <= k) (j:Nat):(tAq T.args j).size <= k:=by
 unfold tAq
 have e0:T.size = tysizes T.args + 1:=by cases T;rfl
 cases e:T.args[j]? with
 | none=>simp [Ty.size,tysizes];omega
 | some U =>
  have:=tysize_mem (List.mem_of_getElem? e)
  simp only [Option.getD_some]
  omega
theorem binds_all {W:World} {n:Int} {ta ra da:Option Addr} {tl tc rl rc dl dc:Nat} {dk dn dp:Int} {ds:ByteArray} {s types:List Ty} {rows:List (List Tr)} {data:Tr} {sv:Value} (p:Int) (hp:p = 46 \/ p = 47 \/ p = 48 \/ p = 49 \/ p = 50 \/ p = 51 \/ p = 53 \/ p = 54) (hs:RowC W s sv) (hT:RowC W types (.slice ta tl tc)) (htl:types.length = tcF p) (hgt:types.all gYq = true) (hgd:s.all gYq = true) (hn:s.length <= 1000) :
 Calls Tryz.prog 83 #[insV p n ta tl tc ra rl rc dk dn dp ds da dl dc,sv] W (LPq (bindsF ⟨p,n,types,rows,data⟩ s) W):=by
 rcases hp with rfl | rfl | rfl | rfl | rfl | rfl | rfl | rfl
 ·by_cases h0:sFq s [0,0] = true
  ·have e:bindsF ⟨46,n,types,rows,data⟩ s = (pFq (s.drop 2) [(.nd 11 [(tAq s 0),(tAq s 1)])]):=by simp [bindsF,h0]
   rw [e];exact binds_46 hs hT h0 hgd hn
  ·rw [Bool.not_eq_true] at h0
   have e:bindsF ⟨46,n,types,rows,data⟩ s = (.no 5):=by simp [bindsF,h0]
   rw [e];exact binds_46n hs hT h0 hgd hn
 ·by_cases h0:sFq s [11] = true
  ·have e:bindsF ⟨47,n,types,rows,data⟩ s = (pFq (s.drop 1) (tAq s 0).args):=by simp [bindsF,h0]
   rw [e];exact binds_47 hs hT h0 hgd hn
  ·rw [Bool.not_eq_true] at h0
   have e:bindsF ⟨47,n,types,rows,data⟩ s = (.no 5):=by simp [bindsF,h0]
   rw [e];exact binds_47n hs hT h0 hgd hn
 ·by_cases h0:sFq s [11] = true
  ·have e:bindsF ⟨48,n,types,rows,data⟩ s = (pFq (s.drop 1) [(tAq (tAq s 0).args 0)]):=by simp [bindsF,h0]
   rw [e];exact binds_48 hs hT h0 hgd hn
  ·rw [Bool.not_eq_true] at h0
   have e:bindsF ⟨48,n,types,rows,data⟩ s = (.no 5):=by simp [bindsF,h0]
   rw [e];exact binds_48n hs hT h0 hgd hn
 ·by_cases h0:sFq s [11] = true
  ·have e:bindsF ⟨49,n,types,rows,data⟩ s = (pFq (s.drop 1) [(tAq (tAq s 0).args 1)]):=by simp [bindsF,h0]
   rw [e];exact binds_49 hs hT h0 hgd hn
  ·rw [Bool.not_eq_true] at h0
   have e:bindsF ⟨49,n,types,rows,data⟩ s = (.no 5):=by simp [bindsF,h0]
   rw [e];exact binds_49n hs hT h0 hgd hn
 ·by_cases h0:sFq s [0] = true
  ·have e:bindsF ⟨50,n,types,rows,data⟩ s = (pFq (s.drop 1) [(.nd 12 [(tAq s 0),(tAq types 0)])]):=by simp [bindsF,h0]
   rw [e];exact binds_50 hs hT h0 (by simpa [tcF,formsF] using htl) hgd hn
  ·rw [Bool.not_eq_true] at h0
   have e:bindsF ⟨50,n,types,rows,data⟩ s = (.no 5):=by simp [bindsF,h0]
   rw [e];exact binds_50n hs hT h0 hgd hn
 ·by_cases h0:sFq s [0] = true
  ·have e:bindsF ⟨51,n,types,rows,data⟩ s = (pFq (s.drop 1) [(.nd 12 [(tAq types 0),(tAq s 0)])]):=by simp [bindsF,h0]
   rw [e];exact binds_51 hs hT h0 (by simpa [tcF,formsF] using htl) hgd hn
  ·rw [Bool.not_eq_true] at h0
   have e:bindsF ⟨51,n,types,rows,data⟩ s = (.no 5):=by simp [bindsF,h0]
   rw [e];exact binds_51n hs hT h0 hgd hn
 ·by_cases h0:sFq s [0] = true
  ·have e:bindsF ⟨53,n,types,rows,data⟩ s = (pFq (s.drop 1) [(.nd 9 [(tAq s 0)])]):=by simp [bindsF,h0]
   rw [e];exact binds_53 hs hT h0 hgd hn
  ·rw [Bool.not_eq_true] at h0
   have e:bindsF ⟨53,n,types,rows,data⟩ s = (.no 5):=by simp [bindsF,h0]
   rw [e];exact binds_53n hs hT h0 hgd hn
 ·have e:bindsF ⟨54,n,types,rows,data⟩ s = (pFq s [(.nd 9 [(tAq types 0)])]):=by simp [bindsF]
  rw [e];exact binds_54 hs hT (by simpa [tcF,formsF] using htl) hgd hn
theorem gathers_all {W:World} {n:Int} {ta ra da:Option Addr} {tl tc rl rc dl dc:Nat} {dk dn dp:Int} {ds:ByteArray} {s types:List Ty} {rows:List (List Tr)} {data:Tr} {sv:Value} (p:Int) (hp:p = 56 \/ p = 57 \/ p = 59 \/ p = 61 \/ p = 62 \/ p = 63) (hs:RowC W s sv) (hT:RowC W types (.slice ta tl tc)) (htl:types.length = tcF p) (hgt:types.all gYq = true) (hgd:s.all gYq = true) (hn:s.length <= 1000) :
 Calls Tryz.prog 84 #[insV p n ta tl tc ra rl rc dk dn dp ds da dl dc,sv] W (LPq (gathersF ⟨p,n,types,rows,data⟩ s) W):=by
 rcases hp with rfl | rfl | rfl | rfl | rfl | rfl
 ·have e:gathersF ⟨56,n,types,rows,data⟩ s = (pFq s [(.nd 10 [(tAq types 0)])]):=by simp [gathersF]
  rw [e];exact gathers_56 hs hT (by simpa [tcF,formsF] using htl) hgd hn
 ·by_cases h0:sFq s [0,10] = true
  ·by_cases h1:sameT (tAq s 0) (tAq (tAq s 1).args 0) = true
   ·have e:gathersF ⟨57,n,types,rows,data⟩ s = (pFq (s.drop 1) []):=by simp [gathersF,h0,h1]
    rw [e];exact gathers_57 hs hT h0 h1 (Nat.le_trans (sz_at hgd 0) (by decide)) hgd hn
   ·rw [Bool.not_eq_true] at h1
    have e:gathersF ⟨57,n,types,rows,data⟩ s = (.no 5):=by simp [gathersF,h0,h1]
    rw [e];exact gathers_57n1 hs hT h0 h1 (Nat.le_trans (sz_at hgd 0) (by decide)) hgd hn
  ·rw [Bool.not_eq_true] at h0
   have e:gathersF ⟨57,n,types,rows,data⟩ s = (.no 5):=by simp [gathersF,h0]
   rw [e];exact gathers_57n hs hT h0 hgd hn
 ·by_cases h0:sFq s [6] = true
  ·have e:gathersF ⟨59,n,types,rows,data⟩ s = (pFq (s.drop 1) [(.nd 4 [])]):=by simp [gathersF,h0]
   rw [e];exact gathers_59a hs hT h0 hgd hn
  ·rw [Bool.not_eq_true] at h0
   by_cases h1:sFq s [10] = true
   ·have e:gathersF ⟨59,n,types,rows,data⟩ s = (pFq (s.drop 1) [(.nd 4 [])]):=by simp [gathersF,h0,h1]
    rw [e];exact gathers_59b hs hT h1 h0 hgd hn
   ·rw [Bool.not_eq_true] at h1
    by_cases h2:sFq s [13] = true
    ·have e:gathersF ⟨59,n,types,rows,data⟩ s = (pFq (s.drop 1) [(.nd 4 [])]):=by simp [gathersF,h0,h1,h2]
     rw [e];exact gathers_59c hs hT h2 h0 h1 hgd hn
    ·rw [Bool.not_eq_true] at h2
     have e:gathersF ⟨59,n,types,rows,data⟩ s = (.no 5):=by simp [gathersF,h0,h1,h2]
     rw [e];exact gathers_59n hs hT h2 h0 h1 hgd hn
 ·by_cases h0:compT (tAq types 0) = true
  ·have e:gathersF ⟨61,n,types,rows,data⟩ s = (pFq s [(.nd 13 types)]):=by simp [gathersF,h0]
   rw [e];exact gathers_61 hs hT h0 (Nat.le_trans (sz_at hgt 0) (by decide)) (by simpa [tcF,formsF] using htl) hgd hn
  ·rw [Bool.not_eq_true] at h0
   have e:gathersF ⟨61,n,types,rows,data⟩ s = (.no 5):=by simp [gathersF,h0]
   rw [e];exact gathers_61n1 hs hT h0 (Nat.le_trans (sz_at hgt 0) (by decide)) (by simpa [tcF,formsF] using htl) hgd hn
 ·by_cases h0:sFq s [0,13] = true
  ·by_cases h1:sameT (tAq s 0) (tAq (tAq s 1).args 0) = true
   ·by_cases h2:copyT (tAq (tAq s 1).args 1) = true
    ·have e:gathersF ⟨62,n,types,rows,data⟩ s = (pFq (s.drop 2) [(.nd 9 [(tAq (tAq s 1).args 1)])]):=by simp [gathersF,h0,h1,h2]
     rw [e];exact gathers_62 hs hT h0 h1 (Nat.le_trans (sz_at hgd 0) (by decide)) h2 (Nat.le_trans (sz_arg (sz_at hgd 1) 1) (by decide)) hgd hn
    ·rw [Bool.not_eq_true] at h2
     have e:gathersF ⟨62,n,types,rows,data⟩ s = (.no 5):=by simp [gathersF,h0,h1,h2]
     rw [e];exact gathers_62n2 hs hT h0 h1 (Nat.le_trans (sz_at hgd 0) (by decide)) h2 (Nat.le_trans (sz_arg (sz_at hgd 1) 1) (by decide)) hgd hn
   ·rw [Bool.not_eq_true] at h1
    have e:gathersF ⟨62,n,types,rows,data⟩ s = (.no 5):=by simp [gathersF,h0,h1]
    rw [e];exact gathers_62n1 hs hT h0 h1 (Nat.le_trans (sz_at hgd 0) (by decide)) hgd hn
  ·rw [Bool.not_eq_true] at h0
   have e:gathersF ⟨62,n,types,rows,data⟩ s = (.no 5):=by simp [gathersF,h0]
   rw [e];exact gathers_62n hs hT h0 hgd hn
 ·by_cases h0:sFq s [0,9,13] = true
  ·by_cases h1:sameT (tAq s 0) (tAq (tAq s 2).args 0) = true
   ·by_cases h2:sameT (tAq (tAq s 1).args 0) (tAq (tAq s 2).args 1) = true
    ·have e:gathersF ⟨63,n,types,rows,data⟩ s = (pFq (s.drop 2) []):=by simp [gathersF,h0,h1,h2]
     rw [e];exact gathers_63 hs hT h0 h1 (Nat.le_trans (sz_at hgd 0) (by decide)) h2 (Nat.le_trans (sz_arg (sz_at hgd 1) 0) (by decide)) hgd hn
    ·rw [Bool.not_eq_true] at h2
     have e:gathersF ⟨63,n,types,rows,data⟩ s = (.no 5):=by simp [gathersF,h0,h1,h2]
     rw [e];exact gathers_63n2 hs hT h0 h1 (Nat.le_trans (sz_at hgd 0) (by decide)) h2 (Nat.le_trans (sz_arg (sz_at hgd 1) 0) (by decide)) hgd hn
   ·rw [Bool.not_eq_true] at h1
    have e:gathersF ⟨63,n,types,rows,data⟩ s = (.no 5):=by simp [gathersF,h0,h1]
    rw [e];exact gathers_63n1 hs hT h0 h1 (Nat.le_trans (sz_at hgd 0) (by decide)) hgd hn
  ·rw [Bool.not_eq_true] at h0
   have e:gathersF ⟨63,n,types,rows,data⟩ s = (.no 5):=by simp [gathersF,h0]
   rw [e];exact gathers_63n hs hT h0 hgd hn
theorem asks_all {W:World} {n:Int} {ta ra da:Option Addr} {tl tc rl rc dl dc:Nat} {dk dn dp:Int} {ds:ByteArray} {s types:List Ty} {rows:List (List Tr)} {data:Tr} {sv:Value} (p:Int) (hp:p = 73 \/ p = 74 \/ p = 75 \/ p = 76 \/ p = 77 \/ p = 78 \/ p = 79) (hs:RowC W s sv) (hT:RowC W types (.slice ta tl tc)) (htl:types.length = tcF p) (hgt:types.all gYq = true) (hgd:s.all gYq = true) (hn:s.length <= 1000) :
 Calls Tryz.prog 88 #[insV p n ta tl tc ra rl rc dk dn dp ds da dl dc,sv] W (LPq (asksF ⟨p,n,types,rows,data⟩ s) W):=by
 rcases hp with rfl | rfl | rfl | rfl | rfl | rfl | rfl
 ·by_cases h0:sFq s [0,0] = true
  ·by_cases h1:sameT (tAq s 0) (tAq s 1) = true
   ·by_cases h2:compT (tAq s 0) = true
    ·have e:asksF ⟨73,n,types,rows,data⟩ s = (pFq (s.drop 2) [(.nd 3 [])]):=by simp [asksF,h0,h1,h2]
     rw [e];exact asks_73 hs hT h0 h1 (Nat.le_trans (sz_at hgd 0) (by decide)) h2 (Nat.le_trans (sz_at hgd 0) (by decide)) hgd hn
    ·rw [Bool.not_eq_true] at h2
     have e:asksF ⟨73,n,types,rows,data⟩ s = (.no 5):=by simp [asksF,h0,h1,h2]
     rw [e];exact asks_73n2 hs hT h0 h1 (Nat.le_trans (sz_at hgd 0) (by decide)) h2 (Nat.le_trans (sz_at hgd 0) (by decide)) hgd hn
   ·rw [Bool.not_eq_true] at h1
    have e:asksF ⟨73,n,types,rows,data⟩ s = (.no 5):=by simp [asksF,h0,h1]
    rw [e];exact asks_73n1 hs hT h0 h1 (Nat.le_trans (sz_at hgd 0) (by decide)) hgd hn
  ·rw [Bool.not_eq_true] at h0
   have e:asksF ⟨73,n,types,rows,data⟩ s = (.no 5):=by simp [asksF,h0]
   rw [e];exact asks_73n hs hT h0 hgd hn
 ·by_cases h0:sFq s [3] = true
  ·have e:asksF ⟨74,n,types,rows,data⟩ s = (pFq (s.drop 1) [(.nd 2 [])]):=by simp [asksF,h0]
   rw [e];exact asks_74 (.inl rfl) hs hT h0 hgd hn
  ·rw [Bool.not_eq_true] at h0
   have e:asksF ⟨74,n,types,rows,data⟩ s = (.no 5):=by simp [asksF,h0]
   rw [e];exact asks_74n (.inl rfl) hs hT h0 hgd hn
 ·by_cases h0:sFq s [3] = true
  ·have e:asksF ⟨75,n,types,rows,data⟩ s = (pFq (s.drop 1) [(.nd 2 [])]):=by simp [asksF,h0]
   rw [e];exact asks_74 (.inr (.inl rfl)) hs hT h0 hgd hn
  ·rw [Bool.not_eq_true] at h0
   have e:asksF ⟨75,n,types,rows,data⟩ s = (.no 5):=by simp [asksF,h0]
   rw [e];exact asks_74n (.inr (.inl rfl)) hs hT h0 hgd hn
 ·by_cases h0:sFq s [3] = true
  ·have e:asksF ⟨76,n,types,rows,data⟩ s = (pFq (s.drop 1) [(.nd 2 [])]):=by simp [asksF,h0]
   rw [e];exact asks_74 (.inr (.inr rfl)) hs hT h0 hgd hn
  ·rw [Bool.not_eq_true] at h0
   have e:asksF ⟨76,n,types,rows,data⟩ s = (.no 5):=by simp [asksF,h0]
   rw [e];exact asks_74n (.inr (.inr rfl)) hs hT h0 hgd hn
 ·by_cases h0:sFq s [2] = true
  ·have e:asksF ⟨77,n,types,rows,data⟩ s = (pFq (s.drop 1) [(.nd 2 [])]):=by simp [asksF,h0]
   rw [e];exact asks_77 hs hT h0 hgd hn
  ·rw [Bool.not_eq_true] at h0
   have e:asksF ⟨77,n,types,rows,data⟩ s = (.no 5):=by simp [asksF,h0]
   rw [e];exact asks_77n hs hT h0 hgd hn
 ·by_cases h0:sFq s [2,2] = true
  ·have e:asksF ⟨78,n,types,rows,data⟩ s = (pFq (s.drop 2) [(.nd 2 [])]):=by simp [asksF,h0]
   rw [e];exact asks_78 (.inl rfl) hs hT h0 hgd hn
  ·rw [Bool.not_eq_true] at h0
   have e:asksF ⟨78,n,types,rows,data⟩ s = (.no 5):=by simp [asksF,h0]
   rw [e];exact asks_78n (.inl rfl) hs hT h0 hgd hn
 ·by_cases h0:sFq s [2,2] = true
  ·have e:asksF ⟨79,n,types,rows,data⟩ s = (pFq (s.drop 2) [(.nd 2 [])]):=by simp [asksF,h0]
   rw [e];exact asks_78 (.inr rfl) hs hT h0 hgd hn
  ·rw [Bool.not_eq_true] at h0
   have e:asksF ⟨79,n,types,rows,data⟩ s = (.no 5):=by simp [asksF,h0]
   rw [e];exact asks_78n (.inr rfl) hs hT h0 hgd hn
theorem vouches_all {W:World} {n:Int} {ta ra da:Option Addr} {tl tc rl rc dl dc:Nat} {dk dn dp:Int} {ds:ByteArray} {s types:List Ty} {rows:List (List Tr)} {data:Tr} {sv:Value} (p:Int) (hp:p = 84 \/ p = 85 \/ p = 86 \/ p = 87) (hs:RowC W s sv) (hT:RowC W types (.slice ta tl tc)) (htl:types.length = tcF p) (hgt:types.all gYq = true) (hgd:s.all gYq = true) (hn:s.length <= 1000) :
 Calls Tryz.prog 90 #[insV p n ta tl tc ra rl rc dk dn dp ds da dl dc,sv] W (LPq (vouchesF ⟨p,n,types,rows,data⟩ s) W):=by
 rcases hp with rfl | rfl | rfl | rfl
 ·by_cases h0:sFq s [0,4] = true
  ·by_cases h1:compT (tAq s 0) = true
   ·have e:vouchesF ⟨84,n,types,rows,data⟩ s = (pFq (s.drop 2) [(.nd 9 [(.nd 15 [(tAq s 0)])])]):=by simp [vouchesF,h0,h1]
    rw [e];exact vouches_84 hs hT h0 h1 (Nat.le_trans (sz_at hgd 0) (by decide)) hgd hn
   ·rw [Bool.not_eq_true] at h1
    have e:vouchesF ⟨84,n,types,rows,data⟩ s = (.no 5):=by simp [vouchesF,h0,h1]
    rw [e];exact vouches_84n1 hs hT h0 h1 (Nat.le_trans (sz_at hgd 0) (by decide)) hgd hn
  ·rw [Bool.not_eq_true] at h0
   have e:vouchesF ⟨84,n,types,rows,data⟩ s = (.no 5):=by simp [vouchesF,h0]
   rw [e];exact vouches_84n hs hT h0 hgd hn
 ·by_cases h0:sFq s [15] = true
  ·have e:vouchesF ⟨85,n,types,rows,data⟩ s = (pFq s [(.nd 11 [(.nd 7 []),(.nd 11 [(tAq (tAq s 0).args 0),(.nd 4 [])])])]):=by simp [vouchesF,h0]
   rw [e];exact vouches_85 hs hT h0 hgd hn
  ·rw [Bool.not_eq_true] at h0
   have e:vouchesF ⟨85,n,types,rows,data⟩ s = (.no 5):=by simp [vouchesF,h0]
   rw [e];exact vouches_85n hs hT h0 hgd hn
 ·by_cases h0:sFq s [15,11] = true
  ·by_cases h1:sFq (tAq s 1).args [4,4] = true
   ·have e:vouchesF ⟨86,n,types,rows,data⟩ s = (pFq (s.drop 2) [(.nd 9 [(.nd 11 [(tAq s 0),(tAq s 0)])])]):=by simp [vouchesF,h0,h1]
    rw [e];exact vouches_86 hs hT h0 h1 hgd hn
   ·rw [Bool.not_eq_true] at h1
    have e:vouchesF ⟨86,n,types,rows,data⟩ s = (.no 5):=by simp [vouchesF,h0,h1]
    rw [e];exact vouches_86n1 hs hT h0 h1 hgd hn
  ·rw [Bool.not_eq_true] at h0
   have e:vouchesF ⟨86,n,types,rows,data⟩ s = (.no 5):=by simp [vouchesF,h0]
   rw [e];exact vouches_86n hs hT h0 hgd hn
 ·by_cases h0:sFq s [11] = true
  ·by_cases h1:sFq (tAq s 0).args [15,15] = true
   ·by_cases h2:sameT (tAq (tAq s 0).args 0) (tAq (tAq s 0).args 1) = true
    ·have e:vouchesF ⟨87,n,types,rows,data⟩ s = (pFq (s.drop 1) [(.nd 9 [(tAq (tAq s 0).args 0)])]):=by simp [vouchesF,h0,h1,h2]
     rw [e];exact vouches_87 hs hT h0 h1 h2 (Nat.le_trans (sz_arg (sz_at hgd 0) 0) (by decide)) hgd hn
    ·rw [Bool.not_eq_true] at h2
     have e:vouchesF ⟨87,n,types,rows,data⟩ s = (.no 5):=by simp [vouchesF,h0,h1,h2]
     rw [e];exact vouches_87n2 hs hT h0 h1 h2 (Nat.le_trans (sz_arg (sz_at hgd 0) 0) (by decide)) hgd hn
   ·rw [Bool.not_eq_true] at h1
    have e:vouchesF ⟨87,n,types,rows,data⟩ s = (.no 5):=by simp [vouchesF,h0,h1]
    rw [e];exact vouches_87n1 hs hT h0 h1 hgd hn
  ·rw [Bool.not_eq_true] at h0
   have e:vouchesF ⟨87,n,types,rows,data⟩ s = (.no 5):=by simp [vouchesF,h0]
   rw [e];exact vouches_87n hs hT h0 hgd hn
theorem reckons_all {W:World} {n:Int} {ta ra da:Option Addr} {tl tc rl rc dl dc:Nat} {dk dn dp:Int} {ds:ByteArray} {s types:List Ty} {rows:List (List Tr)} {data:Tr} {sv:Value} (p:Int) (hp:(p = 69 \/ p = 70 \/ p = 71 \/ p = 72) \/ p = 93 \/ p = 94 \/ p = 95) (hs:RowC W s sv) (hT:RowC W types (.slice ta tl tc)) (htl:types.length = tcF p) (hgt:types.all gYq = true) (hgd:s.all gYq = true) (hn:s.length <= 1000) :
 Calls Tryz.prog 87 #[insV p n ta tl tc ra rl rc dk dn dp ds da dl dc,sv] W (LPq (reckonsF ⟨p,n,types,rows,data⟩ s) W):=by
 rcases hp with hp | rfl | rfl | rfl
 ·have q1:p ≠ 93:=by omega
  have q2:p ≠ 94:=by omega
  have q3:p ≠ 95:=by omega
  by_cases h0:sFq s [0,0] = true
  ·have e:reckonsF ⟨p,n,types,rows,data⟩ s = (match rKq p (tAq s 0).t (tAq s 1).t with
    | some T=>pFq (s.drop 2) [T]
    | none=>.no 5):=by simp [reckonsF,h0,q1,q2,q3,hp];cases rKq p (tAq s 0).t (tAq s 1).t <;> rfl
   rw [e];exact reckons_two hp hs h0 hn
  ·rw [Bool.not_eq_true] at h0
   have e:reckonsF ⟨p,n,types,rows,data⟩ s = .no 5:=by simp [reckonsF,h0,q1,q2,q3]
   rw [e];exact reckons_twon hp hs h0
 ·by_cases h0:sFq s [3] = true
  ·have e:reckonsF ⟨93,n,types,rows,data⟩ s = (pFq (s.drop 1) [(.nd 4 [])]):=by simp [reckonsF,h0]
   rw [e];exact reckons_93 hs hT h0 hgd hn
  ·rw [Bool.not_eq_true] at h0
   have e:reckonsF ⟨93,n,types,rows,data⟩ s = (.no 5):=by simp [reckonsF,h0]
   rw [e];exact reckons_93n hs hT h0 hgd hn
 ·by_cases h0:sFq s [3] = true
  ·have e:reckonsF ⟨94,n,types,rows,data⟩ s = (pFq (s.drop 1) [(.nd 9 [(.nd 4 [])])]):=by simp [reckonsF,h0]
   rw [e];exact reckons_94 hs hT h0 hgd hn
  ·rw [Bool.not_eq_true] at h0
   have e:reckonsF ⟨94,n,types,rows,data⟩ s = (.no 5):=by simp [reckonsF,h0]
   rw [e];exact reckons_94n hs hT h0 hgd hn
 ·by_cases h0:sFq s [4] = true
  ·have e:reckonsF ⟨95,n,types,rows,data⟩ s = (pFq (s.drop 1) [(.nd 3 [])]):=by simp [reckonsF,h0]
   rw [e];exact reckons_95 hs hT h0 hgd hn
  ·rw [Bool.not_eq_true] at h0
   have e:reckonsF ⟨95,n,types,rows,data⟩ s = (.no 5):=by simp [reckonsF,h0]
   rw [e];exact reckons_95n hs hT h0 hgd hn
theorem sends_all {W:World} {n:Int} {ta ra da:Option Addr} {tl tc rl rc dl dc:Nat} {dk dn dp:Int} {ds:ByteArray} {s types:List Ty} {rows:List (List Tr)} {data:Tr} {sv:Value} (p:Int) (hp:p = 88 \/ p = 89 \/ p = 90 \/ p = 91 \/ p = 92 \/ (p ≠ 88 /\ p ≠ 89 /\ p ≠ 90 /\ p ≠ 91 /\ p ≠ 92)) (hs:RowC W s sv) (hT:RowC W types (.slice ta tl tc)) (htl:types.length = tcF p) (hgt:types.all gYq = true) (hgd:s.all gYq = true) (hn:s.length <= 1000) :
 Calls Tryz.prog 91 #[insV p n ta tl tc ra rl rc dk dn dp ds da dl dc,sv] W (LPq (sendsF ⟨p,n,types,rows,data⟩ s) W):=by
 rcases hp with rfl | rfl | rfl | rfl | rfl | ⟨q1,q2,q3,q4,q5⟩
 ·by_cases h0:sFq s [0,5,7] = true
  ·by_cases h1:sameT (tAq s 0) (tAq types 0) = true
   ·by_cases h2:storeT (tAq s 0) = true
    ·have e:sendsF ⟨88,n,types,rows,data⟩ s = (pFq (s.drop 3) [(.nd 8 [])]):=by simp [sendsF,h0,h1,h2]
     rw [e];exact sends_88 hs hT h0 h1 (Nat.le_trans (sz_at hgd 0) (by decide)) h2 (Nat.le_trans (sz_at hgd 0) (by decide)) (by simpa [tcF,formsF] using htl) hgd hn
    ·rw [Bool.not_eq_true] at h2
     have e:sendsF ⟨88,n,types,rows,data⟩ s = (.no 5):=by simp [sendsF,h0,h1,h2]
     rw [e];exact sends_88n2 hs hT h0 h1 (Nat.le_trans (sz_at hgd 0) (by decide)) h2 (Nat.le_trans (sz_at hgd 0) (by decide)) (by simpa [tcF,formsF] using htl) hgd hn
   ·rw [Bool.not_eq_true] at h1
    have e:sendsF ⟨88,n,types,rows,data⟩ s = (.no 5):=by simp [sendsF,h0,h1]
    rw [e];exact sends_88n1 hs hT h0 h1 (Nat.le_trans (sz_at hgd 0) (by decide)) (by simpa [tcF,formsF] using htl) hgd hn
  ·rw [Bool.not_eq_true] at h0
   have e:sendsF ⟨88,n,types,rows,data⟩ s = (.no 5):=by simp [sendsF,h0]
   rw [e];exact sends_88n hs hT h0 hgd hn
 ·have e:sendsF ⟨89,n,types,rows,data⟩ s = (pFq s [(.nd 7 [])]):=by simp [sendsF]
  rw [e];exact sends_89 (.inl rfl) hs hT hgd hn
 ·have e:sendsF ⟨90,n,types,rows,data⟩ s = (pFq s [(.nd 7 [])]):=by simp [sendsF]
  rw [e];exact sends_89 (.inr rfl) hs hT hgd hn
 ·have e:sendsF ⟨91,n,types,rows,data⟩ s = (pFq s [(.nd 5 [])]):=by simp [sendsF]
  rw [e];exact sends_91 (.inl rfl) hs hT hgd hn
 ·have e:sendsF ⟨92,n,types,rows,data⟩ s = (pFq s [(.nd 5 [])]):=by simp [sendsF]
  rw [e];exact sends_91 (.inr rfl) hs hT hgd hn
 ·have e:sendsF ⟨p,n,types,rows,data⟩ s = .no 5:=by simp [sendsF,q1,q2,q3,q4,q5]
  rw [e];exact sends_else hs q1 q2 q3 q4 q5
theorem rowG_small {st:Tr -> List Ty -> Led} : ∀ (l:List Tr) (f:Bool) (s:List Ty) {g:Bool} {ts:List Ty},s.length <= 1001 -> s.all gYq = true -> rowG st l f s = .ok g ts -> ts.length <= 1001 /\ ts.all gYq = true
 | [],f,s,g,ts,h1,h2,h=>by
  simp only [rowG,Led.ok.injEq] at h
  obtain ⟨rfl,rfl⟩:=h
  exact ⟨h1,h2⟩
 | t :: l,f,s,g,ts,h1,h2,h=>by
  simp only [rowG] at h
  by_cases hf:f = true
  ·simp [hf] at h
  ·simp only [hf] at h
   cases hk:keptF (st t s) with
   | no e=>simp [hk] at h
   | ok f' s' =>
    simp only [hk] at h
    obtain ⟨e,h4,h5⟩:=kept_ok hk
    exact rowG_small l f' s' (by omega) h5 (by simpa using h)
theorem tys_sum:∀ {ts:List Ty},ts.all gYq = true -> tysizes ts <= ts.length * 300
 | [],_=>by simp [tysizes]
 | T :: ts,h=>by
  simp only [List.all_cons,Bool.and_eq_true] at h
  have h1:=tys_sum h.2
  have h2:T.size <= 300:=(goodTy_formed h.1).2.1
  simp only [tysizes,List.length_cons]
  omega
theorem size_memT {l:List Tr} {t:Tr} (h:t ∈ l):t.size <= sizes l:=by
 induction l with
 | nil=>cases h
 | cons x l ih =>
  simp only [sizes]
  rcases List.mem_cons.1 h with rfl | h
  ·omega
  ·have:=ih h;omega
def rcF (p:Int):Nat:=((formsF p).filter (fun f=>decide (f = 99 \/ f = 100))).length
theorem parse_good {t:Tr} (h:parseB t = true):gYq (kreadT t) = true:=by
 unfold parseB at h
 rw [Bool.and_eq_true] at h
 exact h.2
theorem takeF_facts {i j:Ins} {f:UInt8} {t:Tr} (h:takeF i f t = some j) :
 j.p = i.p /\ j.types.length = i.types.length + (if f = 116 \/ f = 117 then 1 else 0) /\ j.rows.length = i.rows.length + (if f = 99 \/ f = 100 then 1 else 0) /\ (i.types.all gYq = true -> j.types.all gYq = true) /\
 (∀ P:List Tr -> Prop,(∀ l ∈ i.rows,P l) -> P t.args0 -> ∀ l ∈ j.rows,P l) /\ (j.data = i.data \/ j.data = t) /\ (0 <= i.n -> 0 <= j.n) /\ (i.n <= 40 -> j.n <= 40):=by
 unfold takeF at h
 by_cases h1:f = 110
 ·subst h1
  rw [if_pos rfl] at h
  split at h
  ·rename_i hc
   cases h
   exact ⟨rfl,by simp,by simp,id,fun P h _=>h,.inl rfl,fun _=>hc.2.1,fun _=>hc.2.2⟩
  ·cases h
 ·rw [if_neg h1] at h
  by_cases h2:f = 116 \/ f = 117
  ·rw [if_pos h2] at h
   have h3:¬ (f = 99 \/ f = 100):=by rcases h2 with rfl | rfl <;> decide
   split at h
   ·rename_i hc
    cases h
    refine ⟨rfl,by simp [h2],by simp [h3],fun hg=>good_app hg (by simp [parse_good hc]),fun P h _=>h,.inl rfl,id,id⟩
   ·cases h
  ·rw [if_neg h2] at h
   by_cases h3:f = 99 \/ f = 100
   ·rw [if_pos h3] at h
    split at h
    ·cases h
     refine ⟨rfl,by simp [h2],by simp [h3],id,fun P h h' l hl=>?_,.inl rfl,id,id⟩
     simp only [List.mem_append,List.mem_singleton] at hl
     rcases hl with hl | rfl
     ·exact h l hl
     ·exact h'
    ·cases h
   ·rw [if_neg h3] at h
    cases h
    exact ⟨rfl,by simp [h2],by simp [h3],id,fun P h _=>h,.inr rfl,id,id⟩
theorem takesF_facts:∀ (fs:List UInt8) (l:List Tr) (i j:Ins),fs.length = l.length -> takesF i fs l = some j ->
 j.p = i.p /\ j.types.length = i.types.length + (fs.filter (fun f=>decide (f = 116 \/ f = 117))).length /\ j.rows.length = i.rows.length + (fs.filter (fun f=>decide (f = 99 \/ f = 100))).length /\ (i.types.all gYq = true -> j.types.all gYq = true) /\
 (∀ P:List Tr -> Prop,(∀ r ∈ i.rows,P r) -> (∀ t ∈ l,P t.args0) -> ∀ r ∈ j.rows,P r) /\ (j.data = i.data \/ j.data ∈ l) /\ (0 <= i.n -> 0 <= j.n) /\ (i.n <= 40 -> j.n <= 40)
 | [],l,i,j,_,h=>by
  simp only [takesF,Option.some.injEq] at h
  subst h
  exact ⟨rfl,by simp,by simp,id,fun P h _=>h,.inl rfl,id,id⟩
 | f :: fs,[],i,j,hl,h=>by simp at hl
 | f :: fs,t :: l,i,j,hl,h=>by
  simp only [takesF] at h
  cases hk:takeF i f t with
  | none=>simp [hk] at h
  | some k =>
   simp only [hk] at h
   obtain ⟨a1,a2,a3,a4,a5,a6,a7,a8⟩:=takeF_facts hk
   obtain ⟨b1,b2,b3,b4,b5,b6,b7,b8⟩:=takesF_facts fs l k j (by simpa using hl) h
   refine ⟨b1.trans a1,?_,?_,fun h=>b4 (a4 h),fun P h1 h2=>b5 P (a5 P h1 (h2 t (by simp))) (fun t' ht'=>h2 t' (by simp [ht'])),?_,fun h=>b7 (a7 h),fun h=>b8 (a8 h)⟩
   ·rw [b2,a2,List.filter_cons]
    split <;> simp_all <;> omega
   ·rw [b3,a3,List.filter_cons]
    split <;> simp_all <;> omega
   ·rcases b6 with b6 | b6
    ·rcases a6 with a6 | a6
     ·exact .inl (b6.trans a6)
     ·exact .inr (by rw [b6,a6];simp)
    ·exact .inr (by simp [b6])
structure InsOk (N:Nat) (i:Ins):Prop where
 p40:40 <= i.p
 nt:i.types.length = tcF i.p
 nr:i.rows.length = rcF i.p
 gt:i.types.all gYq = true
 rows:∀ r ∈ i.rows,∀ x ∈ r,x.size <= N
 data:i.data.size <= N + 1
 n0:0 <= i.n
 n1:i.n <= 40
theorem readF_ok {t:Tr} {i:Ins} {N:Nat} (hz:t.size <= N + 1) (h:readF t = some i):InsOk N i:=by
 unfold readF at h
 split at h
 ·rename_i hc
  obtain ⟨b1,b2,b3,b4,b5,b6,b7,b8⟩:=takesF_facts _ _ _ _ hc.2.2.symm h
  have e0:t.size = sizes t.args0 + 1:=by cases t;rfl
  refine ⟨by rw [b1];exact hc.2.1,by rw [b2,b1];simp [tcF],by rw [b3,b1];simp [rcF],b4 rfl,fun r hr x hx=>?_,?_,b7 (by simp),b8 (by simp)⟩
  ·refine b5 (fun r=>∀ x ∈ r,x.size <= N) (by simp) (fun u hu x hx=>?_) r hr x hx
   have h1:=size_memT hu
   have h2:=size_memT hx
   have e1:u.size = sizes u.args0 + 1:=by cases u;rfl
   omega
  ·rcases b6 with b6 | b6
   ·rw [b6];show tr0.size <= _;simp [tr0,Tr.size,sizes]
   ·have:=size_memT b6;omega
 ·cases h
end Go.Proofs.YtkglnoimbekhhaaGreat
