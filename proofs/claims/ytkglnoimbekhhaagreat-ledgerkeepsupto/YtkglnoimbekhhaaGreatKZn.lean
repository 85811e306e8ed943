import Derived.Test.YtkglnoimbekhhaaGreatKCkStep
import Derived.Test.YtkglnoimbekhhaaGreatKCkCode
import Derived.Test.YtkglnoimbekhhaaGreatKZi
import Derived.Test.YtkglnoimbekhhaaGreatKZm
import Derived.Test.YtkglnoimbekhhaaGreatKCkTwo
namespace Go.Proofs.YtkglnoimbekhhaaGreat
open Go.ChangeShapes Go.WideShapes Go.ChangeAt Go.RowKit
set_option linter.unusedVariables false
set_option linter.unusedSimpArgs false
theorem code_all {W:World} {n:Tr} {u:Value} {s:List Ty} {sa:Option Addr} {sl sc:Nat} (hL:Lies (fun _=>True) W n u) (hs:RowC W s (.slice sa sl sc)) (hz:n.size <= 4611686018427387903) :
 Calls Tryz.prog 28 #[u,.slice sa sl sc] W (LPq (codeF n s) W) :=
 code_any hL hs hz (fun t v W2 s2 a2 l2 c2 h1 h2 h3 h4 h5=>step_all 300 (Nat.le_refl _) t v W2 s2 a2 l2 c2 h1 h2 h3 (by omega) h5)
def LedCut (r:Led) (W:World) (pv qv:Value) (wx:World):Prop :=
 ∃ (bp:Nat) (a:Option Addr) (l c:Nat) (f:Bool) (er:Int),pv = .pointer (some ⟨bp,0,none⟩) /\ qv = .int .i64 er /\ wx.heap[bp]? = some (.cells #[.slice a l c,.bool f] 62 (0,0)) /\ W.grownBy wx none /\ W.heap.size <= bp /\ LedIs wx r a l c f er
theorem ledCut_one {r:Led} {W w:World} {a:Option Addr} {l c:Nat} {f:Bool} {er:Int} (hg:W.grownBy w none) (h:LedIs w r a l c f er):LedCut r W (.pointer (some ⟨w.heap.size,0,none⟩)) (.int .i64 er) (w.alloc (.cells #[.slice a l c,.bool f] 62)) :=
 ⟨_,a,l,c,f,er,rfl,rfl,heap_alloc_new _ _,gTq hg (gBq _),hg.size,h.grow (gBq _)⟩
theorem ledCut_two {r:Led} {W w:World} {a:Option Addr} {l c H:Nat} {f:Bool} {er:Int} (hg:W.grownBy w none) (h:LedIs w r a l c f er) (hH:W.heap.size <= H) (hb:w.heap[H]? = some (.cells #[.slice none 0 0,.bool false] 62 (0,0))):LedCut r W (.pointer (some ⟨H,0,none⟩)) (.int .i64 er) (set2 w H (.slice a l c) (.bool f)):=by
 refine ⟨_,a,l,c,f,er,rfl,rfl,set2_block hb _ _,grow_set2 hg hH _ _,hH,?_⟩
 rcases h with h | ⟨ts,h1,h2,h3⟩
 ·exact .inl h
 ·exact .inr ⟨ts,h1,h2,h3.set hb _ _⟩
end Go.Proofs.YtkglnoimbekhhaaGreat
