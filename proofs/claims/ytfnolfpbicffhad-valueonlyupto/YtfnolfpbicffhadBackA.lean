/- Values that can be told: plain all through, like themselves, and read as they were told. -/
import Derived.Test.YtfnolfpbicffhadUnpackA
import Derived.Test.YtfnolfpbicffhadTellN
import Derived.Test.YtfnolfpbicffhadSameV
namespace Go.Proofs.Ytfnolfpbicffhad
set_option linter.unusedVariables false

mutual
theorem sbs_self : ∀ x : Va, sbsV sameC x x = 0
  | .mk k n a s args ty co => by
    have h : sameC (.mk k n a s args ty co) (.mk k n a s args ty co) = 0 := by simp [sameC]
    rw [sbsV, if_neg (by simpa using h)]
    exact sbss_self args
theorem sbss_self : ∀ xs : List Va, sbsVs sameC xs xs = 0
  | [] => rfl
  | x :: xs => by
    rw [sbsVs, if_neg (by simpa using sbs_self x)]
    exact sbss_self xs
end

mutual
theorem plain_pack : ∀ (x : Va) (T : Ty) (d : Nat), hasV x T = true → packT T = true → formedB d T = true → Plain x
  | .mk k n a s args ty co, T, d => by
    intro hv hp hf
    obtain ⟨_, _, h3, h4, _, _, ts, hts, hh⟩ := pack_fits hv hp
    have hok := ts_ok hv hp hf hts
    simp only [Va.types, Va.code] at h3 h4
    subst h3; subst h4
    exact .mk (plains_pack args ts hh hok)
theorem plains_pack : ∀ (xs : List Va) (ts : List Ty), hasVs xs ts = true → (∀ U ∈ ts, packT U = true ∧ ∃ d, formedB d U = true) → ∀ x ∈ xs, Plain x
  | [], _ => by intros _ _ x hx; simp at hx
  | x :: xs, [] => by intro h; simp [hasVs] at h
  | x :: xs, T :: ts => by
    intro hx hc z hz
    simp only [hasVs, Bool.and_eq_true] at hx
    obtain ⟨h1, d, h2⟩ := hc T (by simp)
    rcases List.mem_cons.1 hz with he | hz
    · rw [he]; exact plain_pack x T d hx.1 h1 h2
    · exact plains_pack xs ts hx.2 (fun z hz => hc z (by simp [hz])) z hz
end

/-- what is told is read as it was -/
theorem told_back {T : Ty} {x : Va} (hc : canF T x = true) (hg : goodF (toldF x) = 0) : parseF T (toldF x) = some x := by
  obtain ⟨h1, h2, h3⟩ := can_parts hc
  have hf := (goodTy_formed h1).1
  have he := (told_good h2 h3 hf).2.1 hg
  rw [he] at hg ⊢
  unfold parseF
  rw [if_pos ⟨h1, hg⟩, read_back x T 1 h2 h3 hf]
  have hh : hasF T x = true := by unfold hasF; rw [h1, h2]; rfl
  simp [hh]

theorem decode_told {t : Tr} (h : goodF t = 0) : pDecode (encTr t) = .ok t := by
  obtain ⟨h1, h2⟩ := goodF_zero h
  have := pNode_complete 24 (by omega) t 0 [] h1 (by omega)
  rw [List.append_nil] at this
  unfold pDecode
  rw [this]
  simp

end Go.Proofs.Ytfnolfpbicffhad

/- ValueBack's walk. -/
namespace Go.Proofs.Ytfnolfpbicffhad
set_option maxRecDepth 20000
open Go.ChangeShapes Go.WideShapes Go.ChangeAt Go.RowKit
set_option linter.unusedVariables false







end Go.Proofs.Ytfnolfpbicffhad
