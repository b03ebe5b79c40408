/- Walks: ProgramOf, the reference's side. -/
import Derived.Test.YtdikenapnncmfaaDoorPob
namespace Go.Proofs.YtdikenapnncmfaaDoor
open Go.RowKit
set_option linter.unusedVariables false
def pgC (l : List AHint) : Int := if alB l = true then (if ntB l = true then (if 400 < (pgI l).length then 5 else 0) else 6) else 1
def pgV (l : List AHint) : ByteArray := if pgC l = 0 then pgT l else ⟨#[]⟩
theorem pgT_size (l : List AHint) : (pgT l).size = (pgI l).length := by simp [pgT, ByteArray.size]
theorem pg_1 {l : List AHint} (h : alB l = false) : pgC l = 1 ∧ pgV l = ⟨#[]⟩ := by simp [pgV, pgC, h]
theorem pg_6 {l : List AHint} (h : alB l = true) (h2 : ntB l = false) : pgC l = 6 ∧ pgV l = ⟨#[]⟩ := by simp [pgV, pgC, h, h2]
theorem pg_5 {l : List AHint} (h : alB l = true) (h2 : ntB l = true) (h3 : 400 < (pgT l).size) : pgC l = 5 ∧ pgV l = ⟨#[]⟩ := by rw [pgT_size] at h3; simp [pgV, pgC, h, h2, h3]
theorem pg_0 {l : List AHint} (h : alB l = true) (h2 : ntB l = true) (h3 : (pgT l).size ≤ 400) : pgC l = 0 ∧ pgV l = pgT l := by
  rw [pgT_size] at h3
  have h4 : ¬ 400 < (pgI l).length := by omega
  simp [pgV, pgC, h, h2, h4]
end Go.Proofs.YtdikenapnncmfaaDoor
