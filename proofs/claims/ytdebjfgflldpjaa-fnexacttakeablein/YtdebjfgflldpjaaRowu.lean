/-
  A list of words that came in, as a source that can be read.
-/
import Derived.Test.YtdebjfgflldpjaaCode
import Derived.Test.YtdebjfgflldpjaaWds
import Derived.ProofKit
namespace Go.Proofs.Ytdebjfgflldpjaa
open Go.RowKit
set_option linter.unusedVariables false
theorem IsRow.src {w : World} {a : Option Addr} {len cap : Nat} {zs : List Int} (h : IsRow .u64 w a len cap zs) :
    Src w a len (zs.take len) ∧ (∀ x ∈ zs.take len, 0 ≤ x ∧ x ≤ 18446744073709551615) ∧ len ≤ 9223372036854775807 := by
  rcases h with ⟨rfl, rfl, rfl, rfl⟩ | ⟨x, rfl, hl, hm, hz, hcell, hwz⟩
  · exact ⟨⟨rfl, .inl rfl⟩, fun x hx => by simp at hx, by omega⟩
  · refine ⟨⟨by rw [List.length_take]; omega, ?_⟩, fun y hy => bounds_u64 (hwz y (List.mem_of_mem_take hy)), by unfold maxLen at hm; omega⟩
    by_cases h0 : len = 0
    · exact .inl h0
    · obtain ⟨b, off, spot⟩ := x
      have hc := hcell 0 (by omega)
      have hspot : spot = none := by simpa [Addr.add] using World.cell?_spot hc
      subst hspot
      have hc' : w.cell? ⟨b, off, none⟩ = some (.int .u64 (zs.getD 0 0)) := by simpa [Addr.add] using hc
      refine .inr ⟨b, off, rfl, block_lt hc', fun j hj => ?_⟩
      have := hcell j (by omega)
      have e : (zs.take len).getD j 0 = zs.getD j 0 := by simp [List.getD, hj]
      rw [e]
      by_cases hj0 : j = 0 <;> simpa [Addr.add, hj0] using this
end Go.Proofs.Ytdebjfgflldpjaa
