/-
  Heads: whose a block is, in the specification and in the program.
-/
import Derived.Test.YtdebjfgflldpjaaHds
namespace Go.Proofs.Ytdebjfgflldpjaa
open Go.RowKit
set_option linter.unusedVariables false
set_option linter.unusedSimpArgs false
theorem vBlocks_y {p s l c k : Int} (h : ok p s l c k = true) : vBlocks p s l c k = s + l := by unfold vBlocks; rw [if_pos h]
theorem head_in {p s l c k : Int} {n : Nat} {b : Int} (h : aOk p s l c k n = true) (b0 : 1 ≤ b) (b1 : b ≤ s + l) : ∃ i : Nat, vBlock p s l c k b 0 = (i : Int) ∧ i < n := by
  obtain ⟨ho, hz⟩ := aOk_y h
  obtain ⟨i, h1, h2⟩ := blk_in (f := 0) ho b0 b1 (by omega) (by omega)
  exact ⟨i, h1, by omega⟩
theorem Src.some {w : World} {a : Option Addr} {n : Nat} {xs : List Int} (h : Src w a n xs) (hn : 0 < n) : ∃ b o, a = .some ⟨b, o, none⟩ := by
  rcases h.2 with h0 | ⟨b, o, e, _⟩
  · omega
  · exact ⟨b, o, e⟩
theorem Src.at_ {w : World} {b o n i : Nat} {xs : List Int} (h : Src w (.some ⟨b, o, none⟩) n xs) (hi : i < n) : w.cell? ⟨b, o + i, none⟩ = .some (.int .u64 (xs.getD i 0)) := by
  rcases h.2 with h0 | ⟨b', o', e, _, hc⟩
  · omega
  · cases e
    exact hc i hi
end Go.Proofs.Ytdebjfgflldpjaa
