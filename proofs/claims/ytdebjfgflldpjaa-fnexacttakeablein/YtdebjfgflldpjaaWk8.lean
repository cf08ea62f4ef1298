/-
  Walks: what stands in the queue.
-/
import Derived.Test.YtdebjfgflldpjaaWk7
namespace Go.Proofs.Ytdebjfgflldpjaa
open Go.RowKit
set_option maxRecDepth 100000
set_option linter.unusedVariables false
set_option linter.unusedSimpArgs false
theorem lineN_y {p s l c k : Int} {n : Nat} {xs : List Int} {ys : List Int} (h : lineNodes p s l c k n xs = some ys) : 0 < ys.length ∧ nodes p s l c k n xs 3 = some ys := by
  unfold lineNodes at h
  cases hR : nodes p s l c k n xs 3 with
  | none => rw [hR] at h; cases h
  | some zs =>
    rw [hR] at h
    change (if rt p s l c k xs 4 ∈ zs then some zs else none) = some ys at h
    split at h
    · rename_i hm
      cases h
      exact ⟨List.length_pos_of_mem hm, rfl⟩
    · cases h
theorem Nsrc.tail {w : World} {g o m : Nat} {ys : List Int} (h : Nsrc w (some ⟨g, o, none⟩) m ys) (hm : 0 < m) (a : Option Addr) (ha : 1 < m → a = some ⟨g, o + 1, none⟩) : Nsrc w a (m - 1) (ys.drop 1) := by
  refine ⟨by rw [List.length_drop, h.1], ?_⟩
  by_cases h1 : 1 < m
  · rw [ha h1]
    rcases h.2 with h0 | ⟨b, o', e, hl, hc⟩
    · omega
    · cases e
      refine .inr ⟨g, o + 1, rfl, hl, fun i hi => ?_⟩
      have := hc (i + 1) (by omega)
      rw [show o + (i + 1) = o + 1 + i from by omega] at this
      rw [this]
      have hlen := h.1
      simp [List.getElem?_drop, Nat.add_comm]
  · exact .inl (by omega)
theorem run_tail (g m cc : Nat) (hm : m ≤ cc) : ∃ A : Option Addr, (1 < m + 1 → A = some ⟨g, 0 + 1, none⟩) ∧ ∀ w : World, (Instr.sliceAt 31 (.slice (some ⟨g, 0, none⟩) (m + 1) (cc + 1)) (some (.int .i64 1)) none none).run Try.prog w = .ok (.slice A m cc) w := by
  refine ⟨if cc = 0 then some ⟨g, 0, none⟩ else some ⟨g, 0 + 1, none⟩, fun h => by rw [if_neg (by omega)], fun w => ?_⟩
  rw [run_sliceAt_slice _ _ _ _ _ _ (by rfl), run_slice_l _ _ _ _ _ (by rfl) _ _ (by omega) (by omega)]
  by_cases hc : cc = 0
  · subst hc
    obtain rfl : m = 0 := by omega
    simp [go_sem, sliced]
  · simp [go_sem, sliced, hc, Addr.add]
theorem Is.cap {w : World} {g n c : Nat} {xs : List Int} (h : Is w g n c xs) : n ≤ c := by
  rcases h.own.2 with ⟨e, _⟩ | ⟨g', cap, cur, e, _, h2, h3, _⟩
  · cases e
  · cases e
    exact h3
theorem Is.cap_le {w : World} {g n c : Nat} {xs : List Int} (h : Is w g n c xs) : c ≤ maxLen := by
  rcases h.own.2 with ⟨e, _⟩ | ⟨g', cap, cur, e, _, h2, h3, h4, _⟩
  · cases e
  · cases e
    exact h4
end Go.Proofs.Ytdebjfgflldpjaa
