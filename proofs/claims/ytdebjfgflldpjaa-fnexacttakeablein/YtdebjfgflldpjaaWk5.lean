/-
  Walks: the first values of blocks, and the cells, in the specification and in the program.
-/
import Derived.Test.YtdebjfgflldpjaaWk4
import Derived.Deep.AppendLies
namespace Go.Proofs.Ytdebjfgflldpjaa
open Go.RowKit
set_option maxRecDepth 100000
set_option linter.unusedVariables false
set_option linter.unusedSimpArgs false
theorem Nsrc.grown {W W' : World} {a : Option Addr} {n base : Nat} {xs : List Int} {row : Option Nat} (h : Nsrc W a n xs) (hl : ∀ b o, a = some ⟨b, o, none⟩ → 0 < n → b < base) (hg : W.grownBy W' row) (hr : ∀ j, row = some j → base ≤ j) : Nsrc W' a n xs := by
  refine ⟨h.1, ?_⟩
  rcases h.2 with h0 | ⟨b, o, rfl, hlt, hc⟩
  · exact .inl h0
  · by_cases h0 : n = 0
    · exact .inl h0
    · have hb := hl b o rfl (by omega)
      refine .inr ⟨b, o, rfl, Nat.lt_of_lt_of_le hlt hg.size, fun i hi => (World.cell?_of_block (w := W) (a := ⟨b, o + i, none⟩) (hg.block b hlt (fun e => ?_))).trans (hc i hi)⟩
      have := hr b e.symm
      omega
theorem Nsrc.at_ {w : World} {b o n i : Nat} {xs : List Int} (h : Nsrc w (.some ⟨b, o, none⟩) n xs) (hi : i < n) : w.cell? ⟨b, o + i, none⟩ = .some (.int .i64 (xs.getD i 0)) := by
  rcases h.2 with h0 | ⟨b', o', e, _, hc⟩
  · omega
  · cases e
    exact hc i hi
theorem take_map {f : Int → Int} {ys : List Int} {i m : Nat} {y : Int} (hl : ys.length = m) (hi : i < m) (hy : ys.getD i 0 = y) : (ys.take (i + 1)).map f = (ys.take i).map f ++ [f y] := by
  have e : ys[i]? = some y := by rw [← hy]; simp [hl, hi]
  rw [List.take_add_one, e]
  simp
theorem Ga.rows {w0 w : World} {q base : Nat} {p s l c k : Int} {v : Value} {Z : List Int} {a : Option Addr} {n : Nat} {xs : List Int} (h : Ga w0 w q base p s l c k v Z a n xs) : ∀ j, v.ownBlock = some j → base ≤ j := fun j e => (World.ownsRow.lt h.own j e).1
/-- What l5Values, firstValues and the like hand back. -/
def list1 (w w' : World) (e : Ending) (ys : List Int) : Prop :=
  ∃ g m cc, e = .returned (.slice (some ⟨g, 0, none⟩) m cc) ∧ w.heap.size ≤ g ∧ Is w' g m cc ys ∧ m ≤ 250 ∧ Below w.heap.size w w'
end Go.Proofs.Ytdebjfgflldpjaa
