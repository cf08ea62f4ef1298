/-
  Heads: whether a block is guarded, in the specification and in the program.
-/
import Derived.Test.YtdebjfgflldpjaaHds3
namespace Go.Proofs.Ytdebjfgflldpjaa
open Go.RowKit
set_option linter.unusedVariables false
set_option linter.unusedSimpArgs false
/-- Is a block among the two guards of a slot? -/
def gHas (p s l c k : Int) (xs : List Int) (b : Int) (j : Nat) : Bool := gdx p s l c k xs (j : Int) 5 == b || gdx p s l c k xs (j : Int) 6 == b
def guarded (p s l c k : Int) (n : Nat) (xs : List Int) (b : Int) : Bool :=
  aOk p s l c k n && inB b 1 (s + l) && (List.range p.toNat).any (gHas p s l c k xs b)
theorem any_y {f : Nat → Bool} {n i : Nat} (hi : i < n) (h : f i = true) : (List.range n).any f = true := List.any_eq_true.2 ⟨i, List.mem_range.2 hi, h⟩
theorem any_n {f : Nat → Bool} {n : Nat} (h : ∀ i, i < n → f i = false) : (List.range n).any f = false := by
  rw [List.any_eq_false]
  intro i hi
  rw [h i (List.mem_range.1 hi)]
  simp
theorem mem_guards {p s l c k : Int} {n : Nat} {xs : List Int} {b : Int} {j : Nat} (ha : aOk p s l c k n = true) (hj : (j : Int) < p) (hb : 1 ≤ b) : decide (b ∈ guards p s l c k n xs (j : Int)) = gHas p s l c k xs b j := by
  have e : guards p s l c k n xs (j : Int) = gl (gdx p s l c k xs (j : Int)) 2 := by unfold guards; rw [if_pos ⟨ha, decide_eq_true (by omega)⟩]
  rw [e]
  unfold gHas
  have h5 : (5 : Int) + ((0 : Nat) : Int) = 5 := rfl
  have h6 : (5 : Int) + ((1 : Nat) : Int) = 6 := rfl
  unfold gl
  rw [h6]
  unfold gl
  rw [h5]
  unfold gl
  generalize gdx p s l c k xs (j : Int) 5 = x
  generalize gdx p s l c k xs (j : Int) 6 = y
  rw [Bool.eq_iff_iff]
  simp only [decide_eq_true_eq, Bool.or_eq_true, beq_iff_eq]
  by_cases hx : x = 0 <;> by_cases hy : y = 0 <;> simp [hx, hy] <;> omega
end Go.Proofs.Ytdebjfgflldpjaa
