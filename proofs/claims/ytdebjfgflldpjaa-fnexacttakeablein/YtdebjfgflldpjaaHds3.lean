/-
  Heads: the guards of a slot, and whether a block is guarded, in the specification and in the program.
-/
import Derived.Test.YtdebjfgflldpjaaHds2
namespace Go.Proofs.Ytdebjfgflldpjaa
open Go.RowKit
set_option linter.unusedVariables false
set_option linter.unusedSimpArgs false
/-- The Index of a word of a slot. -/
def gdx (p s l c k : Int) (xs : List Int) (slot f : Int) : Int := uI (xs.getD (vSlot p s l c k slot f).toNat 0)
def gl (g : Int → Int) : Nat → List Int
  | 0 => []
  | j + 1 => if g (5 + (j : Int)) = 0 then gl g j else gl g j ++ [g (5 + (j : Int))]
def guards (p s l c k : Int) (n : Nat) (xs : List Int) (slot : Int) : List Int :=
  if aOk p s l c k n = true ∧ inB slot 0 (p - 1) = true then gl (gdx p s l c k xs slot) 2 else []
theorem gl_len (g : Int → Int) (n : Nat) : (gl g n).length ≤ n := by
  induction n with
  | zero => simp [gl]
  | succ n ih =>
    unfold gl
    split
    · omega
    · simp; omega
theorem guards_len (p s l c k : Int) (n : Nat) (xs : List Int) (slot : Int) : (guards p s l c k n xs slot).length ≤ 2 := by
  unfold guards
  split
  · exact gl_len _ 2
  · simp
theorem gl_y {g : Int → Int} {f : Int} (f0 : 5 ≤ f) (h : ¬ g f = 0) : gl g (f + 1 - 5).toNat = gl g (f - 5).toNat ++ [g f] := by
  have e : (f + 1 - 5).toNat = (f - 5).toNat + 1 := by omega
  have e2 : (5 : Int) + (((f - 5).toNat : Nat) : Int) = f := by omega
  rw [e]
  conv => lhs; unfold gl
  rw [e2, if_neg h]
theorem gl_n {g : Int → Int} {f : Int} (f0 : 5 ≤ f) (h : g f = 0) : gl g (f + 1 - 5).toNat = gl g (f - 5).toNat := by
  have e : (f + 1 - 5).toNat = (f - 5).toNat + 1 := by omega
  have e2 : (5 : Int) + (((f - 5).toNat : Nat) : Int) = f := by omega
  rw [e]
  conv => lhs; unfold gl
  rw [e2, if_pos h]
theorem slot_in {p s l c k : Int} {n : Nat} {i f : Int} (h : aOk p s l c k n = true) (i0 : 0 ≤ i) (i1 : i ≤ p - 1) (f0 : 0 ≤ f) (f1 : f ≤ 6) : ∃ j : Nat, vSlot p s l c k i f = (j : Int) ∧ j < n := by
  obtain ⟨ho, hz⟩ := aOk_y h
  have h' := ok_iff.1 ho
  have hq := sq_bd h'.1 h'.2.1
  have e : vSlot p s l c k i f = i * 7 + f := by unfold vSlot; rw [if_pos ⟨ho, ⟨i0, i1⟩, f0, f1⟩]
  unfold zF at hz
  exact ⟨(i * 7 + f).toNat, by rw [e]; omega, by omega⟩
theorem uI_bd {x : Int} : 0 ≤ uI x ∧ uI x ≤ 65535 := by unfold uI; omega
end Go.Proofs.Ytdebjfgflldpjaa
