/-
  The blank arena, word by word: what is hung behind a root.
-/
import Derived.Test.YtdebjfgflldpjaaAre2
import Derived.Test.YtdebjfgflldpjaaPlan5
import Derived.Test.YtdebjfgflldpjaaCore2
namespace Go.Proofs.Ytdebjfgflldpjaa
open Go.RowKit
set_option linter.unusedVariables false
set_option linter.unusedSimpArgs false
/-- Where the j-th block's number is written: into the root, or into the link of the one ahead of it. -/
def hpl (lk : Int → Int) (root first : Int) (j : Nat) : Int := if j = 0 then root else lk (first + j - 1)
/-- What stands when j blocks from first on are hung behind root. -/
def hung (lk : Int → Int) (root first : Int) (xs : List Int) : Nat → List Int
  | 0 => xs
  | j + 1 => (hung lk root first xs j).set (hpl lk root first j).toNat (pk 0 0 (first + j) 0)
theorem hung_len (lk : Int → Int) (root first : Int) (xs : List Int) (j : Nat) : (hung lk root first xs j).length = xs.length := by
  induction j with
  | zero => rfl
  | succ j ih => simp [hung, ih]
/-- How many stand at the head of the round of block b. -/
def hc (first b : Int) : Nat := if b = first then 0 else (b - first + 1).toNat
theorem hung_A (lk : Int → Int) (root b : Int) (xs : List Int) : (hung lk root b xs (hc b b)).set root.toNat (pk 0 0 b 0) = hung lk root b xs (b - b + 1).toNat := by
  have e : (b - b + 1).toNat = 1 := by omega
  rw [e]
  simp [hc, hung, hpl]
theorem hung_B (lk : Int → Int) (root first b : Int) (xs : List Int) (h : first ≤ b) : (hung lk root first xs (b - first + 1).toNat).set (lk b).toNat (pk 0 0 (b + 1) 0) = hung lk root first xs (hc first (b + 1)) := by
  have e : hc first (b + 1) = (b - first + 1).toNat + 1 := by unfold hc; rw [if_neg (by omega)]; omega
  rw [e]
  show _ = (hung lk root first xs (b - first + 1).toNat).set (hpl lk root first (b - first + 1).toNat).toNat (pk 0 0 (first + ((b - first + 1).toNat : Nat)) 0)
  have e1 : hpl lk root first (b - first + 1).toNat = lk b := by
    unfold hpl
    rw [if_neg (by omega)]
    congr 1
    omega
  rw [e1, show first + (((b - first + 1).toNat : Nat) : Int) = b + 1 from by omega]
theorem hc_n {first b : Int} (h : first < b) : hc first b = (b - first + 1).toNat := by unfold hc; rw [if_neg (by omega)]
theorem blk_in {p s l c k b f : Int} (h : ok p s l c k = true) (b0 : 1 ≤ b) (b1 : b ≤ s + l) (f0 : 0 ≤ f) (f1 : f ≤ 2) : ∃ i : Nat, vBlock p s l c k b f = (i : Int) ∧ (i : Int) < zF p s l c := by
  have e := vBlock_of h ⟨b0, b1⟩ f0
  have h' := ok_iff.1 h
  have hs := wS_succ s b
  have h0 : 0 ≤ sF p c := by unfold sF; have := sq_bd h'.1 h'.2.1; omega
  have h1 : sF p c + wS s (b - 1) + wid s b ≤ zF p s l c := by
    rw [Int.add_assoc, hs]
    unfold zF sF wS
    split <;> omega
  have h2 : 0 ≤ wS s (b - 1) := by unfold wS; split <;> omega
  have h3 : 3 ≤ wid s b := by unfold wid; split <;> omega
  rw [if_pos (by omega)] at e
  exact ⟨(sF p c + wS s (b - 1) + f).toNat, by rw [e]; omega, by omega⟩
theorem root_in {p s l c k r : Int} (h : ok p s l c k = true) (r0 : 0 ≤ r) (r1 : r ≤ 4) : ∃ i : Nat, vRoot p s l c k r = (i : Int) ∧ (i : Int) < zF p s l c := by
  have h' := ok_iff.1 h
  have hq := sq_bd h'.1 h'.2.1
  have e : vRoot p s l c k r = rF p + r := by unfold vRoot; rw [if_pos ⟨h, by omega, by omega⟩]
  exact ⟨(rF p + r).toNat, by rw [e]; unfold rF; omega, by unfold zF rF; omega⟩
theorem size_in {p s l c k : Int} (h : ok p s l c k = true) : ∃ n : Nat, vSize p s l c k = (n : Int) ∧ (n : Int) = zF p s l c ∧ n ≤ 10000 := by
  have h' := ok_iff.1 h
  have hq := sq_bd h'.1 h'.2.1
  have e : vSize p s l c k = zF p s l c := by unfold vSize; rw [if_pos h]
  exact ⟨(zF p s l c).toNat, by rw [e]; unfold zF; omega, by unfold zF; omega, by unfold zF; omega⟩
theorem pkI {b : Int} (h0 : 0 ≤ b) (h1 : b ≤ 65535) : wOk 0 0 b 0 = true := wOk_iff.2 (by omega)
end Go.Proofs.Ytdebjfgflldpjaa
