/-
  Heads: whether a block is guarded, in the specification and in the program.
-/
import Derived.Test.YtmldeigbaafclaaHds3
namespace Go.Proofs.Ytmldeigbaafclaa
open Go.RowKit
set_option linter.unusedVariables false
set_option linter.unusedSimpArgs false
/-- Is a block among the two guards of a slot? -/
def gHas (p s l c k : Int) (xs : List Int) (b : Int) (j : Nat) : Bool := gdx p s l c k xs (j : Int) 5 == b || gdx p s l c k xs (j : Int) 6 == b
def guarded (p s l c k : Int) (n : Nat) (xs : List Int) (b : Int) : Bool :=
  aOk p s l c k n && inB b 1 (s + l) && (List.range p.toNat).any (gHas p s l c k xs b)
theorem any_y {f : Nat → Bool} {n i : Nat} (hi : i < n) (h : f i = true) : (List.range n).any f = true := List.any_eq_true.2 ⟨i, List.mem_range.2 hi, h⟩
theorem any_n {f : Nat → Bool} {n : Nat} (h : ∀ i, i < n → f i = false) : (List.range n).any f = false := by
  rw [List.any_eq_false]
  intro i hi
  rw [h i (List.mem_range.1 hi)]
  simp
theorem mem_guards {p s l c k : Int} {n : Nat} {xs : List Int} {b : Int} {j : Nat} (ha : aOk p s l c k n = true) (hj : (j : Int) < p) (hb : 1 ≤ b) : decide (b ∈ guards p s l c k n xs (j : Int)) = gHas p s l c k xs b j := by
  have e : guards p s l c k n xs (j : Int) = gl (gdx p s l c k xs (j : Int)) 2 := by unfold guards; rw [if_pos ⟨ha, decide_eq_true (by omega)⟩]
  rw [e]
  unfold gHas
  have h5 : (5 : Int) + ((0 : Nat) : Int) = 5 := rfl
  have h6 : (5 : Int) + ((1 : Nat) : Int) = 6 := rfl
  unfold gl
  rw [h6]
  unfold gl
  rw [h5]
  unfold gl
  generalize gdx p s l c k xs (j : Int) 5 = x
  generalize gdx p s l c k xs (j : Int) 6 = y
  rw [Bool.eq_iff_iff]
  simp only [decide_eq_true_eq, Bool.or_eq_true, beq_iff_eq]
  by_cases hx : x = 0 <;> by_cases hy : y = 0 <;> simp [hx, hy] <;> omega
set_option maxHeartbeats 1000000 in
theorem ixI (g n c : Nat) (xs : List Int) (v : Int) (w : World) (h : Is w g n c xs) (hn : n ≤ 1048576) :
    Calls Try.prog 70 #[.slice (some ⟨g, 0, none⟩) n c, .int .i64 v] w fun e w' => ∃ r : Int, e = .returned (.int .i64 r) ∧ (0 ≤ r ↔ v ∈ xs) ∧ w' = w := by
  go_enter Try.func70, Try.ntmps70
  go_wp2
  go_loopg [8] n (fun g' y wr => ∃ i : Nat, i ≤ n ∧ g' = n - i ∧ y = .int .i64 i ∧ (∀ j, j < i → xs.getD j 0 ≠ v) ∧ wr = w)
  case atStart => exact ⟨0, Nat.zero_le _, rfl, rfl, fun j hj => by omega, rfl⟩
  case round =>
    obtain ⟨i, i0, hg, rfl, hj, rfl⟩ := hrel
    have HJ : Hid (∀ j, j < i → xs.getD j 0 ≠ v) := hj
    clear hj
    by_cases hi : i < n
    · have hi' : (i : Int) < n := by omega
      have c1 := h.cell i hi
      obtain ⟨x, hx⟩ : ∃ x : Int, Hid (xs.getD i 0 = x) := ⟨_, rfl⟩
      rw [hx.out] at c1
      by_cases hv : v = x
      · subst hv
        go_wp2
        go_ret
        refine ⟨_, rfl, ⟨fun _ => ?_, fun _ => by omega⟩, rfl⟩
        rw [← hx.out]
        have e : xs[i]? = some (xs.getD i 0) := by simp [h.len, hi]
        exact List.mem_of_getElem? e
      · go_wp2
        go_roundg (gk - 1)
        case measure => omega
        case rel =>
          refine ⟨i + 1, by omega, by omega, by go_num, fun j hj => ?_, rfl⟩
          by_cases hji : j = i
          · subst hji; rw [hx.out]; exact fun e => hv e.symm
          · exact HJ.out j (by omega)
    · obtain rfl : i = n := by omega
      go_wp2
      go_ret
      refine ⟨_, rfl, ⟨fun h => by omega, fun hm => ?_⟩, rfl⟩
      obtain ⟨j, hj, e⟩ := List.mem_iff_getElem.1 hm
      exact absurd (by simpa [hj] using e) (HJ.out j (by have := h.len; omega))
set_option maxHeartbeats 1000000 in
theorem hasI (g n c : Nat) (xs : List Int) (v : Int) (w : World) (h : Is w g n c xs) (hn : n ≤ 1048576) :
    Calls Try.prog 52 #[.slice (some ⟨g, 0, none⟩) n c, .int .i64 v] w fun e w' => e = .returned (.bool (decide (v ∈ xs))) ∧ w' = w := by
  go_enter Try.func52, Try.ntmps52
  go_wp2_with (go_at_call 70; refine (ixI _ _ _ xs _ _ h hn).mono ?_; rintro e w1 ⟨r, rfl, hr, rfl⟩)
  all_goals
    go_ret
    refine ⟨ret_b ?_, rfl⟩
    rw [Bool.eq_iff_iff]
    first | done | simp [← hr]
end Go.Proofs.Ytmldeigbaafclaa
