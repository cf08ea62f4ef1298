/-
  Layers: the chapter of a step.
-/
import Derived.Test.YtakimmahfngpmaaHan3
import Derived.Deep.Cut
import Derived.Deep.LoopGhost
namespace Go.Proofs.Ytakimmahfngpmaa
open Go.RowKit
set_option linter.unusedVariables false
def layer (a : Int) : Int := if a = 0 then 0 else if a < 0 then -1 else if a ≤ 8 then 8 else if a ≤ 20 then 9 else if a ≤ 32 then 10 else if a ≤ 48 then 11 else if a ≤ 51 then 12 else if a ≤ 54 then 13 else if a ≤ 68 then 14 else if a ≤ 70 then 15 else -1
def lastv (i : Nat) : Int := match i with | 0 => 8 | 1 => 20 | 2 => 32 | 3 => 48 | 4 => 51 | 5 => 54 | 6 => 68 | _ => 70
theorem ret_i {a b : Int} (h : a = b) : Ending.returned (.int .i64 a) = .returned (.int .i64 b) := by rw [h]
set_option maxHeartbeats 2000000 in
theorem iLayer (a : Int) (w : World) : Calls Try.prog 10 #[.int .i64 a] w fun e w' => e = .returned (.int .i64 (layer a)) ∧ w' = w := by
  go_enter Try.func10, Try.ntmps10
  go_wp2_with (go_at_call 23; refine (iWithin _ _ _ _).mono ?_; rintro e w1 ⟨rfl, rfl⟩)
  all_goals go_returns
  all_goals refine ⟨ret_i ?_, rfl⟩
  all_goals (try simp only [inB, decide_eq_true_eq, decide_eq_false_iff_not, beq_eq_false_iff_ne, ne_eq, beq_iff_eq] at *)
  all_goals (unfold layer; (repeat' split) <;> first | rfl | omega)
set_option maxHeartbeats 4000000 in
theorem sLayer (a : Int) (w : World) : Calls Try.prog 22 #[.int .i64 a] w fun e w' => e = .returned (.int .i64 (layer a)) ∧ Below w.heap.size w w' := by
  by_cases h0 : a = 0
  · go_enter Try.func22, Try.ntmps22
    go_wp2
    go_returns
    exact ⟨ret_i (by subst h0; rfl), Below.refl _ _⟩
  by_cases h1 : a < 0
  · go_enter Try.func22, Try.ntmps22
    go_wp2
    all_goals go_returns
    all_goals exact ⟨ret_i (by unfold layer; rw [if_neg h0, if_pos h1]), Below.refl _ _⟩
  by_cases h2 : 70 < a
  · go_enter Try.func22, Try.ntmps22
    go_wp2
    all_goals go_returns
    all_goals exact ⟨ret_i (by unfold layer; (repeat' split) <;> omega), Below.refl _ _⟩
  have h3 : 0 < a := by omega
  have h4 : a ≤ 70 := by omega
  clear h0 h1 h2
  have h5 : ¬ a = 0 := by omega
  have h6 : ¬ a < 0 := by omega
  have h7 : ¬ 70 < a := by omega
  go_enter Try.func22, Try.ntmps22
  go_upto_region 7 with fail
  refine wp_at (fun W => At W w.heap.size #[.int .i64 8, .int .i64 20, .int .i64 32, .int .i64 48, .int .i64 51, .int .i64 54, .int .i64 68, .int .i64 70] 2 ∧ Below w.heap.size w W) ⟨At.new w _ _, (Below.refl _ _).alloc (Nat.le_refl _) _⟩ ?_
  rintro W ⟨A, z⟩
  go_loopg [4] 7 (fun g y wr => ∃ i : Nat, i ≤ 7 ∧ g = 7 - i ∧ y = .int .i64 i ∧ Hid (i = 0 ∨ lastv (i - 1) < a) ∧ wr = W)
  case atStart => exact ⟨0, by omega, rfl, rfl, .inl rfl, rfl⟩
  case round =>
    obtain ⟨i, i0, hg, rfl, hj, rfl⟩ := hrel
    have hc : i = 0 ∨ i = 1 ∨ i = 2 ∨ i = 3 ∨ i = 4 ∨ i = 5 ∨ i = 6 ∨ i = 7 := by omega
    rcases hc with rfl | rfl | rfl | rfl | rfl | rfl | rfl | rfl
    · have c : wr.cell? ⟨w.heap.size, 0, none⟩ = some (.int .i64 8) := A.cell 0
      have hj := hj.out
      simp only [lastv] at hj
      by_cases hx : 8 < a
      · have HJ : Hid (8 < a) := hx
        clear hj
        go_wp2
        go_roundg (gk - 1)
        case measure => omega
        case rel => exact ⟨1, by omega, by omega, rfl, .inr HJ.out, rfl⟩
      · have HJ : Hid (layer a = 8) := by
          show layer a = _
          unfold layer; (repeat' split) <;> omega
        clear hj
        go_wp2
        go_ret
        exact ⟨ret_i HJ.out.symm, z⟩
    · have c : wr.cell? ⟨w.heap.size, 1, none⟩ = some (.int .i64 20) := A.cell 1
      have hj := hj.out
      simp only [lastv] at hj
      by_cases hx : 20 < a
      · have HJ : Hid (20 < a) := hx
        clear hj
        go_wp2
        go_roundg (gk - 1)
        case measure => omega
        case rel => exact ⟨2, by omega, by omega, rfl, .inr HJ.out, rfl⟩
      · have HJ : Hid (layer a = 9) := by
          show layer a = _
          unfold layer; (repeat' split) <;> omega
        clear hj
        go_wp2
        go_ret
        exact ⟨ret_i HJ.out.symm, z⟩
    · have c : wr.cell? ⟨w.heap.size, 2, none⟩ = some (.int .i64 32) := A.cell 2
      have hj := hj.out
      simp only [lastv] at hj
      by_cases hx : 32 < a
      · have HJ : Hid (32 < a) := hx
        clear hj
        go_wp2
        go_roundg (gk - 1)
        case measure => omega
        case rel => exact ⟨3, by omega, by omega, rfl, .inr HJ.out, rfl⟩
      · have HJ : Hid (layer a = 10) := by
          show layer a = _
          unfold layer; (repeat' split) <;> omega
        clear hj
        go_wp2
        go_ret
        exact ⟨ret_i HJ.out.symm, z⟩
    · have c : wr.cell? ⟨w.heap.size, 3, none⟩ = some (.int .i64 48) := A.cell 3
      have hj := hj.out
      simp only [lastv] at hj
      by_cases hx : 48 < a
      · have HJ : Hid (48 < a) := hx
        clear hj
        go_wp2
        go_roundg (gk - 1)
        case measure => omega
        case rel => exact ⟨4, by omega, by omega, rfl, .inr HJ.out, rfl⟩
      · have HJ : Hid (layer a = 11) := by
          show layer a = _
          unfold layer; (repeat' split) <;> omega
        clear hj
        go_wp2
        go_ret
        exact ⟨ret_i HJ.out.symm, z⟩
    · have c : wr.cell? ⟨w.heap.size, 4, none⟩ = some (.int .i64 51) := A.cell 4
      have hj := hj.out
      simp only [lastv] at hj
      by_cases hx : 51 < a
      · have HJ : Hid (51 < a) := hx
        clear hj
        go_wp2
        go_roundg (gk - 1)
        case measure => omega
        case rel => exact ⟨5, by omega, by omega, rfl, .inr HJ.out, rfl⟩
      · have HJ : Hid (layer a = 12) := by
          show layer a = _
          unfold layer; (repeat' split) <;> omega
        clear hj
        go_wp2
        go_ret
        exact ⟨ret_i HJ.out.symm, z⟩
    · have c : wr.cell? ⟨w.heap.size, 5, none⟩ = some (.int .i64 54) := A.cell 5
      have hj := hj.out
      simp only [lastv] at hj
      by_cases hx : 54 < a
      · have HJ : Hid (54 < a) := hx
        clear hj
        go_wp2
        go_roundg (gk - 1)
        case measure => omega
        case rel => exact ⟨6, by omega, by omega, rfl, .inr HJ.out, rfl⟩
      · have HJ : Hid (layer a = 13) := by
          show layer a = _
          unfold layer; (repeat' split) <;> omega
        clear hj
        go_wp2
        go_ret
        exact ⟨ret_i HJ.out.symm, z⟩
    · have c : wr.cell? ⟨w.heap.size, 6, none⟩ = some (.int .i64 68) := A.cell 6
      have hj := hj.out
      simp only [lastv] at hj
      by_cases hx : 68 < a
      · have HJ : Hid (68 < a) := hx
        clear hj
        go_wp2
        go_roundg (gk - 1)
        case measure => omega
        case rel => exact ⟨7, by omega, by omega, rfl, .inr HJ.out, rfl⟩
      · have HJ : Hid (layer a = 14) := by
          show layer a = _
          unfold layer; (repeat' split) <;> omega
        clear hj
        go_wp2
        go_ret
        exact ⟨ret_i HJ.out.symm, z⟩
    · have c : wr.cell? ⟨w.heap.size, 7, none⟩ = some (.int .i64 70) := A.cell 7
      have hj := hj.out
      simp only [lastv] at hj
      have hx : ¬ 70 < a := by omega
      have HJ : Hid (layer a = 15) := by
        show layer a = _
        unfold layer; (repeat' split) <;> omega
      clear hj
      go_wp2
      go_ret
      exact ⟨ret_i HJ.out.symm, z⟩
end Go.Proofs.Ytakimmahfngpmaa
