/-
  Layers: the chapter of a step.
-/
import Derived.Test.YtooljeddnfkphaaHan3
import Derived.Deep.Cut
import Derived.Deep.LoopGhost
namespace Go.Proofs.Ytooljeddnfkphaa
open Go.RowKit
set_option linter.unusedVariables false
def layer (a : Int) : Int := if a = 0 then 0 else if a < 0 then -1 else if a ≤ 8 then 8 else if a ≤ 20 then 9 else if a ≤ 32 then 10 else if a ≤ 48 then 11 else if a ≤ 51 then 12 else if a ≤ 54 then 13 else if a ≤ 68 then 14 else if a ≤ 70 then 15 else -1
def lastv (i : Nat) : Int := match i with | 0 => 8 | 1 => 20 | 2 => 32 | 3 => 48 | 4 => 51 | 5 => 54 | 6 => 68 | _ => 70
theorem ret_i {a b : Int} (h : a = b) : Ending.returned (.int .i64 a) = .returned (.int .i64 b) := by rw [h]
set_option maxHeartbeats 2000000 in
theorem iLayer (a : Int) (w : World) : Calls Try.prog 14 #[.int .i64 a] w fun e w' => e = .returned (.int .i64 (layer a)) ∧ w' = w := by
  go_enter Try.func14, Try.ntmps14
  go_wp2_with (go_at_call 29; refine (iWithin _ _ _ _).mono ?_; rintro e w1 ⟨rfl, rfl⟩)
  all_goals go_returns
  all_goals refine ⟨ret_i ?_, rfl⟩
  all_goals (try simp only [inB, decide_eq_true_eq, decide_eq_false_iff_not, beq_eq_false_iff_ne, ne_eq, beq_iff_eq] at *)
  all_goals (unfold layer; (repeat' split) <;> first | rfl | omega)
end Go.Proofs.Ytooljeddnfkphaa
