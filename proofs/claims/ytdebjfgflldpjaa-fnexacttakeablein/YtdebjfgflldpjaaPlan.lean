/-
  What the program's and the model's test of a plan answer: whether its five numbers are within their bounds.
-/
import Derived.Test.YtdebjfgflldpjaaChecked
import Derived.WalkKit
import Derived.ProofKit
import Derived.Below
import Derived.Handy
namespace Go.Proofs.Ytdebjfgflldpjaa
open Go.RowKit
set_option linter.unusedVariables false
def inB (n a b : Int) : Bool := decide (a ≤ n ∧ n ≤ b)
def ok (p s l c k : Int) : Bool := decide (1 ≤ p ∧ p ≤ 64 ∧ 1 ≤ s ∧ s ≤ 200 ∧ 0 ≤ l ∧ l ≤ 50 ∧ 1 ≤ c ∧ c ≤ 8 ∧ 1 ≤ k ∧ k ≤ 32)
theorem ok_iff {p s l c k : Int} : ok p s l c k = true ↔ (1 ≤ p ∧ p ≤ 64 ∧ 1 ≤ s ∧ s ≤ 200 ∧ 0 ≤ l ∧ l ≤ 50 ∧ 1 ≤ c ∧ c ≤ 8 ∧ 1 ≤ k ∧ k ≤ 32) := by simp [ok]
theorem ret_b {a b : Bool} (h : a = b) : Ending.returned (.bool a) = .returned (.bool b) := by rw [h]
theorem ret_t {b : Bool} (h : b = true) : Ending.returned (.bool true) = .returned (.bool b) := by rw [h]
theorem ret_f {b : Bool} (h : b = false) : Ending.returned (.bool false) = .returned (.bool b) := by rw [h]
set_option maxHeartbeats 400000 in
theorem iWithin (n a b : Int) (w : World) :
    Calls Try.prog 40 #[.int .i64 n, .int .i64 a, .int .i64 b] w fun e w' => e = .returned (.bool (inB n a b)) ∧ w' = w := by
  go_enter Try.func40, Try.ntmps40
  go_wp2
  all_goals go_returns
  all_goals refine ⟨?_, rfl⟩
  all_goals first | exact ret_t (decide_eq_true (by omega)) | exact ret_f (decide_eq_false (by omega)) | (refine ret_b ?_; unfold inB; rw [decide_eq_decide]; omega)
set_option maxHeartbeats 400000 in
theorem sIn (n a b : Int) (w : World) :
    Calls Try.prog 12 #[.int .i64 n, .int .i64 a, .int .i64 b] w fun e w' => e = .returned (.bool (inB n a b)) ∧ w' = w := by
  go_enter Try.func12, Try.ntmps12
  go_wp2
  all_goals go_returns
  all_goals refine ⟨?_, rfl⟩
  all_goals first | exact ret_t (decide_eq_true (by omega)) | exact ret_f (decide_eq_false (by omega)) | (refine ret_b ?_; unfold inB; rw [decide_eq_decide]; omega)
set_option maxHeartbeats 1000000 in
theorem iPlanOk (p s l c k : Int) (w : World) :
    Calls Try.prog 37 #[.agg #[.int .i64 p, .int .i64 s, .int .i64 l, .int .i64 c, .int .i64 k]] w fun e w' => e = .returned (.bool (ok p s l c k)) ∧ Below w.heap.size w w' := by
  go_enter Try.func37, Try.ntmps37
  go_wp2_with (go_at_call 40; refine (iWithin _ _ _ _).mono ?_; rintro e w1 ⟨rfl, rfl⟩)
  all_goals go_returns
  all_goals refine ⟨?_, by go_grown⟩
  all_goals simp only [inB, decide_eq_true_eq] at *
  all_goals first | exact ret_t (ok_iff.2 (by omega)) | exact ret_f (decide_eq_false (by omega)) | (refine ret_b ?_; unfold ok; rw [decide_eq_decide]; omega)
set_option maxHeartbeats 1000000 in
theorem sPlanOk (p s l c k : Int) (w : World) :
    Calls Try.prog 15 #[.agg #[.int .i64 p, .int .i64 s, .int .i64 l, .int .i64 c, .int .i64 k]] w fun e w' => e = .returned (.bool (ok p s l c k)) ∧ Below w.heap.size w w' := by
  go_enter Try.func15, Try.ntmps15
  go_wp2_with (go_at_call 12; refine (sIn _ _ _ _).mono ?_; rintro e w1 ⟨rfl, rfl⟩)
  all_goals go_returns
  all_goals refine ⟨?_, by go_grown⟩
  all_goals simp only [inB, decide_eq_true_eq] at *
  all_goals first | exact ret_t (ok_iff.2 (by omega)) | exact ret_f (decide_eq_false (by omega)) | (refine ret_b ?_; unfold ok; rw [decide_eq_decide]; omega)
set_option maxHeartbeats 400000 in
theorem toP (p s l c k : Int) (w : World) :
    Calls Try.prog 5 #[.agg #[.int .i64 p, .int .i64 s, .int .i64 l, .int .i64 c, .int .i64 k]] w fun e w' => e = .returned (.agg #[.int .i64 p, .int .i64 s, .int .i64 l, .int .i64 c, .int .i64 k]) ∧ Below w.heap.size w w' := by
  go_enter Try.func5, Try.ntmps5
  go_wp2
  go_returns
  exact ⟨rfl, by go_grown⟩
end Go.Proofs.Ytdebjfgflldpjaa
