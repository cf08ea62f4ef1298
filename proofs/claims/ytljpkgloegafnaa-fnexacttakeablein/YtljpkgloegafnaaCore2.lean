/-
  What the model's own functions of the words' chapter do, and the law's helpers.
-/
import Derived.Test.YtljpkgloegafnaaCore
namespace Go.Proofs.Ytljpkgloegafnaa
open Go.RowKit
set_option linter.unusedVariables false
theorem ret_bool {a b : Bool} (h : a = b) : Ending.returned (.bool a) = .returned (.bool b) := by rw [h]
theorem ret_true {b : Bool} (h : b = true) : Ending.returned (.bool true) = .returned (.bool b) := by rw [h]
theorem ret_false {b : Bool} (h : b = false) : Ending.returned (.bool false) = .returned (.bool b) := by rw [h]
set_option maxHeartbeats 1000000 in
theorem sWordOk (k p i s : Int) (w : World) :
    Calls Try.prog 29 #[.agg #[.int .i64 k, .int .i64 p, .int .i64 i, .int .i64 s]] w fun e w' => e = .returned (.bool (wOk k p i s)) ∧ Below w.heap.size w w' := by
  go_enter Try.func29, Try.ntmps29
  go_wp2
  all_goals go_returns
  all_goals refine ⟨?_, by go_grown⟩
  all_goals first | exact ret_true (wOk_iff.2 (by omega)) | exact ret_false (decide_eq_false (by omega)) | (refine ret_bool ?_; unfold wOk; rw [decide_eq_decide]; omega)
set_option maxHeartbeats 1000000 in
theorem sPackY (k p i s : Int) (w : World) (h : wOk k p i s = true) :
    Calls Try.prog 11 #[.agg #[.int .i64 k, .int .i64 p, .int .i64 i, .int .i64 s]] w fun e w' => e = .returned (.tuple #[.int .u64 (pk k p i s), .bool true]) ∧ Below w.heap.size w w' := by
  have h' := wOk_iff.1 h
  go_enter Try.func11, Try.ntmps11
  go_wp2_with (go_at_call 29; refine (sWordOk _ _ _ _ _).mono ?_; rintro e w1 ⟨rfl, hb⟩; rw [h]; have B1 := (Box4.new _ _ _ _ _ _).keep hb; have c0 := B1.c0; have c1 := B1.c1; have c2 := B1.c2; have c3 := B1.c3)
  go_returns
  exact ⟨rfl, (((Below.refl _ _).alloc (Nat.le_refl _) _)).trans (hb.mono (by simp))⟩
set_option maxHeartbeats 1000000 in
theorem sPackN (k p i s : Int) (w : World) (h : wOk k p i s = false) :
    Calls Try.prog 11 #[.agg #[.int .i64 k, .int .i64 p, .int .i64 i, .int .i64 s]] w fun e w' => e = .returned (.tuple #[.int .u64 0, .bool false]) ∧ Below w.heap.size w w' := by
  go_enter Try.func11, Try.ntmps11
  go_wp2_with (go_at_call 29; refine (sWordOk _ _ _ _ _).mono ?_; rintro e w1 ⟨rfl, hb⟩; rw [h])
  go_returns
  exact ⟨rfl, (((Below.refl _ _).alloc (Nat.le_refl _) _)).trans (hb.mono (by simp))⟩
end Go.Proofs.Ytljpkgloegafnaa
