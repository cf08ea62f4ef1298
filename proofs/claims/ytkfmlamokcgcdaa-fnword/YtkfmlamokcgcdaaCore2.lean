/-
  What the model's own functions of the words' chapter do, and the law's helpers.
-/
import Derived.Test.YtkfmlamokcgcdaaCore
namespace Go.Proofs.Ytkfmlamokcgcdaa
open Go.RowKit
set_option linter.unusedVariables false
theorem ret_bool {a b : Bool} (h : a = b) : Ending.returned (.bool a) = .returned (.bool b) := by rw [h]
theorem ret_true {b : Bool} (h : b = true) : Ending.returned (.bool true) = .returned (.bool b) := by rw [h]
theorem ret_false {b : Bool} (h : b = false) : Ending.returned (.bool false) = .returned (.bool b) := by rw [h]
set_option maxHeartbeats 400000 in
theorem eqW (a b c d : Int) (w : World) :
    Calls Try.prog 20 #[.agg #[.int .i64 a, .int .i64 b, .int .i64 c, .int .i64 d], .agg #[.int .i64 a, .int .i64 b, .int .i64 c, .int .i64 d]] w fun e w' => e = .returned (.bool true) ∧ Below w.heap.size w w' := by
  go_enter Try.func20, Try.ntmps20
  go_wp2
  go_returns
  exact ⟨rfl, by go_grown⟩
set_option maxHeartbeats 400000 in
theorem toW (a b c d : Int) (w : World) :
    Calls Try.prog 16 #[.agg #[.int .i64 a, .int .i64 b, .int .i64 c, .int .i64 d]] w fun e w' => e = .returned (.agg #[.int .i64 a, .int .i64 b, .int .i64 c, .int .i64 d]) ∧ Below w.heap.size w w' := by
  go_enter Try.func16, Try.ntmps16
  go_wp2
  go_returns
  exact ⟨rfl, by go_grown⟩
set_option maxHeartbeats 1000000 in
theorem sWordOk (k p i s : Int) (w : World) :
    Calls Try.prog 12 #[.agg #[.int .i64 k, .int .i64 p, .int .i64 i, .int .i64 s]] w fun e w' => e = .returned (.bool (wOk k p i s)) ∧ Below w.heap.size w w' := by
  go_enter Try.func12, Try.ntmps12
  go_wp2
  all_goals go_returns
  all_goals refine ⟨?_, by go_grown⟩
  all_goals first | exact ret_true (wOk_iff.2 (by omega)) | exact ret_false (decide_eq_false (by omega)) | (refine ret_bool ?_; unfold wOk; rw [decide_eq_decide]; omega)
set_option maxHeartbeats 1000000 in
theorem sPackY (k p i s : Int) (w : World) (h : wOk k p i s = true) :
    Calls Try.prog 18 #[.agg #[.int .i64 k, .int .i64 p, .int .i64 i, .int .i64 s]] w fun e w' => e = .returned (.tuple #[.int .u64 (pk k p i s), .bool true]) ∧ Below w.heap.size w w' := by
  have h' := wOk_iff.1 h
  go_enter Try.func18, Try.ntmps18
  go_wp2_with (go_at_call 12; refine (sWordOk _ _ _ _ _).mono ?_; rintro e w1 ⟨rfl, hb⟩; rw [h]; have B1 := (Box4.new _ _ _ _ _ _).keep hb; have c0 := B1.c0; have c1 := B1.c1; have c2 := B1.c2; have c3 := B1.c3)
  go_returns
  exact ⟨rfl, (((Below.refl _ _).alloc (Nat.le_refl _) _)).trans (hb.mono (by simp))⟩
set_option maxHeartbeats 1000000 in
theorem sPackN (k p i s : Int) (w : World) (h : wOk k p i s = false) :
    Calls Try.prog 18 #[.agg #[.int .i64 k, .int .i64 p, .int .i64 i, .int .i64 s]] w fun e w' => e = .returned (.tuple #[.int .u64 0, .bool false]) ∧ Below w.heap.size w w' := by
  go_enter Try.func18, Try.ntmps18
  go_wp2_with (go_at_call 12; refine (sWordOk _ _ _ _ _).mono ?_; rintro e w1 ⟨rfl, hb⟩; rw [h])
  go_returns
  exact ⟨rfl, (((Below.refl _ _).alloc (Nat.le_refl _) _)).trans (hb.mono (by simp))⟩
set_option maxHeartbeats 1000000 in
theorem sBears (x a b : Int) (h0 : 0 ≤ x) (h1 : x ≤ 18446744073709551615) (w : World) :
    Calls Try.prog 21 #[.int .u64 x, .int .i64 a, .int .i64 b] w fun e w' => e = .returned (.bool (uP x == a && uS x == b)) ∧ Below w.heap.size w w' := by
  go_enter Try.func21, Try.ntmps21
  go_wp2_with (go_at_call 19; refine (sUnpack _ h0 h1 _).mono ?_; rintro e w1 ⟨rfl, hb⟩)
  all_goals
    go_returns
    refine ⟨?_, (hb.alloc hb.size _)⟩
    first | exact ret_false (by simp [*]) | (refine ret_bool ?_; simp [*])
set_option maxHeartbeats 1000000 in
theorem iBears (x a b : Int) (h0 : 0 ≤ x) (h1 : x ≤ 18446744073709551615) (w : World) :
    Calls Try.prog 14 #[.int .u64 x, .int .i64 a, .int .i64 b] w fun e w' => e = .returned (.bool (uP x == a && uS x == b)) ∧ Below w.heap.size w w' := by
  go_enter Try.func14, Try.ntmps14
  go_wp2_with (go_at_call 13; refine (iUnpack _ h0 h1 _).mono ?_; rintro e w1 ⟨rfl, hb⟩)
  all_goals
    go_returns
    refine ⟨?_, (hb.alloc hb.size _)⟩
    first | exact ret_false (by simp [*]) | (refine ret_bool ?_; simp [*])
end Go.Proofs.Ytkfmlamokcgcdaa
