/-
  What the program's packing does: a right word is packed; any other is refused.
-/
import Derived.Test.YtkfmlamokcgcdaaWOk
namespace Go.Proofs.Ytkfmlamokcgcdaa
open Go.RowKit
set_option linter.unusedVariables false
set_option maxHeartbeats 1000000 in
theorem iPackY (k p i s : Int) (w : World) (h : wOk k p i s = true) :
    Calls Try.prog 11 #[.agg #[.int .i64 k, .int .i64 p, .int .i64 i, .int .i64 s]] w fun e w' => e = .returned (.tuple #[.int .u64 (pk k p i s), .bool true]) ∧ Below w.heap.size w w' := by
  have hj : Hid (jn k p i s = pk k p i s) := jn_pk h
  go_enter Try.func11, Try.ntmps11
  go_wp2_with (first
    | (go_at_call 17; refine (iWordOk _ _ _ _ _).mono ?_; rintro e w1 ⟨rfl, hb⟩; rw [h]; have B1 := (Box4.new _ _ _ _ _ _).keep hb; have c0 := B1.c0; have c1 := B1.c1; have c2 := B1.c2; have c3 := B1.c3)
    | (go_at_call 24; refine (iJoined _ _ _ _ _).mono ?_; rintro e w2 ⟨rfl, hb2⟩; rw [hj.out]))
  go_returns
  have z1 : Below w.heap.size w w1 := (((Below.refl _ _).alloc (Nat.le_refl _) _)).trans (hb.mono (by simp))
  exact ⟨rfl, z1.trans (hb2.mono z1.size)⟩
set_option maxHeartbeats 1000000 in
theorem iPackN (k p i s : Int) (w : World) (h : wOk k p i s = false) :
    Calls Try.prog 11 #[.agg #[.int .i64 k, .int .i64 p, .int .i64 i, .int .i64 s]] w fun e w' => e = .returned (.tuple #[.int .u64 0, .bool false]) ∧ Below w.heap.size w w' := by
  go_enter Try.func11, Try.ntmps11
  go_wp2_with (go_at_call 17; refine (iWordOk _ _ _ _ _).mono ?_; rintro e w1 ⟨rfl, hb⟩; rw [h])
  go_returns
  exact ⟨rfl, (((Below.refl _ _).alloc (Nat.le_refl _) _)).trans (hb.mono (by simp))⟩
end Go.Proofs.Ytkfmlamokcgcdaa
