/-
  The model's draw of odd numbers.
-/
import Derived.Test.YtmldeigbaafclaaDraw
namespace Go.Proofs.Ytmldeigbaafclaa
open Go.RowKit
set_option linter.unusedVariables false
theorem ten {k : Nat} (h : k < 10) : k = 0 ∨ k = 1 ∨ k = 2 ∨ k = 3 ∨ k = 4 ∨ k = 5 ∨ k = 6 ∨ k = 7 ∨ k = 8 ∨ k = 9 := by omega
set_option maxHeartbeats 1000000 in
theorem odd_any (B c : Nat) (w : World) (hc : Cur B c w) :
    Calls Try.prog 57 #[.pointer (some ⟨c, 0, none⟩)] w fun e w' => ∃ v : Int, e = .returned (.int .i64 v) ∧ (-9223372036854775808 ≤ v ∧ v ≤ 9223372036854775807) ∧ Cur B c w' ∧ Kept c w w' := by
  go_enter Try.func57, Try.ntmps57
  go_wp2_with fail
  have hb : Below w.heap.size w (w.alloc (Obj.cells #[Value.int IntKind.i64 (-1), Value.int IntKind.i64 0, Value.int IntKind.i64 1, Value.int IntKind.i64 2147483648, Value.int IntKind.i64 (-2147483648), Value.int IntKind.i64 1099511627776,
          Value.int IntKind.i64 4611686018427387904, Value.int IntKind.i64 (-4611686018427387904), Value.int IntKind.i64 9223372036854775807, Value.int IntKind.i64 (-9223372036854775808)] 2)) := (Below.refl _ _).alloc (Nat.le_refl _) _
  refine (below_any B c 10 _ (hc.keep hb) (by omega)).mono ?_
  rintro e w1 ⟨v, rfl, ⟨v0, v1, v2⟩, hc1, k1⟩
  have v3 := v1 (by omega)
  clear v1 v2
  have hlt := hc.lt
  have hy : ∃ y : Int, w1.cell? ⟨w.heap.size, v.toNat, none⟩ = some (.int .i64 y) ∧ -9223372036854775808 ≤ y ∧ y ≤ 9223372036854775807 := by
    rw [k1.cell (by simp) (by omega)]
    rcases ten (k := v.toNat) (by omega) with h | h | h | h | h | h | h | h | h | h <;> rw [h] <;> exact ⟨_, by go_simp; rfl, by omega, by omega⟩
  obtain ⟨y, hy, y0, y1⟩ := hy
  go_wp2
  go_ret
  exact ⟨y, rfl, ⟨y0, y1⟩, hc1, (Kept.of_below hb).trans k1⟩
end Go.Proofs.Ytmldeigbaafclaa
