/-
  The model's draws of odd numbers, of numbers up to a greatest one, of 64 bits and of words.
-/
import Derived.Test.YtkfmlamokcgcdaaDraw
import Derived.Test.YtkfmlamokcgcdaaCore
namespace Go.Proofs.Ytkfmlamokcgcdaa
open Go.RowKit
set_option linter.unusedVariables false
theorem ten {k : Nat} (h : k < 10) : k = 0 ∨ k = 1 ∨ k = 2 ∨ k = 3 ∨ k = 4 ∨ k = 5 ∨ k = 6 ∨ k = 7 ∨ k = 8 ∨ k = 9 := by omega
set_option maxHeartbeats 1000000 in
theorem odd_any (B c : Nat) (w : World) (hc : Cur B c w) :
    Calls Try.prog 34 #[.pointer (some ⟨c, 0, none⟩)] w fun e w' => ∃ v : Int, e = .returned (.int .i64 v) ∧ (-9223372036854775808 ≤ v ∧ v ≤ 9223372036854775807) ∧ Cur B c w' ∧ Kept c w w' := by
  go_enter Try.func34, Try.ntmps34
  go_wp2_with fail
  have hb : Below w.heap.size w (w.alloc (Obj.cells #[Value.int IntKind.i64 (-1), Value.int IntKind.i64 0, Value.int IntKind.i64 1, Value.int IntKind.i64 2147483648, Value.int IntKind.i64 (-2147483648), Value.int IntKind.i64 1099511627776,
          Value.int IntKind.i64 4611686018427387904, Value.int IntKind.i64 (-4611686018427387904), Value.int IntKind.i64 9223372036854775807, Value.int IntKind.i64 (-9223372036854775808)] 2)) := (Below.refl _ _).alloc (Nat.le_refl _) _
  refine (below_any B c 10 _ (hc.keep hb) (by omega)).mono ?_
  rintro e w1 ⟨v, rfl, ⟨v0, v1, v2⟩, hc1, k1⟩
  have v3 := v1 (by omega)
  clear v1 v2
  have hlt := hc.lt
  have hy : ∃ y : Int, w1.cell? ⟨w.heap.size, v.toNat, none⟩ = some (.int .i64 y) ∧ -9223372036854775808 ≤ y ∧ y ≤ 9223372036854775807 := by
    rw [k1.cell (by simp) (by omega)]
    rcases ten (k := v.toNat) (by omega) with h | h | h | h | h | h | h | h | h | h <;> rw [h] <;> exact ⟨_, by go_simp; rfl, by omega, by omega⟩
  obtain ⟨y, hy, y0, y1⟩ := hy
  go_wp2
  go_ret
  exact ⟨y, rfl, ⟨y0, y1⟩, hc1, (Kept.of_below hb).trans k1⟩
set_option maxHeartbeats 400000 in
theorem min_any (a b : Int) (w : World) :
    Calls Try.prog 35 #[.int .i64 a, .int .i64 b] w fun e w' => e = .returned (.int .i64 (if a < b then a else b)) ∧ w' = w := by
  by_cases h : a < b
  · rw [if_pos h]
    go_enter Try.func35, Try.ntmps35
    go_wp2
    go_ret
    exact ⟨rfl, rfl⟩
  · rw [if_neg h]
    go_enter Try.func35, Try.ntmps35
    go_wp2
    go_ret
    exact ⟨rfl, rfl⟩
set_option maxHeartbeats 1000000 in
theorem num_any (B c : Nat) (n : Int) (w : World) (hc : Cur B c w) (n0 : 0 ≤ n) (n1 : n ≤ 9223372036854775806) :
    Calls Try.prog 31 #[.pointer (some ⟨c, 0, none⟩), .int .i64 n] w fun e w' => ∃ v : Int, e = .returned (.int .i64 v) ∧ (-9223372036854775808 ≤ v ∧ v ≤ 9223372036854775807) ∧ Cur B c w' ∧ Kept c w w' := by
  go_enter Try.func31, Try.ntmps31
  go_wp2_with fail
  refine (once_any B c 10 _ hc (by omega)).mono ?_
  rintro e w1 ⟨v1, rfl, hc1, k1⟩
  cases v1
  · go_wp2_with fail
    refine (once_any B c 2 _ hc1 (by omega)).mono ?_
    rintro e w2 ⟨v2, rfl, hc2, k2⟩
    cases v2
    · go_wp2_with fail
      refine (below_any B c _ _ hc2 (by omega)).mono ?_
      rintro e w3 ⟨v, rfl, ⟨u0, u1, u2⟩, hc3, k3⟩
      have u3 := u1 (by omega)
      clear u1 u2
      go_wp2
      go_ret
      exact ⟨v, rfl, ⟨by omega, by omega⟩, hc3, (k1.trans k2).trans k3⟩
    · go_wp2_with fail
      refine (min_any n 4 _).mono ?_
      rintro e w3 ⟨rfl, rfl⟩
      obtain ⟨m, hm, m0, m1⟩ : ∃ m : Int, (if n < 4 then n else 4) = m ∧ 0 ≤ m ∧ m ≤ 4 := ⟨_, rfl, by split <;> omega, by split <;> omega⟩
      rw [hm]
      go_wp2_with fail
      refine (below_any B c _ _ hc2 (by omega)).mono ?_
      rintro e w3 ⟨v, rfl, ⟨u0, u1, u2⟩, hc3, k3⟩
      have u3 := u1 (by omega)
      clear u1 u2 hm
      go_wp2
      go_ret
      exact ⟨v, rfl, ⟨by omega, by omega⟩, hc3, (k1.trans k2).trans k3⟩
  · go_wp2_with fail
    refine (odd_any B c _ hc1).mono ?_
    rintro e w2 ⟨o, rfl, ⟨o0, o1⟩, hc2, k2⟩
    go_wp2_with fail
    have hb : Below w2.heap.size w2 (w2.alloc (Obj.cells #[Value.int IntKind.i64 (-1), Value.int IntKind.i64 n, Value.int IntKind.i64 (n + 1), Value.int IntKind.i64 o] 2)) := (Below.refl _ _).alloc (Nat.le_refl _) _
    refine (below_any B c 4 _ (hc2.keep hb) (by omega)).mono ?_
    rintro e w3 ⟨v, rfl, ⟨u0, u1, u2⟩, hc3, k3⟩
    have u3 := u1 (by omega)
    clear u1 u2
    have hlt := hc2.lt
    have hy : ∃ y : Int, w3.cell? ⟨w2.heap.size, v.toNat, none⟩ = some (.int .i64 y) ∧ -9223372036854775808 ≤ y ∧ y ≤ 9223372036854775807 := by
      rw [k3.cell (by simp) (by omega)]
      rcases (by omega : v.toNat = 0 ∨ v.toNat = 1 ∨ v.toNat = 2 ∨ v.toNat = 3) with h | h | h | h <;> rw [h] <;> exact ⟨_, by go_simp; rfl, by omega, by omega⟩
    obtain ⟨y, hy, y0, y1⟩ := hy
    go_wp2
    go_ret
    exact ⟨y, rfl, ⟨y0, y1⟩, hc3, ((k1.trans k2).trans (Kept.of_below hb)).trans k3⟩
end Go.Proofs.Ytkfmlamokcgcdaa
