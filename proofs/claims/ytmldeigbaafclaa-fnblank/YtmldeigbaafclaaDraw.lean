/-
  The model's draws: numbers below a bound, once in n, odd numbers, numbers up to a greatest one; each moves the cursor alone.
-/
import Derived.Test.YtmldeigbaafclaaCur
namespace Go.Proofs.Ytmldeigbaafclaa
open Go.RowKit
set_option linter.unusedVariables false
set_option maxHeartbeats 400000 in
theorem new_any (a : Option Addr) (len cap : Nat) (w : World) (hl : len ≤ 4096) (hr : Row w.heap.size w a len) :
    Calls Try.prog 34 #[.slice a len cap] w fun e w' => ∃ c : Nat, e = .returned (.pointer (some ⟨c, 0, none⟩)) ∧ Cur w.heap.size c w' ∧ Below w.heap.size w w' := by
  have hl' : (len : Int) ≤ 4096 := by omega
  go_enter Try.func34, Try.ntmps34
  go_wp2
  go_loop [3, 4] (fun h i => ∃ (k : Nat) (x : Int), k ≤ len ∧ h = .int .i64 x ∧ i = .int .i64 k) (fun _ i => len - (intOf i).toNat)
  case atStart => exact ⟨0, _, Nat.zero_le _, rfl, rfl⟩
  case round =>
    obtain ⟨k, x, hk, rfl, rfl⟩ := hrel
    by_cases hlt : (k : Int) < (len : Int)
    · rcases hr with h0 | ⟨b, off, rfl, hb, hz⟩
      · omega
      · obtain ⟨z, hz1, hz2, hz3⟩ := hz k (by omega)
        go_wp2
        go_round
        case rel => exact ⟨k + 1, _, by omega, rfl, by go_num⟩
        case measure => simp [intOf]; omega
    · go_wp2
      go_ret
      refine ⟨w.heap.size, rfl, ⟨Nat.le_refl _, by simp, a, len, cap, 0, x, by go_simp, by go_simp, by go_simp, by go_simp, by go_simp, hl, ?_⟩, by go_grown⟩
      rcases hr with h0 | ⟨b, off, rfl, hb, hz⟩
      · exact .inl h0
      · refine .inr ⟨b, off, rfl, hb, fun j hj => ?_⟩
        obtain ⟨z, hz1, hz2⟩ := hz j hj
        exact ⟨z, (((Below.refl w.heap.size w).alloc (Nat.le_refl _) _).cell (p := ⟨b, off + j, none⟩) hb).trans hz1, hz2⟩
set_option maxHeartbeats 400000 in
theorem below_any (B c : Nat) (n : Int) (w : World) (hc : Cur B c w) (hn : n ≤ 9223372036854775807) :
    Calls Try.prog 56 #[.pointer (some ⟨c, 0, none⟩), .int .i64 n] w fun e w' => ∃ v : Int, e = .returned (.int .i64 v) ∧ (0 ≤ v ∧ (0 < n → v < n) ∧ (n ≤ 0 → v = 0)) ∧ Cur B c w' ∧ Kept c w w' := by
  by_cases h0 : n ≤ 0
  · go_enter Try.func56, Try.ntmps56
    go_wp2
    go_ret
    exact ⟨0, rfl, ⟨by omega, fun h => by omega, fun _ => rfl⟩, hc, Kept.refl _ _⟩
  · have hp : 0 < n := by omega
    by_cases h1 : n ≤ 256
    · go_enter Try.func56, Try.ntmps56
      go_wp2_with fail
      refine (byte_any B c _ hc).mono ?_
      rintro e w1 ⟨v, rfl, ⟨v0, v1⟩, hc1, k1⟩
      go_wp2
      go_ret
      exact ⟨v % n, rfl, ⟨Int.emod_nonneg _ (by omega), fun h => Int.emod_lt_of_pos _ h, fun h => by omega⟩, hc1, k1⟩
    · go_enter Try.func56, Try.ntmps56
      go_wp2_with fail
      refine (byte_any B c _ hc).mono ?_
      rintro e w1 ⟨x1, rfl, ⟨v0, v1⟩, hc1, k1⟩
      go_wp2_with fail
      refine (byte_any B c _ hc1).mono ?_
      rintro e w2 ⟨x2, rfl, ⟨v2, v3⟩, hc2, k2⟩
      go_wp2_with fail
      refine (byte_any B c _ hc2).mono ?_
      rintro e w3 ⟨x3, rfl, ⟨v4, v5⟩, hc3, k3⟩
      go_wp2_with fail
      refine (byte_any B c _ hc3).mono ?_
      rintro e w4 ⟨x4, rfl, ⟨v6, v7⟩, hc4, k4⟩
      go_wp2
      go_ret
      exact ⟨_, rfl, ⟨Int.emod_nonneg _ (by omega), fun h => Int.emod_lt_of_pos _ h, fun h => by omega⟩, hc4, ((k1.trans k2).trans k3).trans k4⟩
set_option maxHeartbeats 400000 in
theorem once_any (B c : Nat) (n : Int) (w : World) (hc : Cur B c w) (hn : n ≤ 9223372036854775807) :
    Calls Try.prog 55 #[.pointer (some ⟨c, 0, none⟩), .int .i64 n] w fun e w' => ∃ v : Bool, e = .returned (.bool v) ∧ Cur B c w' ∧ Kept c w w' := by
  go_enter Try.func55, Try.ntmps55
  go_wp2_with fail
  refine (below_any B c n _ hc hn).mono ?_
  rintro e w1 ⟨v, rfl, hv, hc1, k1⟩
  clear hv
  go_wp2
  all_goals
    go_ret
    exact ⟨_, rfl, hc1, k1⟩
end Go.Proofs.Ytmldeigbaafclaa
