/-
  The laws' own dice over a code: what it is to roll them and to throw one number.
-/
import Derived.Test.YteikophkacagoaaCur
import Derived.Test.YteikophkacagoaaAt
namespace Go.Proofs.Yteikophkacagoaa
open Go.RowKit
set_option linter.unusedVariables false
theorem band24 (x : Int) : bits .and .u64 x 16777215 = x % 16777216 := by
  show IntKind.u64.wrap (((BitVec.ofInt 64 x &&& BitVec.ofInt 64 16777215).toNat : Nat) : Int) = _
  rw [BitVec.toNat_and, BitVec.toNat_ofInt, BitVec.toNat_ofInt, show ((16777215 : Int) % (2 ^ 64 : Nat)).toNat = 2 ^ 24 - 1 from by decide, Nat.and_two_pow_sub_one_eq_mod, IntKind.wrap_u64]
  omega
/-- Dice in block c, from B on. -/
structure Dice (B c : Nat) (w : World) : Prop where
  ge : B ≤ c
  lt : c < w.heap.size
  is : ∃ (a : Option Addr) (len cap i : Nat) (h : Int), w.cell? ⟨c, 0, none⟩ = some (.slice a len cap) ∧ w.cell? ⟨c, 1, none⟩ = some (.int .i64 i) ∧ w.cell? ⟨c, 2, none⟩ = some (.int .u64 h) ∧
    w.frozen? ⟨c, 1, none⟩ = false ∧ w.frozen? ⟨c, 2, none⟩ = false ∧ len ≤ 4096 ∧ Row B w a len
theorem Dice.keep {B c : Nat} {w w' : World} (h : Dice B c w) (hb : Below w.heap.size w w') : Dice B c w' := by
  obtain ⟨ge, lt, a, len, cap, i, x, h0, h1, h2, f1, f2, hl, hr⟩ := h
  refine ⟨ge, Nat.lt_of_lt_of_le lt hb.size, a, len, cap, i, x, (hb.cell (p := ⟨c, 0, none⟩) lt).trans h0, (hb.cell (p := ⟨c, 1, none⟩) lt).trans h1, (hb.cell (p := ⟨c, 2, none⟩) lt).trans h2, (hb.frozen (p := ⟨c, 1, none⟩) lt).trans f1, (hb.frozen (p := ⟨c, 2, none⟩) lt).trans f2, hl, ?_⟩
  rcases hr with rfl | ⟨b, off, rfl, hbb, hz⟩
  · exact .inl rfl
  · refine .inr ⟨b, off, rfl, hbb, fun j hj => ?_⟩
    obtain ⟨z, h1, h2⟩ := hz j hj
    exact ⟨z, (hb.cell (p := ⟨b, off + j, none⟩) (by show b < _; omega)).trans h1, h2⟩
theorem throw_val (x z n : Int) (z0 : 0 ≤ z) (z1 : z ≤ 255) (hn : 0 < n) : 0 ≤ (wrap64 (wrap64 (bits .and .u64 x 16777215) + z)).tmod n ∧ (wrap64 (wrap64 (bits .and .u64 x 16777215) + z)).tmod n < n := by
  rw [band24]
  have e : wrap64 (wrap64 (x % 16777216) + z) = x % 16777216 + z := by unfold wrap64; omega
  rw [e, Int.tmod_eq_emod_of_nonneg (by omega)]
  exact ⟨Int.emod_nonneg _ (by omega), Int.emod_lt_of_pos _ hn⟩
theorem throw_val0 (x n : Int) (hn : 0 < n) : 0 ≤ (wrap64 (bits .and .u64 x 16777215)).tmod n ∧ (wrap64 (bits .and .u64 x 16777215)).tmod n < n := by
  rw [band24]
  have e : wrap64 (x % 16777216) = x % 16777216 := by unfold wrap64; omega
  rw [e, Int.tmod_eq_emod_of_nonneg (by omega)]
  exact ⟨Int.emod_nonneg _ (by omega), Int.emod_lt_of_pos _ hn⟩
set_option maxHeartbeats 400000 in
theorem throw_in (c b off len cap i : Nat) (h z n : Int) (w : World)
    (hc0 : w.cell? ⟨c, 0, none⟩ = some (.slice (some ⟨b, off, none⟩) len cap)) (hc1 : w.cell? ⟨c, 1, none⟩ = some (.int .i64 i)) (hc2 : w.cell? ⟨c, 2, none⟩ = some (.int .u64 h))
    (hf1 : w.frozen? ⟨c, 1, none⟩ = false) (hf2 : w.frozen? ⟨c, 2, none⟩ = false) (hi : (i : Int) < (len : Int)) (hl : (len : Int) ≤ 4096) (hz : w.cell? ⟨b, off + i, none⟩ = some (.int .u8 z)) (hb : b ≠ c) (z0 : 0 ≤ z) (z1 : z ≤ 255) (hn : 0 < n) (hn1 : n ≤ 1000000) :
    Calls Try.prog 52 #[.pointer (some ⟨c, 0, none⟩), .int .i64 n] w fun e w' => ∃ v h' : Int, e = .returned (.int .i64 v) ∧ 0 ≤ v ∧ v < n ∧ Kept c w w' ∧
      w'.cell? ⟨c, 0, none⟩ = some (.slice (some ⟨b, off, none⟩) len cap) ∧ w'.cell? ⟨c, 1, none⟩ = some (.int .i64 (i + 1 : Nat)) ∧ w'.cell? ⟨c, 2, none⟩ = some (.int .u64 h') ∧ w'.frozen? ⟨c, 1, none⟩ = false ∧ w'.frozen? ⟨c, 2, none⟩ = false := by
  go_enter Try.func52, Try.ntmps52
  go_wp2
  go_quiet (fail)
  go_wp2
  go_quiet (fail)
  go_wp2
  go_returns
  refine ⟨_, IntKind.u64.wrap (IntKind.u64.wrap (h * 6364136223846793005) + 1442695040888963407), rfl, (throw_val _ _ _ z0 z1 hn).1, (throw_val _ _ _ z0 z1 hn).2, ?_, ?_, ?_, ?_, ?_, ?_⟩
  · exact (((Kept.refl _ _).set _ _).drewN _).set _ _
  · go_simp
  · go_simp
  · go_simp
  · go_simp
  · go_simp
set_option maxHeartbeats 400000 in
theorem throw_out (c len cap i : Nat) (a : Option Addr) (h n : Int) (w : World)
    (hc0 : w.cell? ⟨c, 0, none⟩ = some (.slice a len cap)) (hc1 : w.cell? ⟨c, 1, none⟩ = some (.int .i64 i)) (hc2 : w.cell? ⟨c, 2, none⟩ = some (.int .u64 h))
    (hf1 : w.frozen? ⟨c, 1, none⟩ = false) (hf2 : w.frozen? ⟨c, 2, none⟩ = false) (hi : ¬ (i : Int) < (len : Int)) (hl : (len : Int) ≤ 4096) (hn : 0 < n) (hn1 : n ≤ 1000000) :
    Calls Try.prog 52 #[.pointer (some ⟨c, 0, none⟩), .int .i64 n] w fun e w' => ∃ v h' : Int, e = .returned (.int .i64 v) ∧ 0 ≤ v ∧ v < n ∧ Kept c w w' ∧
      w'.cell? ⟨c, 0, none⟩ = some (.slice a len cap) ∧ w'.cell? ⟨c, 1, none⟩ = some (.int .i64 i) ∧ w'.cell? ⟨c, 2, none⟩ = some (.int .u64 h') ∧ w'.frozen? ⟨c, 1, none⟩ = false ∧ w'.frozen? ⟨c, 2, none⟩ = false := by
  go_enter Try.func52, Try.ntmps52
  go_wp2
  go_quiet (fail)
  go_wp2
  go_returns
  refine ⟨_, IntKind.u64.wrap (IntKind.u64.wrap (h * 6364136223846793005) + 1442695040888963407), rfl, (throw_val0 _ _ hn).1, (throw_val0 _ _ hn).2, ?_, ?_, ?_, ?_, ?_, ?_⟩
  · exact (((Kept.refl _ _).set _ _).drewN _)
  · go_simp
  · go_simp
  · go_simp
  · go_simp
  · go_simp
/-- What a throw does: a number below n, the dice go on, all else stays. -/
theorem throw_any (B c : Nat) (n : Int) (w : World) (hc : Dice B c w) (hn : 0 < n) (hn1 : n ≤ 1000000) :
    Calls Try.prog 52 #[.pointer (some ⟨c, 0, none⟩), .int .i64 n] w fun e w' => ∃ v : Int, e = .returned (.int .i64 v) ∧ (0 ≤ v ∧ v < n) ∧ Dice B c w' ∧ Kept c w w' := by
  obtain ⟨ge, lt, a, len, cap, i, x, h0, h1, h2, f1, f2, hl, hr⟩ := hc
  by_cases hi : (i : Int) < (len : Int)
  · rcases hr with rfl | ⟨b, off, rfl, hbb, hz⟩
    · omega
    · have hr' : Row B w (some ⟨b, off, none⟩) len := .inr ⟨b, off, rfl, hbb, hz⟩
      obtain ⟨z, hz1, hz2, hz3⟩ := hz i (by omega)
      refine (throw_in c b off len cap i x z n w h0 h1 h2 f1 f2 hi (by omega) hz1 (by omega) hz2 hz3 hn hn1).mono fun e w' h => ?_
      obtain ⟨v, h', he, v0, v1, k, g0, g1, g2, g3, g4⟩ := h
      exact ⟨v, he, ⟨v0, v1⟩, ⟨ge, Nat.lt_of_lt_of_le lt k.size, _, len, cap, i + 1, h', g0, g1, g2, g3, g4, hl, hr'.kept k ge (by omega)⟩, k⟩
  · refine (throw_out c len cap i a x n w h0 h1 h2 f1 f2 hi (by omega) hn hn1).mono fun e w' h => ?_
    obtain ⟨v, h', he, v0, v1, k, g0, g1, g2, g3, g4⟩ := h
    exact ⟨v, he, ⟨v0, v1⟩, ⟨ge, Nat.lt_of_lt_of_le lt k.size, _, len, cap, i, h', g0, g1, g2, g3, g4, hl, hr.kept k ge (by omega)⟩, k⟩
set_option maxHeartbeats 1000000 in
theorem roll_any (a : Option Addr) (len cap : Nat) (sd : Int) (w : World) (hl : len ≤ 4096) (hr : Row w.heap.size w a len) :
    Calls Try.prog 24 #[.slice a len cap, .int .u64 sd] w fun e w' => ∃ c : Nat, e = .returned (.pointer (some ⟨c, 0, none⟩)) ∧ Dice w.heap.size c w' ∧ Below w.heap.size w w' := by
  have hl' : (len : Int) ≤ 4096 := by omega
  go_enter Try.func24, Try.ntmps24
  go_wp2
  have at0 := At.new w #[.slice a len cap, .int .i64 0, .int .u64 (IntKind.u64.wrap (IntKind.u64.wrap (sd * 7919) + len))] 58
  have z0 := (Below.refl w.heap.size w).alloc (Nat.le_refl _) (Obj.cells #[.slice a len cap, .int .i64 0, .int .u64 (IntKind.u64.wrap (IntKind.u64.wrap (sd * 7919) + len))] 58)
  go_loopw [6] (fun i wr => ∃ (k : Nat) (h : Int), k ≤ len ∧ i = .int .i64 k ∧ At wr w.heap.size #[.slice a len cap, .int .i64 0, .int .u64 h] 58 ∧ Below w.heap.size w wr) (fun i _ => len - (intOf i).toNat)
  case atStart => exact ⟨0, _, Nat.zero_le _, rfl, at0, z0⟩
  case round =>
    obtain ⟨k, h, hk, rfl, at1, z1⟩ := hrel
    have c0 := at1.cell 0
    have c1 := at1.cell 1
    have c2 := at1.cell 2
    have f2 := at1.frozen 2
    simp at c0 c1 c2
    clear at0 z0
    by_cases hlt : (k : Int) < (len : Int)
    · rcases hr with h0 | ⟨b, off, rfl, hb, hz⟩
      · omega
      · obtain ⟨z, hz1, hz2, hz3⟩ := hz k (by omega)
        have hz4 : wr.cell? ⟨b, off + k, none⟩ = some (.int .u8 z) := (z1.cell (p := ⟨b, off + k, none⟩) hb).trans hz1
        have hne : b ≠ w.heap.size := by omega
        clear hz hz1
        go_wp2
        go_region
        all_goals
          go_wp2
          go_roundw
          case rel => exact ⟨k + 1, _, by omega, by go_num, (at1.draw 1).set 2 _, z1.drew.setCell (p := ⟨w.heap.size, 2, none⟩) (Nat.le_refl _) _⟩
          case measure => simp [intOf]; omega
    · go_wp2
      go_ret
      refine ⟨w.heap.size, rfl, ⟨Nat.le_refl _, at1.lt, a, len, cap, 0, h, c0, c1, c2, at1.frozen 1, at1.frozen 2, hl, ?_⟩, z1⟩
      rcases hr with h0 | ⟨b, off, rfl, hb, hz⟩
      · exact .inl h0
      · refine .inr ⟨b, off, rfl, hb, fun j hj => ?_⟩
        obtain ⟨z, hz1, hz2⟩ := hz j hj
        exact ⟨z, (z1.cell (p := ⟨b, off + j, none⟩) hb).trans hz1, hz2⟩
end Go.Proofs.Yteikophkacagoaa
