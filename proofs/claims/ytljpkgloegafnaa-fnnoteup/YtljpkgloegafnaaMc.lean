/-
  Blocks of the call's own, by what they hold.
  A law's code: the bytes that came in, as the cursor wants them; the test of its length.
  The laws' own dice over a code: what it is to roll them and to throw one number.
  The laws' own plan of dice: a right one, small.
  Slices of words: what they hold, and that it stays.
  The laws' helpers over lists of words: a copy, likeness, marks.
-/
import Derived.Test.YtljpkgloegafnaaMb
import Derived.Laws.Rows
import Derived.Laws.OwnMore
import Derived.OwnWalk
import Derived.WalkKit
import Derived.Deep.LoopGhost
import Derived.Deep.OwnRows
namespace Go.Proofs.Ytljpkgloegafnaa
open Go.RowKit
set_option linter.unusedVariables false
/-- Block b holds just these cells, none of them frozen. -/
structure At (w : World) (b : Nat) (cs : Array Value) (t : TypeId) : Prop where
  is : w.heap[b]? = some (.cells cs t (0, 0))
theorem At.lt {w : World} {b : Nat} {cs : Array Value} {t : TypeId} (h : At w b cs t) : b < w.heap.size := by
  have := h.is
  exact (Array.getElem?_eq_some_iff.1 this).1
theorem At.cell {w : World} {b : Nat} {cs : Array Value} {t : TypeId} (h : At w b cs t) (i : Nat) : w.cell? ⟨b, i, none⟩ = cs[i]? := by
  simp [World.cell?, h.is]
theorem At.frozen {w : World} {b : Nat} {cs : Array Value} {t : TypeId} (h : At w b cs t) (i : Nat) : w.frozen? ⟨b, i, none⟩ = false := by
  simp [World.frozen?, h.is]
theorem At.new (w : World) (cs : Array Value) (t : TypeId) : At (w.alloc (.cells cs t)) w.heap.size cs t := ⟨by show (w.heap.push _)[w.heap.size]? = _; simp⟩
theorem At.keep {w w' : World} {b : Nat} {cs : Array Value} {t : TypeId} (h : At w b cs t) (hb : Below w.heap.size w w') : At w' b cs t := ⟨(hb.block b h.lt).trans h.is⟩
theorem At.under {w w' : World} {B b : Nat} {cs : Array Value} {t : TypeId} (h : At w b cs t) (hb : Below B w w') (hB : b < B) : At w' b cs t := ⟨(hb.block b hB).trans h.is⟩
theorem At.kept {w w' : World} {b c : Nat} {cs : Array Value} {t : TypeId} (h : At w b cs t) (k : Kept c w w') (hc : b ≠ c) : At w' b cs t := ⟨(k.block b h.lt hc).trans h.is⟩
theorem At.set {w : World} {b : Nat} {cs : Array Value} {t : TypeId} (h : At w b cs t) (i : Nat) (v : Value) : At (w.setCell ⟨b, i, none⟩ v) b (cs.setIfInBounds i v) t := by
  constructor
  have hl := h.lt
  have e := h.is
  simp only [World.setCell, Array.getElem?_modify, e]
  simp
theorem At.other {w : World} {b : Nat} {cs : Array Value} {t : TypeId} (h : At w b cs t) {a : Addr} (ha : b ≠ a.block) (v : Value) : At (w.setCell a v) b cs t := ⟨(Below.heap_setCell _ _ _ _ ha).trans h.is⟩
theorem At.draw {w : World} {b : Nat} {cs : Array Value} {t : TypeId} (h : At w b cs t) (n : Nat) : At (w.drewN n) b cs t := ⟨h.is⟩
theorem At.four {w : World} {b : Nat} {x0 x1 x2 x3 : Value} {t : TypeId} (h : At w b #[x0, x1, x2, x3] t) :
    w.cell? ⟨b, 0, none⟩ = some x0 ∧ w.cell? ⟨b, 1, none⟩ = some x1 ∧ w.cell? ⟨b, 2, none⟩ = some x2 ∧ w.cell? ⟨b, 3, none⟩ = some x3 ∧
    w.frozen? ⟨b, 0, none⟩ = false ∧ w.frozen? ⟨b, 1, none⟩ = false ∧ w.frozen? ⟨b, 2, none⟩ = false ∧ w.frozen? ⟨b, 3, none⟩ = false :=
  ⟨h.cell 0, h.cell 1, h.cell 2, h.cell 3, h.frozen 0, h.frozen 1, h.frozen 2, h.frozen 3⟩
/-- A store into a block that was not there when the call began. -/
theorem Kept.put {c : Nat} {a w : World} (h : Kept c a w) {p : Addr} (hp : a.heap.size ≤ p.block) (v : Value) : Kept c a (w.setCell p v) :=
  ⟨h.os, h.tape, h.output, by simpa [World.setCell] using h.size, fun k hk hc => (Below.heap_setCell _ _ _ _ (by omega)).trans (h.block k hk hc)⟩
/-- A store into another block than the cursor's. -/
theorem Cur.other {B c : Nat} {w : World} (h : Cur B c w) {p : Addr} (hp : p.block ≠ c) (hB : B ≤ p.block) (v : Value) : Cur B c (w.setCell p v) := by
  obtain ⟨ge, lt, a, len, cap, i, x, h0, h1, h2, f1, f2, hl, hr⟩ := h
  have e : (w.setCell p v).heap[c]? = w.heap[c]? := Below.heap_setCell _ _ _ _ (fun h => hp h.symm)
  have hcell : ∀ o, (w.setCell p v).cell? ⟨c, o, none⟩ = w.cell? ⟨c, o, none⟩ := fun o => World.cell?_of_block (w := w) e
  have hfr : ∀ o, (w.setCell p v).frozen? ⟨c, o, none⟩ = w.frozen? ⟨c, o, none⟩ := fun o => World.frozen?_of_block (w := w) e
  refine ⟨ge, by simpa [World.setCell] using lt, a, len, cap, i, x, (hcell 0).trans h0, (hcell 1).trans h1, (hcell 2).trans h2, (hfr 1).trans f1, (hfr 2).trans f2, hl, ?_⟩
  rcases hr with rfl | ⟨b, off, rfl, hbb, hz⟩
  · exact .inl rfl
  · refine .inr ⟨b, off, rfl, hbb, fun j hj => ?_⟩
    obtain ⟨z, h1, h2⟩ := hz j hj
    exact ⟨z, (World.cell?_of_block (w := w) (Below.heap_setCell _ _ _ _ (by show b ≠ _; omega))).trans h1, h2⟩
end Go.Proofs.Ytljpkgloegafnaa
namespace Go.Proofs.Ytljpkgloegafnaa
open Go.RowKit
set_option linter.unusedVariables false
/-- A slice of integers that came in: it is nil, or it leads to a row of cells, each fitting its kind. -/
def IsRow (k : IntKind) (w : World) (a : Option Addr) (len cap : Nat) (zs : List Int) : Prop :=
  (a = none ∧ len = 0 ∧ cap = 0 ∧ zs = []) ∨
  ∃ x, a = some x ∧ len ≤ cap ∧ cap ≤ maxLen ∧ zs.length = cap ∧ (∀ i, i < zs.length → w.cell? (x.add i) = some (.int k (zs.getD i 0))) ∧ ∀ n ∈ zs, (Lit.int k n).wf = true
theorem block_lt {w : World} {b o : Nat} {v : Value} (h : w.cell? ⟨b, o, none⟩ = some v) : b < w.heap.size := by
  by_cases hb : b < w.heap.size
  · exact hb
  · have e : w.heap[b]? = none := by simp; omega
    simp [World.cell?, e] at h
theorem IsRow.row {w : World} {a : Option Addr} {len cap : Nat} {zs : List Int} (h : IsRow .u8 w a len cap zs) : Row w.heap.size w a len := by
  rcases h with ⟨rfl, rfl, rfl, rfl⟩ | ⟨x, rfl, hl, hm, hz, hcell, hwz⟩
  · exact .inl rfl
  · by_cases h0 : len = 0
    · exact .inl h0
    · obtain ⟨b, off, spot⟩ := x
      have hc := hcell 0 (by omega)
      have hspot : spot = none := by simpa [Addr.add] using World.cell?_spot hc
      subst hspot
      have hc' : w.cell? ⟨b, off, none⟩ = some (.int .u8 (zs.getD 0 0)) := by simpa [Addr.add] using hc
      refine .inr ⟨b, off, rfl, block_lt hc', fun j hj => ⟨zs.getD j 0, by have := hcell j (by omega); by_cases hj0 : j = 0 <;> simpa [Addr.add, hj0] using this, ?_⟩⟩
      have hm : zs.getD j 0 ∈ zs := by
        have hlt : j < zs.length := by omega
        simp only [List.getD_eq_getElem?_getD, List.getElem?_eq_getElem hlt, Option.getD_some]
        exact List.getElem_mem hlt
      exact bounds_u8 (hwz _ hm)
set_option maxHeartbeats 400000 in
theorem big_any (a : Option Addr) (len cap : Nat) (w : World) (h : (len : Int) ≤ 9223372036854775807) :
    Calls Try.prog 5 #[.slice a len cap] w fun e w' => e = .returned (.bool (decide ((4096 : Int) < len))) ∧ w' = w := by
  go_enter Try.func5, Try.ntmps5
  go_wp2
  all_goals
    go_ret
    exact ⟨rfl, rfl⟩
theorem IsRow.small {k : IntKind} {w : World} {a : Option Addr} {len cap : Nat} {zs : List Int} (h : IsRow k w a len cap zs) : (len : Int) ≤ 9223372036854775807 := by
  rcases h with ⟨rfl, rfl, rfl, rfl⟩ | ⟨x, rfl, hl, hm, hz, hcell, hwz⟩
  · omega
  · unfold maxLen at hm; omega
end Go.Proofs.Ytljpkgloegafnaa
namespace Go.Proofs.Ytljpkgloegafnaa
open Go.RowKit
set_option linter.unusedVariables false
theorem band24 (x : Int) : bits .and .u64 x 16777215 = x % 16777216 := by
  show IntKind.u64.wrap (((BitVec.ofInt 64 x &&& BitVec.ofInt 64 16777215).toNat : Nat) : Int) = _
  rw [BitVec.toNat_and, BitVec.toNat_ofInt, BitVec.toNat_ofInt, show ((16777215 : Int) % (2 ^ 64 : Nat)).toNat = 2 ^ 24 - 1 from by decide, Nat.and_two_pow_sub_one_eq_mod, IntKind.wrap_u64]
  omega
/-- Dice in block c, from B on. -/
structure Dice (B c : Nat) (w : World) : Prop where
  ge : B ≤ c
  lt : c < w.heap.size
  is : ∃ (a : Option Addr) (len cap i : Nat) (h : Int), w.cell? ⟨c, 0, none⟩ = some (.slice a len cap) ∧ w.cell? ⟨c, 1, none⟩ = some (.int .i64 i) ∧ w.cell? ⟨c, 2, none⟩ = some (.int .u64 h) ∧
    w.frozen? ⟨c, 1, none⟩ = false ∧ w.frozen? ⟨c, 2, none⟩ = false ∧ len ≤ 4096 ∧ Row B w a len
theorem Dice.keep {B c : Nat} {w w' : World} (h : Dice B c w) (hb : Below w.heap.size w w') : Dice B c w' := by
  obtain ⟨ge, lt, a, len, cap, i, x, h0, h1, h2, f1, f2, hl, hr⟩ := h
  refine ⟨ge, Nat.lt_of_lt_of_le lt hb.size, a, len, cap, i, x, (hb.cell (p := ⟨c, 0, none⟩) lt).trans h0, (hb.cell (p := ⟨c, 1, none⟩) lt).trans h1, (hb.cell (p := ⟨c, 2, none⟩) lt).trans h2, (hb.frozen (p := ⟨c, 1, none⟩) lt).trans f1, (hb.frozen (p := ⟨c, 2, none⟩) lt).trans f2, hl, ?_⟩
  rcases hr with rfl | ⟨b, off, rfl, hbb, hz⟩
  · exact .inl rfl
  · refine .inr ⟨b, off, rfl, hbb, fun j hj => ?_⟩
    obtain ⟨z, h1, h2⟩ := hz j hj
    exact ⟨z, (hb.cell (p := ⟨b, off + j, none⟩) (by show b < _; omega)).trans h1, h2⟩
theorem throw_val (x z n : Int) (z0 : 0 ≤ z) (z1 : z ≤ 255) (hn : 0 < n) : 0 ≤ (wrap64 (wrap64 (bits .and .u64 x 16777215) + z)).tmod n ∧ (wrap64 (wrap64 (bits .and .u64 x 16777215) + z)).tmod n < n := by
  rw [band24]
  have e : wrap64 (wrap64 (x % 16777216) + z) = x % 16777216 + z := by unfold wrap64; omega
  rw [e, Int.tmod_eq_emod_of_nonneg (by omega)]
  exact ⟨Int.emod_nonneg _ (by omega), Int.emod_lt_of_pos _ hn⟩
theorem throw_val0 (x n : Int) (hn : 0 < n) : 0 ≤ (wrap64 (bits .and .u64 x 16777215)).tmod n ∧ (wrap64 (bits .and .u64 x 16777215)).tmod n < n := by
  rw [band24]
  have e : wrap64 (x % 16777216) = x % 16777216 := by unfold wrap64; omega
  rw [e, Int.tmod_eq_emod_of_nonneg (by omega)]
  exact ⟨Int.emod_nonneg _ (by omega), Int.emod_lt_of_pos _ hn⟩
set_option maxHeartbeats 400000 in
theorem throw_in (c b off len cap i : Nat) (h z n : Int) (w : World)
    (hc0 : w.cell? ⟨c, 0, none⟩ = some (.slice (some ⟨b, off, none⟩) len cap)) (hc1 : w.cell? ⟨c, 1, none⟩ = some (.int .i64 i)) (hc2 : w.cell? ⟨c, 2, none⟩ = some (.int .u64 h))
    (hf1 : w.frozen? ⟨c, 1, none⟩ = false) (hf2 : w.frozen? ⟨c, 2, none⟩ = false) (hi : (i : Int) < (len : Int)) (hl : (len : Int) ≤ 4096) (hz : w.cell? ⟨b, off + i, none⟩ = some (.int .u8 z)) (hb : b ≠ c) (z0 : 0 ≤ z) (z1 : z ≤ 255) (hn : 0 < n) (hn1 : n ≤ 1000000) :
    Calls Try.prog 9 #[.pointer (some ⟨c, 0, none⟩), .int .i64 n] w fun e w' => ∃ v h' : Int, e = .returned (.int .i64 v) ∧ 0 ≤ v ∧ v < n ∧ Kept c w w' ∧
      w'.cell? ⟨c, 0, none⟩ = some (.slice (some ⟨b, off, none⟩) len cap) ∧ w'.cell? ⟨c, 1, none⟩ = some (.int .i64 (i + 1 : Nat)) ∧ w'.cell? ⟨c, 2, none⟩ = some (.int .u64 h') ∧ w'.frozen? ⟨c, 1, none⟩ = false ∧ w'.frozen? ⟨c, 2, none⟩ = false := by
  go_enter Try.func9, Try.ntmps9
  go_wp2
  go_quiet (fail)
  go_wp2
  go_quiet (fail)
  go_wp2
  go_returns
  refine ⟨_, IntKind.u64.wrap (IntKind.u64.wrap (h * 6364136223846793005) + 1442695040888963407), rfl, (throw_val _ _ _ z0 z1 hn).1, (throw_val _ _ _ z0 z1 hn).2, ?_, ?_, ?_, ?_, ?_, ?_⟩
  · exact (((Kept.refl _ _).set _ _).drewN _).set _ _
  · go_simp
  · go_simp
  · go_simp
  · go_simp
  · go_simp
set_option maxHeartbeats 400000 in
theorem throw_out (c len cap i : Nat) (a : Option Addr) (h n : Int) (w : World)
    (hc0 : w.cell? ⟨c, 0, none⟩ = some (.slice a len cap)) (hc1 : w.cell? ⟨c, 1, none⟩ = some (.int .i64 i)) (hc2 : w.cell? ⟨c, 2, none⟩ = some (.int .u64 h))
    (hf1 : w.frozen? ⟨c, 1, none⟩ = false) (hf2 : w.frozen? ⟨c, 2, none⟩ = false) (hi : ¬ (i : Int) < (len : Int)) (hl : (len : Int) ≤ 4096) (hn : 0 < n) (hn1 : n ≤ 1000000) :
    Calls Try.prog 9 #[.pointer (some ⟨c, 0, none⟩), .int .i64 n] w fun e w' => ∃ v h' : Int, e = .returned (.int .i64 v) ∧ 0 ≤ v ∧ v < n ∧ Kept c w w' ∧
      w'.cell? ⟨c, 0, none⟩ = some (.slice a len cap) ∧ w'.cell? ⟨c, 1, none⟩ = some (.int .i64 i) ∧ w'.cell? ⟨c, 2, none⟩ = some (.int .u64 h') ∧ w'.frozen? ⟨c, 1, none⟩ = false ∧ w'.frozen? ⟨c, 2, none⟩ = false := by
  go_enter Try.func9, Try.ntmps9
  go_wp2
  go_quiet (fail)
  go_wp2
  go_returns
  refine ⟨_, IntKind.u64.wrap (IntKind.u64.wrap (h * 6364136223846793005) + 1442695040888963407), rfl, (throw_val0 _ _ hn).1, (throw_val0 _ _ hn).2, ?_, ?_, ?_, ?_, ?_, ?_⟩
  · exact (((Kept.refl _ _).set _ _).drewN _)
  · go_simp
  · go_simp
  · go_simp
  · go_simp
  · go_simp
/-- What a throw does: a number below n, the dice go on, all else stays. -/
theorem throw_any (B c : Nat) (n : Int) (w : World) (hc : Dice B c w) (hn : 0 < n) (hn1 : n ≤ 1000000) :
    Calls Try.prog 9 #[.pointer (some ⟨c, 0, none⟩), .int .i64 n] w fun e w' => ∃ v : Int, e = .returned (.int .i64 v) ∧ (0 ≤ v ∧ v < n) ∧ Dice B c w' ∧ Kept c w w' := by
  obtain ⟨ge, lt, a, len, cap, i, x, h0, h1, h2, f1, f2, hl, hr⟩ := hc
  by_cases hi : (i : Int) < (len : Int)
  · rcases hr with rfl | ⟨b, off, rfl, hbb, hz⟩
    · omega
    · have hr' : Row B w (some ⟨b, off, none⟩) len := .inr ⟨b, off, rfl, hbb, hz⟩
      obtain ⟨z, hz1, hz2, hz3⟩ := hz i (by omega)
      refine (throw_in c b off len cap i x z n w h0 h1 h2 f1 f2 hi (by omega) hz1 (by omega) hz2 hz3 hn hn1).mono fun e w' h => ?_
      obtain ⟨v, h', he, v0, v1, k, g0, g1, g2, g3, g4⟩ := h
      exact ⟨v, he, ⟨v0, v1⟩, ⟨ge, Nat.lt_of_lt_of_le lt k.size, _, len, cap, i + 1, h', g0, g1, g2, g3, g4, hl, hr'.kept k ge (by omega)⟩, k⟩
  · refine (throw_out c len cap i a x n w h0 h1 h2 f1 f2 hi (by omega) hn hn1).mono fun e w' h => ?_
    obtain ⟨v, h', he, v0, v1, k, g0, g1, g2, g3, g4⟩ := h
    exact ⟨v, he, ⟨v0, v1⟩, ⟨ge, Nat.lt_of_lt_of_le lt k.size, _, len, cap, i, h', g0, g1, g2, g3, g4, hl, hr.kept k ge (by omega)⟩, k⟩
set_option maxHeartbeats 1000000 in
theorem roll_any (a : Option Addr) (len cap : Nat) (sd : Int) (w : World) (hl : len ≤ 4096) (hr : Row w.heap.size w a len) :
    Calls Try.prog 6 #[.slice a len cap, .int .u64 sd] w fun e w' => ∃ c : Nat, e = .returned (.pointer (some ⟨c, 0, none⟩)) ∧ Dice w.heap.size c w' ∧ Below w.heap.size w w' := by
  have hl' : (len : Int) ≤ 4096 := by omega
  go_enter Try.func6, Try.ntmps6
  go_wp2
  have at0 := At.new w #[.slice a len cap, .int .i64 0, .int .u64 (IntKind.u64.wrap (IntKind.u64.wrap (sd * 7919) + len))] 54
  have z0 := (Below.refl w.heap.size w).alloc (Nat.le_refl _) (Obj.cells #[.slice a len cap, .int .i64 0, .int .u64 (IntKind.u64.wrap (IntKind.u64.wrap (sd * 7919) + len))] 54)
  go_loopw [6] (fun i wr => ∃ (k : Nat) (h : Int), k ≤ len ∧ i = .int .i64 k ∧ At wr w.heap.size #[.slice a len cap, .int .i64 0, .int .u64 h] 54 ∧ Below w.heap.size w wr) (fun i _ => len - (intOf i).toNat)
  case atStart => exact ⟨0, _, Nat.zero_le _, rfl, at0, z0⟩
  case round =>
    obtain ⟨k, h, hk, rfl, at1, z1⟩ := hrel
    have c0 := at1.cell 0
    have c1 := at1.cell 1
    have c2 := at1.cell 2
    have f2 := at1.frozen 2
    simp at c0 c1 c2
    clear at0 z0
    by_cases hlt : (k : Int) < (len : Int)
    · rcases hr with h0 | ⟨b, off, rfl, hb, hz⟩
      · omega
      · obtain ⟨z, hz1, hz2, hz3⟩ := hz k (by omega)
        have hz4 : wr.cell? ⟨b, off + k, none⟩ = some (.int .u8 z) := (z1.cell (p := ⟨b, off + k, none⟩) hb).trans hz1
        have hne : b ≠ w.heap.size := by omega
        clear hz hz1
        go_wp2
        go_region
        all_goals
          go_wp2
          go_roundw
          case rel => exact ⟨k + 1, _, by omega, by go_num, (at1.draw 1).set 2 _, z1.drew.setCell (p := ⟨w.heap.size, 2, none⟩) (Nat.le_refl _) _⟩
          case measure => simp [intOf]; omega
    · go_wp2
      go_ret
      refine ⟨w.heap.size, rfl, ⟨Nat.le_refl _, at1.lt, a, len, cap, 0, h, c0, c1, c2, at1.frozen 1, at1.frozen 2, hl, ?_⟩, z1⟩
      rcases hr with h0 | ⟨b, off, rfl, hb, hz⟩
      · exact .inl h0
      · refine .inr ⟨b, off, rfl, hb, fun j hj => ?_⟩
        obtain ⟨z, hz1, hz2⟩ := hz j hj
        exact ⟨z, (z1.cell (p := ⟨b, off + j, none⟩) hb).trans hz1, hz2⟩
end Go.Proofs.Ytljpkgloegafnaa
namespace Go.Proofs.Ytljpkgloegafnaa
open Go.RowKit
set_option linter.unusedVariables false
theorem At.fiveD {w : World} {b : Nat} {x0 x1 x2 x3 x4 : Value} {t : TypeId} (h : At w b #[x0, x1, x2, x3, x4] t) :
    w.cell? ⟨b, 0, none⟩ = some x0 ∧ w.cell? ⟨b, 1, none⟩ = some x1 ∧ w.cell? ⟨b, 2, none⟩ = some x2 ∧ w.cell? ⟨b, 3, none⟩ = some x3 ∧ w.cell? ⟨b, 4, none⟩ = some x4 ∧
    w.frozen? ⟨b, 0, none⟩ = false ∧ w.frozen? ⟨b, 1, none⟩ = false ∧ w.frozen? ⟨b, 2, none⟩ = false ∧ w.frozen? ⟨b, 3, none⟩ = false ∧ w.frozen? ⟨b, 4, none⟩ = false :=
  ⟨h.cell 0, h.cell 1, h.cell 2, h.cell 3, h.cell 4, h.frozen 0, h.frozen 1, h.frozen 2, h.frozen 3, h.frozen 4⟩
/-- A right plan, small. -/
def okS (p s l c k : Int) : Prop := (1 ≤ p ∧ p ≤ 4) ∧ (2 ≤ s ∧ s ≤ 7) ∧ (0 ≤ l ∧ l ≤ 2) ∧ (1 ≤ c ∧ c ≤ 2) ∧ 1 ≤ k ∧ k ≤ 3
theorem okS.ok {p s l c k : Int} (h : okS p s l c k) : ok p s l c k = true := by unfold okS at h; exact ok_iff.2 (by omega)
theorem Dice.other {B c : Nat} {w : World} (h : Dice B c w) {p : Addr} (hp : p.block ≠ c) (hB : B ≤ p.block) (v : Value) : Dice B c (w.setCell p v) := by
  obtain ⟨ge, lt, a, len, cap, i, x, h0, h1, h2, f1, f2, hl, hr⟩ := h
  have e : (w.setCell p v).heap[c]? = w.heap[c]? := Below.heap_setCell _ _ _ _ (fun h => hp h.symm)
  have hcell : ∀ o, (w.setCell p v).cell? ⟨c, o, none⟩ = w.cell? ⟨c, o, none⟩ := fun o => World.cell?_of_block (w := w) e
  have hfr : ∀ o, (w.setCell p v).frozen? ⟨c, o, none⟩ = w.frozen? ⟨c, o, none⟩ := fun o => World.frozen?_of_block (w := w) e
  refine ⟨ge, by simpa [World.setCell] using lt, a, len, cap, i, x, (hcell 0).trans h0, (hcell 1).trans h1, (hcell 2).trans h2, (hfr 1).trans f1, (hfr 2).trans f2, hl, ?_⟩
  rcases hr with rfl | ⟨b, off, rfl, hbb, hz⟩
  · exact .inl rfl
  · refine .inr ⟨b, off, rfl, hbb, fun j hj => ?_⟩
    obtain ⟨z, h1, h2⟩ := hz j hj
    exact ⟨z, (World.cell?_of_block (w := w) (Below.heap_setCell _ _ _ _ (by show b ≠ _; omega))).trans h1, h2⟩
theorem pFin {B c r : Nat} {w0 w1 : World} {T : Array Value} {t : TypeId} {x0 x1 x2 x3 x4 : Value} (R : At w1 r #[x0, x1, x2, x3, x4] t) (D : Dice B c w1) (K : Kept c w0 w1) (rc : r ≠ c) (hB : B ≤ r) (hr : w0.heap.size ≤ r) (hT : T[2]?.getD undef = .pointer (some ⟨r, 0, none⟩)) {y0 y1 y2 y3 y4 : Int} (hQ : okS y0 y1 y2 y3 y4) :
    bodyPost Try.prog Try.f7 (fun e w' => ∃ p s l c' k : Int, e = .returned (.agg #[.int .i64 p, .int .i64 s, .int .i64 l, .int .i64 c', .int .i64 k]) ∧ okS p s l c' k ∧ Dice B c w' ∧ Kept c w0 w') .ret ⟨T, []⟩ (((((w1.setCell ⟨r, 0, none⟩ (.int .i64 y0)).setCell ⟨r, 1, none⟩ (.int .i64 y1)).setCell ⟨r, 2, none⟩ (.int .i64 y2)).setCell ⟨r, 3, none⟩ (.int .i64 y3)).setCell ⟨r, 4, none⟩ (.int .i64 y4)) := by
  have fin : At (((((w1.setCell ⟨r, 0, none⟩ (.int .i64 y0)).setCell ⟨r, 1, none⟩ (.int .i64 y1)).setCell ⟨r, 2, none⟩ (.int .i64 y2)).setCell ⟨r, 3, none⟩ (.int .i64 y3)).setCell ⟨r, 4, none⟩ (.int .i64 y4)) r #[.int .i64 y0, .int .i64 y1, .int .i64 y2, .int .i64 y3, .int .i64 y4] t := ((((R.set 0 _).set 1 _).set 2 _).set 3 _).set 4 _
  obtain ⟨r0, r1, r2, r3, r4, -⟩ := fin.fiveD
  exact bodyPost_ret (v := .agg #[.int .i64 y0, .int .i64 y1, .int .i64 y2, .int .i64 y3, .int .i64 y4]) (by simp [results, Try.results7, go_sem, hT, r0, r1, r2, r3, r4]) rfl ⟨_, _, _, _, _, rfl, hQ, ((((D.other rc hB _).other rc hB _).other rc hB _).other rc hB _).other rc hB _, ((((K.put hr _).put hr _).put hr _).put hr _).put hr _⟩
set_option maxHeartbeats 1000000 in
theorem plan_dice (B c : Nat) (w : World) (hc : Dice B c w) :
    Calls Try.prog 7 #[.pointer (some ⟨c, 0, none⟩)] w fun e w' => ∃ p s l c' k : Int, e = .returned (.agg #[.int .i64 p, .int .i64 s, .int .i64 l, .int .i64 c', .int .i64 k]) ∧ okS p s l c' k ∧ Dice B c w' ∧ Kept c w w' := by
  go_enter Try.func7, Try.ntmps7
  go_wp2_with fail
  have hb0 : Below w.heap.size w (w.alloc (Obj.cells #[.int .i64 0, .int .i64 0, .int .i64 0, .int .i64 0, .int .i64 0] 28)) := (Below.refl _ _).alloc (Nat.le_refl _) _
  have ar := At.new w #[.int .i64 0, .int .i64 0, .int .i64 0, .int .i64 0, .int .i64 0] 28
  have rc : w.heap.size ≠ c := by have := hc.lt; omega
  have hcb := hc.ge
  have hcl := hc.lt
  have k0 := Kept.of_below (c := c) hb0
  have hc0 := hc.keep hb0
  clear hc hb0
  refine (throw_any B c _ _ hc0 (by omega) (by omega)).mono ?_
  rintro e w1 ⟨x0, rfl, e0, hc1, k1⟩
  replace ar := ar.kept k1 rc
  replace k0 := k0.trans k1
  clear hc0 k1
  have hc0 := hc1
  clear hc1
  go_wp2_with fail
  refine (throw_any B c _ _ hc0 (by omega) (by omega)).mono ?_
  rintro e w1 ⟨x1, rfl, e1, hc1, k1⟩
  replace ar := ar.kept k1 rc
  replace k0 := k0.trans k1
  clear hc0 k1
  have hc0 := hc1
  clear hc1
  go_wp2_with fail
  refine (throw_any B c _ _ hc0 (by omega) (by omega)).mono ?_
  rintro e w1 ⟨x2, rfl, e2, hc1, k1⟩
  replace ar := ar.kept k1 rc
  replace k0 := k0.trans k1
  clear hc0 k1
  have hc0 := hc1
  clear hc1
  go_wp2_with fail
  refine (throw_any B c _ _ hc0 (by omega) (by omega)).mono ?_
  rintro e w1 ⟨x3, rfl, e3, hc1, k1⟩
  replace ar := ar.kept k1 rc
  replace k0 := k0.trans k1
  clear hc0 k1
  have hc0 := hc1
  clear hc1
  go_wp2_with fail
  refine (throw_any B c _ _ hc0 (by omega) (by omega)).mono ?_
  rintro e w1 ⟨x4, rfl, e4, hc1, k1⟩
  replace ar := ar.kept k1 rc
  replace k0 := k0.trans k1
  clear hc0 k1
  have hc0 := hc1
  clear hc1
  obtain ⟨c0, c1, c2, c3, c4, f0, f1, f2, f3, f4⟩ := ar.fiveD
  go_wp2
  exact pFin ar hc0 k0 rc (by omega) (Nat.le_refl _) (by rfl) (by unfold okS; omega)
end Go.Proofs.Ytljpkgloegafnaa
namespace Go.Proofs.Ytljpkgloegafnaa
open Go.RowKit
set_option linter.unusedVariables false
/-- The slice (g, n, c) holds just the words xs, in a block of which nothing is frozen. -/
structure Ws (w : World) (g n c : Nat) (xs : List Int) : Prop where
  len : xs.length = n
  own : w.ownsRow 0 26 1 (.slice (some ⟨g, 0, none⟩) n c) n (xs.map (Value.int .u64))
  bd : ∀ x ∈ xs, 0 ≤ x ∧ x ≤ 18446744073709551615
theorem Ws.lt {w : World} {g n c : Nat} {xs : List Int} (h : Ws w g n c xs) : g < w.heap.size := (World.ownsRow.lt h.own g rfl).2
theorem Ws.cell {w : World} {g n c : Nat} {xs : List Int} (h : Ws w g n c xs) (i : Nat) (hi : i < n) : w.cell? ⟨g, i, none⟩ = some (.int .u64 (xs.getD i 0)) := by
  have := World.ownsRow.cellAt h.own i (by omega)
  rw [this]
  simp [h.len, hi]
theorem Ws.frozen {w : World} {g n c : Nat} {xs : List Int} (h : Ws w g n c xs) (i : Nat) : w.frozen? ⟨g, i, none⟩ = false := World.ownsRow.frozenAt h.own i
theorem bd_getD {xs : List Int} (h : ∀ x ∈ xs, 0 ≤ x ∧ x ≤ 18446744073709551615) (i : Nat) : 0 ≤ xs.getD i 0 ∧ xs.getD i 0 ≤ 18446744073709551615 := by
  by_cases hi : i < xs.length
  · exact h _ (by simp [hi])
  · simp [List.getD, List.getElem?_eq_none (Nat.not_lt.1 hi)]
theorem Ws.bds {w : World} {g n c : Nat} {xs : List Int} (h : Ws w g n c xs) (i : Nat) : 0 ≤ xs.getD i 0 ∧ xs.getD i 0 ≤ 18446744073709551615 := bd_getD h.bd i
theorem Ws.of_block {w w' : World} {g n c : Nat} {xs : List Int} (h : Ws w g n c xs) (e : w'.heap[g]? = w.heap[g]?) : Ws w' g n c xs := by
  refine ⟨h.len, ⟨h.own.1, ?_⟩, h.bd⟩
  rcases h.own.2 with ⟨hv, h0⟩ | ⟨g', cap, cur, hv, h1, h2, h3⟩
  · cases hv
  · obtain ⟨⟨rfl⟩, -, -⟩ : (some (⟨g, 0, none⟩ : Addr) = some ⟨g', 0, none⟩) ∧ n = n ∧ c = cap := by simpa using hv
    exact .inr ⟨g, cap, cur, hv, h1, e.trans h2, h3⟩
theorem Ws.keep {w w' : World} {g n c : Nat} {xs : List Int} (h : Ws w g n c xs) (hb : Below w.heap.size w w') : Ws w' g n c xs := h.of_block (hb.block g h.lt)
theorem Ws.under {w w' : World} {B g n c : Nat} {xs : List Int} (h : Ws w g n c xs) (hb : Below B w w') (hB : g < B) : Ws w' g n c xs := h.of_block (hb.block g hB)
theorem Ws.kept {w w' : World} {b g n c : Nat} {xs : List Int} (h : Ws w g n c xs) (k : Kept b w w') (hb : g ≠ b) : Ws w' g n c xs := h.of_block (k.block g h.lt hb)
theorem Ws.other {w : World} {g n c : Nat} {xs : List Int} (h : Ws w g n c xs) {a : Addr} (ha : g ≠ a.block) (v : Value) : Ws (w.setCell a v) g n c xs := h.of_block (Below.heap_setCell _ _ _ _ ha)
theorem Ws.draw {w : World} {g n c : Nat} {xs : List Int} (h : Ws w g n c xs) (k : Nat) : Ws (w.drewN k) g n c xs := h.of_block rfl
theorem Ws.alloc {w : World} {g n c : Nat} {xs : List Int} (h : Ws w g n c xs) (o : Obj) : Ws (w.alloc o) g n c xs := h.of_block (Below.heap_alloc _ _ _ h.lt)
theorem Ws.set {w : World} {g n c : Nat} {xs : List Int} (h : Ws w g n c xs) (i : Nat) (x : Int) (hx : 0 ≤ x ∧ x ≤ 18446744073709551615) : Ws (w.setCell ⟨g, i, none⟩ (.int .u64 x)) g n c (xs.set i x) := by
  refine ⟨by simpa using h.len, ?_, fun y hy => ?_⟩
  · have := (World.ownsRow.stored h.own i (.int .u64 x)).1
    simpa [List.map_set] using this
  · rcases List.mem_or_eq_of_mem_set hy with hy | rfl
    · exact h.bd y hy
    · exact hx
theorem Ws.made (w : World) (n : Nat) (hn : n ≤ 1099511627776) : Ws (w.alloc (.cells (madeCells #[.int .u64 0] n) 26)) w.heap.size n n (List.replicate n 0) := by
  refine ⟨by simp, ⟨by simp, .inr ⟨w.heap.size, n, madeCells #[.int .u64 0] n, rfl, Nat.zero_le _, by show (w.heap.push _)[w.heap.size]? = _; simp, Nat.le_refl _, by unfold maxLen; omega, ?_, ?_⟩⟩, fun x hx => ?_⟩
  · rw [← Array.length_toList, toList_madeCells_one]; simp
  · rw [toList_madeCells_one]; simp
  · have := (List.mem_replicate.1 hx).2; omega
/-- At this address lie the words xs. -/
def Src (w : World) (a : Option Addr) (n : Nat) (xs : List Int) : Prop :=
  xs.length = n ∧ (n = 0 ∨ ∃ b o, a = some ⟨b, o, none⟩ ∧ b < w.heap.size ∧ ∀ i, i < n → w.cell? ⟨b, o + i, none⟩ = some (.int .u64 (xs.getD i 0)))
theorem Ws.src {w : World} {g n c : Nat} {xs : List Int} (h : Ws w g n c xs) : Src w (some ⟨g, 0, none⟩) n xs :=
  ⟨h.len, .inr ⟨g, 0, rfl, h.lt, fun i hi => by rw [Nat.zero_add]; exact h.cell i hi⟩⟩
theorem Src.keep {w w' : World} {a : Option Addr} {n : Nat} {xs : List Int} (h : Src w a n xs) (hb : Below w.heap.size w w') : Src w' a n xs := by
  refine ⟨h.1, ?_⟩
  rcases h.2 with h0 | ⟨b, o, rfl, hl, hc⟩
  · exact .inl h0
  · exact .inr ⟨b, o, rfl, Nat.lt_of_lt_of_le hl hb.size, fun i hi => (hb.cell (p := ⟨b, o + i, none⟩) hl).trans (hc i hi)⟩
theorem Src.kept {w w' : World} {c : Nat} {a : Option Addr} {n : Nat} {xs : List Int} (h : Src w a n xs) (hc : ∀ b o, a = some ⟨b, o, none⟩ → 0 < n → b ≠ c) (k : Kept c w w') : Src w' a n xs := by
  refine ⟨h.1, ?_⟩
  rcases h.2 with h0 | ⟨b, o, rfl, hl, hx⟩
  · exact .inl h0
  · by_cases h0 : n = 0
    · exact .inl h0
    · exact .inr ⟨b, o, rfl, Nat.lt_of_lt_of_le hl k.size, fun i hi => (k.cell hl (hc b o rfl (by omega))).trans (hx i hi)⟩
end Go.Proofs.Ytljpkgloegafnaa
namespace Go.Proofs.Ytljpkgloegafnaa
open Go.RowKit
set_option linter.unusedVariables false
theorem rett {b : Bool} (h : b = true) : Ending.returned (.bool true) = .returned (.bool b) := by rw [h]
theorem retf {b : Bool} (h : b = false) : Ending.returned (.bool false) = .returned (.bool b) := by rw [h]
theorem infoU : (Try.prog.info? 26).map (fun i => (i.zero, i.size, i.bytes)) = some (some (.int .u64 0), 1, 8) := by kernel_rfl
theorem take_put {xs : List Int} {i n : Nat} (hl : xs.length = n) (hi : i < n) : (xs.take i ++ List.replicate (n - i) 0).set i (xs.getD i 0) = xs.take (i + 1) ++ List.replicate (n - (i + 1)) 0 := by
  rw [show n - i = (n - (i + 1)) + 1 from by omega, List.replicate_succ, List.set_append_right _ _ (by simp; omega), List.take_add_one]
  have e : i - (xs.take i).length = 0 := by simp; omega
  rw [e]
  have h2 : xs[i]? = some (xs.getD i 0) := by simp [hl, hi]
  rw [h2]
  simp
set_option maxHeartbeats 1000000 in
theorem toU (a : Option Addr) (n cap : Nat) (xs : List Int) (w : World) (h : Src w a n xs) (bd : ∀ x ∈ xs, 0 ≤ x ∧ x ≤ 18446744073709551615) (hn : n ≤ 1048576) :
    Calls Try.prog 18 #[.slice a n cap] w fun e w' => e = .returned (.slice (some ⟨w.heap.size, 0, none⟩) n n) ∧ Ws w' w.heap.size n n xs ∧ Below w.heap.size w w' := by
  have hmk := run_make_row' (P := Try.prog) 30 26 (.int .u64 0) 8 Try.underlying30 infoU rfl .i64 .i64 n (by omega) (by omega)
  have hW := Ws.made w n (by omega)
  have hB : Below w.heap.size w (w.alloc (.cells (madeCells #[.int .u64 0] n) 26)) := (Below.refl _ _).alloc (Nat.le_refl _) _
  go_enter Try.func18, Try.ntmps18
  go_wp2
  obtain ⟨G, hG⟩ : ∃ G : Nat, Hid (G = w.heap.size) := ⟨_, rfl⟩
  rw [← hG.out]
  go_loopg [4] n (fun g y wr => ∃ i : Nat, i ≤ n ∧ g = n - i ∧ y = .int .i64 i ∧ Ws wr G n n (xs.take i ++ List.replicate (n - i) 0) ∧ Below G w wr)
  case atStart => exact ⟨0, Nat.zero_le _, rfl, rfl, by rw [hG.out]; simpa using hW, by rw [hG.out]; exact hB⟩
  case round =>
    clear hW hB hmk
    obtain ⟨i, i0, hg, rfl, hW, hB⟩ := hrel
    by_cases hi : i < n
    · have hi' : (i : Int) < n := by omega
      have hb0 := bd_getD bd i
      have hw := hW.set i (xs.getD i 0) hb0
      rw [take_put h.1 hi] at hw
      obtain ⟨b, o, rfl, hl, hc⟩ := h.2.resolve_left (by omega)
      have c0 : wr.cell? ⟨b, o + i, none⟩ = some (.int .u64 (xs.getD i 0)) := (hB.cell (p := ⟨b, o + i, none⟩) (by show b < G; rw [hG.out]; exact hl)).trans (hc i hi)
      have c1 := hW.cell i hi
      have f1 := hW.frozen i
      obtain ⟨x, hx⟩ : ∃ x : Int, xs.getD i 0 = x := ⟨_, rfl⟩
      rw [hx] at c0 hw
      go_wp2
      go_roundg (gk - 1)
      case measure => omega
      case rel => exact ⟨i + 1, by omega, by omega, by go_num, hw, hB.setCell (p := ⟨G, i, none⟩) (Nat.le_refl _) _⟩
    · obtain rfl : i = n := by omega
      go_wp2
      go_ret
      rw [← hG.out]
      refine ⟨rfl, ?_, hB⟩
      have e := h.1
      simpa [← e] using hW
set_option maxHeartbeats 1000000 in
theorem eqU (a b : Option Addr) (n m ca cb : Nat) (xs ys : List Int) (w : World) (h : Src w a n xs) (k : Src w b m ys) (hn : n ≤ 9223372036854775807) (hm : m ≤ 9223372036854775807) :
    Calls Try.prog 20 #[.slice a n ca, .slice b m cb] w fun e w' => e = .returned (.bool (decide (xs = ys))) ∧ Below w.heap.size w w' := by
  by_cases hnm : n = m
  · subst hnm
    go_enter Try.func20, Try.ntmps20
    go_wp2
    go_loopg [5] n (fun g y wr => ∃ i : Nat, i ≤ n ∧ g = n - i ∧ y = .int .i64 i ∧ (∀ j, j < i → xs.getD j 0 = ys.getD j 0) ∧ Below w.heap.size w wr)
    case atStart => exact ⟨0, Nat.zero_le _, rfl, rfl, fun j hj => by omega, Below.refl _ _⟩
    case round =>
      obtain ⟨i, i0, hg, rfl, hj, hB⟩ := hrel
      by_cases hi : i < n
      · have hi' : (i : Int) < n := by omega
        obtain ⟨b1, o1, rfl, hl1, hc1⟩ := h.2.resolve_left (by omega)
        obtain ⟨b2, o2, rfl, hl2, hc2⟩ := k.2.resolve_left (by omega)
        have c1 : wr.cell? ⟨b1, o1 + i, none⟩ = some (.int .u64 (xs.getD i 0)) := (hB.cell (p := ⟨b1, o1 + i, none⟩) hl1).trans (hc1 i hi)
        have c2 : wr.cell? ⟨b2, o2 + i, none⟩ = some (.int .u64 (ys.getD i 0)) := (hB.cell (p := ⟨b2, o2 + i, none⟩) hl2).trans (hc2 i hi)
        obtain ⟨x, hx⟩ : ∃ x : Int, xs.getD i 0 = x := ⟨_, rfl⟩
        obtain ⟨y, hy⟩ : ∃ y : Int, ys.getD i 0 = y := ⟨_, rfl⟩
        rw [hx] at c1
        rw [hy] at c2
        have HJ : Hid (∀ j, j < i → xs.getD j 0 = ys.getD j 0) := hj
        have HX : Hid (xs.getD i 0 = x) := hx
        have HY : Hid (ys.getD i 0 = y) := hy
        clear hj hx hy
        by_cases hxy : x = y
        · subst hxy
          go_wp2
          go_region
          go_wp2
          go_roundg (gk - 1)
          case measure => omega
          case rel =>
            refine ⟨i + 1, by omega, by omega, by go_num, fun j hj => ?_, hB.drew⟩
            by_cases hji : j = i
            · subst hji; rw [HX.out, HY.out]
            · exact HJ.out j (by omega)
        · go_wp2
          go_region
          go_wp2
          go_ret
          refine ⟨retf (decide_eq_false ?_), hB.drew⟩
          rintro rfl
          exact hxy (HX.out.symm.trans HY.out)
      · obtain rfl : i = n := by omega
        go_wp2
        go_ret
        refine ⟨rett (decide_eq_true ?_), hB⟩
        refine List.ext_getElem (h.1.trans k.1.symm) fun j h1 h2 => ?_
        have := hj j (by have := h.1; omega)
        simpa [h1, h2] using this
  · have e : ¬ (n : Int) = m := by omega
    go_enter Try.func20, Try.ntmps20
    go_wp2
    go_ret
    refine ⟨retf (decide_eq_false ?_), Below.refl _ _⟩
    rintro rfl
    exact hnm (h.1.symm.trans k.1)
/-- The marks from k on. -/
def marks (k : Int) (n : Nat) : List Int := (List.range n).map (fun (i : Nat) => k + (i : Int))
theorem marks_length (k : Int) (n : Nat) : (marks k n).length = n := by simp [marks]
theorem marks_getD (k : Int) (n i : Nat) (h : i < n) : (marks k n).getD i 0 = k + i := by simp [marks, h]
theorem marks_set {xs : List Int} {i n : Nat} (k : Int) (hl : xs.length = n) (hi : i < n) : (marks k i ++ xs.drop i).set i (k + i) = marks k (i + 1) ++ xs.drop (i + 1) := by
  rw [List.set_append_right _ _ (by rw [marks_length]; exact Nat.le_refl _)]
  rw [marks_length, Nat.sub_self]
  have hd : xs.drop i = xs[i]'(by omega) :: xs.drop (i + 1) := List.drop_eq_getElem_cons (by omega)
  rw [hd, List.set_cons_zero]
  simp [marks, List.range_succ]
end Go.Proofs.Ytljpkgloegafnaa
