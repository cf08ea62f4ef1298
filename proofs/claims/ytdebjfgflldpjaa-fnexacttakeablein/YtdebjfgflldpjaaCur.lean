/-
  The model's cursor over a code: what drawing one byte does.
-/
import Derived.Test.YtdebjfgflldpjaaChecked
import Derived.Test.YtdebjfgflldpjaaNums
import Derived.Deep.QuietTactic
import Derived.BigQuiet
namespace Go.Proofs.Ytdebjfgflldpjaa
open Go.RowKit
set_option linter.unusedVariables false

/-- Everything but block c is as it was. -/
structure Kept (c : Nat) (w w' : World) : Prop where
  os : w'.os = w.os
  tape : w'.tape = w.tape
  output : w'.output = w.output
  size : w.heap.size ≤ w'.heap.size
  block : ∀ k, k < w.heap.size → k ≠ c → w'.heap[k]? = w.heap[k]?
theorem Kept.refl (c : Nat) (w : World) : Kept c w w := ⟨rfl, rfl, rfl, Nat.le_refl _, fun _ _ _ => rfl⟩
theorem Kept.trans {c : Nat} {a b d : World} (h : Kept c a b) (k : Kept c b d) : Kept c a d :=
  ⟨k.os.trans h.os, k.tape.trans h.tape, k.output.trans h.output, Nat.le_trans h.size k.size, fun i hi hc => (k.block i (Nat.lt_of_lt_of_le hi h.size) hc).trans (h.block i hi hc)⟩
theorem Kept.of_below {c : Nat} {w w' : World} (h : Below w.heap.size w w') : Kept c w w' := ⟨h.os, h.tape, h.output, h.size, fun k hk _ => h.block k hk⟩
theorem Kept.below {c B : Nat} {w w' : World} (h : Kept c w w') (hc : B ≤ c) (hB : B ≤ w.heap.size) : Below B w w' :=
  ⟨h.os, h.tape, h.output, h.size, fun k hk => h.block k (by omega) (by omega)⟩
theorem Kept.drew {c : Nat} {a w : World} (h : Kept c a w) : Kept c a w.drew := ⟨h.os, h.tape, h.output, h.size, h.block⟩
theorem Kept.drewN {c : Nat} {a w : World} (h : Kept c a w) (n : Nat) : Kept c a (w.drewN n) := ⟨h.os, h.tape, h.output, h.size, h.block⟩
theorem Kept.set {c : Nat} {a w : World} (h : Kept c a w) (o : Nat) (v : Value) : Kept c a (w.setCell ⟨c, o, none⟩ v) :=
  h.trans ⟨rfl, rfl, rfl, by simp [World.setCell], fun k _ hk => Below.heap_setCell _ _ _ _ hk⟩
theorem Kept.cell {c : Nat} {w w' : World} (h : Kept c w w') {b o : Nat} (hb : b < w.heap.size) (hc : b ≠ c) : w'.cell? ⟨b, o, none⟩ = w.cell? ⟨b, o, none⟩ :=
  World.cell?_of_block (w := w) (h.block b hb hc)

theorem sand8 (x : Int) : bits .and .i64 x 255 = x % 256 := by
  show IntKind.i64.wrap (((BitVec.ofInt 64 x &&& BitVec.ofInt 64 255).toNat : Nat) : Int) = _
  rw [BitVec.toNat_and, BitVec.toNat_ofInt, BitVec.toNat_ofInt, show ((255 : Int) % (2 ^ 64 : Nat)).toNat = 2 ^ 8 - 1 from by decide, Nat.and_two_pow_sub_one_eq_mod, IntKind.wrap_i64]
  omega

/-- The bytes of a code that came in: below block B, each a byte. -/
def Row (B : Nat) (w : World) (a : Option Addr) (len : Nat) : Prop :=
  len = 0 ∨ ∃ b off, a = some ⟨b, off, none⟩ ∧ b < B ∧ ∀ j, j < len → ∃ z : Int, w.cell? ⟨b, off + j, none⟩ = some (.int .u8 z) ∧ 0 ≤ z ∧ z ≤ 255
theorem Row.kept {B c : Nat} {w w' : World} {a : Option Addr} {len : Nat} (h : Row B w a len) (k : Kept c w w') (hc : B ≤ c) (hB : B ≤ w.heap.size) : Row B w' a len := by
  rcases h with rfl | ⟨b, off, rfl, hb, hz⟩
  · exact .inl rfl
  · refine .inr ⟨b, off, rfl, hb, fun j hj => ?_⟩
    obtain ⟨z, h1, h2⟩ := hz j hj
    exact ⟨z, (k.cell (by omega) (by omega)).trans h1, h2⟩

/-- A cursor in block c, from B on. -/
structure Cur (B c : Nat) (w : World) : Prop where
  ge : B ≤ c
  lt : c < w.heap.size
  is : ∃ (a : Option Addr) (len cap i : Nat) (h : Int), w.cell? ⟨c, 0, none⟩ = some (.slice a len cap) ∧ w.cell? ⟨c, 1, none⟩ = some (.int .i64 i) ∧ w.cell? ⟨c, 2, none⟩ = some (.int .i64 h) ∧
    w.frozen? ⟨c, 1, none⟩ = false ∧ w.frozen? ⟨c, 2, none⟩ = false ∧ len ≤ 4096 ∧ Row B w a len
theorem Cur.keep {B c : Nat} {w w' : World} (h : Cur B c w) (hb : Below w.heap.size w w') : Cur B c w' := by
  obtain ⟨ge, lt, a, len, cap, i, x, h0, h1, h2, f1, f2, hl, hr⟩ := h
  refine ⟨ge, Nat.lt_of_lt_of_le lt hb.size, a, len, cap, i, x, (hb.cell (p := ⟨c, 0, none⟩) lt).trans h0, (hb.cell (p := ⟨c, 1, none⟩) lt).trans h1, (hb.cell (p := ⟨c, 2, none⟩) lt).trans h2, (hb.frozen (p := ⟨c, 1, none⟩) lt).trans f1, (hb.frozen (p := ⟨c, 2, none⟩) lt).trans f2, hl, ?_⟩
  rcases hr with rfl | ⟨b, off, rfl, hbb, hz⟩
  · exact .inl rfl
  · refine .inr ⟨b, off, rfl, hbb, fun j hj => ?_⟩
    obtain ⟨z, h1, h2⟩ := hz j hj
    exact ⟨z, (hb.cell (p := ⟨b, off + j, none⟩) (by show b < _; omega)).trans h1, h2⟩

end Go.Proofs.Ytdebjfgflldpjaa
