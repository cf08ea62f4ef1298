/-
  What the functions of the words' chapter do, one contract a function: packing, unpacking, asking, and the model's own.
-/
import Derived.Test.YtdebjfgflldpjaaChecked
import Derived.Test.YtdebjfgflldpjaaNums
namespace Go.Proofs.Ytdebjfgflldpjaa
open Go.RowKit
set_option linter.unusedVariables false
set_option maxHeartbeats 400000 in
theorem iUnpack (x : Int) (h0 : 0 ≤ x) (h1 : x ≤ 18446744073709551615) (w : World) :
    Calls Try.prog 39 #[.int .u64 x] w fun e w' => e = .returned (.agg #[.int .i64 (uK x), .int .i64 (uP x), .int .i64 (uI x), .int .i64 (uS x)]) ∧ Below w.heap.size w w' := by
  go_enter Try.func39, Try.ntmps39
  go_wp2
  go_returns
  refine ⟨ret_word ?_ ?_ ?_ ?_, by go_grown⟩
  · rw [band8]; unfold wrap64 uK; omega
  · rw [band8]; unfold wrap64 uP; omega
  · rw [band16]; unfold wrap64 uI; omega
  · rw [band32]; unfold wrap64 uS; omega
set_option maxHeartbeats 400000 in
theorem sUnpack (x : Int) (h0 : 0 ≤ x) (h1 : x ≤ 18446744073709551615) (w : World) :
    Calls Try.prog 25 #[.int .u64 x] w fun e w' => e = .returned (.agg #[.int .i64 (uK x), .int .i64 (uP x), .int .i64 (uI x), .int .i64 (uS x)]) ∧ Below w.heap.size w w' := by
  go_enter Try.func25, Try.ntmps25
  go_wp2
  go_returns
  refine ⟨ret_word ?_ ?_ ?_ ?_, by go_grown⟩
  · unfold uK; omega
  · unfold uP; omega
  · unfold uI; omega
  · unfold uS; omega
/-- Four cells of a block that is there. -/
structure Box4 (w : World) (b : Nat) (x0 x1 x2 x3 : Value) : Prop where
  lt : b < w.heap.size
  c0 : w.cell? ⟨b, 0, none⟩ = some x0
  c1 : w.cell? ⟨b, 1, none⟩ = some x1
  c2 : w.cell? ⟨b, 2, none⟩ = some x2
  c3 : w.cell? ⟨b, 3, none⟩ = some x3
theorem Box4.new (w : World) (x0 x1 x2 x3 : Value) (t : TypeId) : Box4 (w.alloc (.cells #[x0, x1, x2, x3] t)) w.heap.size x0 x1 x2 x3 :=
  ⟨by simp, by go_simp, by go_simp, by go_simp, by go_simp⟩
theorem Box4.keep {w w' : World} {b : Nat} {x0 x1 x2 x3 : Value} (h : Box4 w b x0 x1 x2 x3) (hb : Below w.heap.size w w') : Box4 w' b x0 x1 x2 x3 :=
  ⟨Nat.lt_of_lt_of_le h.lt hb.size, (hb.cell (p := ⟨b, 0, none⟩) h.lt).trans h.c0, (hb.cell (p := ⟨b, 1, none⟩) h.lt).trans h.c1, (hb.cell (p := ⟨b, 2, none⟩) h.lt).trans h.c2, (hb.cell (p := ⟨b, 3, none⟩) h.lt).trans h.c3⟩
theorem Box4.draw {w : World} {b : Nat} {x0 x1 x2 x3 : Value} (h : Box4 w b x0 x1 x2 x3) : Box4 w.drew b x0 x1 x2 x3 := ⟨h.lt, h.c0, h.c1, h.c2, h.c3⟩

end Go.Proofs.Ytdebjfgflldpjaa
