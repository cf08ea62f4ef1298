/-
  Birth, on both sides.
-/
import Derived.Test.YtooljeddnfkphaaDoorHan3
namespace Go.Proofs.YtooljeddnfkphaaDoor
open Go.RowKit
set_option linter.unusedVariables false
def Hd.born (h : Hd) : Hd := { Hd.zero with up := true, life := h.life + 1 }
def Hd.may (h : Hd) : Bool := decide (h.up = false ∧ 0 ≤ h.life ∧ h.life ≤ 65534)
def Hd.raised (h : Hd) : Hd := if h.may = true then h.born else h
theorem bBorn (h : Hd) : Tryd.prog.built 31 [(0, .bool true), (4, .int .i64 (h.life + 1))] = some h.born.ar := by kernel_rfl
theorem slices (W : World) (xs : List Int) (t : TypeId) (n : Nat) (hn : xs.length = n) : Hid (∀ i, i < n → (W.alloc (.cells (xs.map (Value.int .i64)).toArray t)).cell? ⟨W.heap.size, i, none⟩ = some (.int .i64 (xs.getD i 0))) := by
  show ∀ i, i < n → _
  intro i hi
  rw [(At.new W _ t).cell i]
  simp [hn, hi]
end Go.Proofs.YtooljeddnfkphaaDoor
