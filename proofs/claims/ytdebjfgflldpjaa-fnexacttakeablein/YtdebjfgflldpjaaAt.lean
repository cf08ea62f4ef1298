/-
  Blocks of the call's own, by what they hold.
-/
import Derived.Test.YtdebjfgflldpjaaCur
import Derived.Laws.Rows
namespace Go.Proofs.Ytdebjfgflldpjaa
open Go.RowKit
set_option linter.unusedVariables false
/-- Block b holds just these cells, none of them frozen. -/
structure At (w : World) (b : Nat) (cs : Array Value) (t : TypeId) : Prop where
  is : w.heap[b]? = some (.cells cs t (0, 0))
theorem At.lt {w : World} {b : Nat} {cs : Array Value} {t : TypeId} (h : At w b cs t) : b < w.heap.size := by
  have := h.is
  exact (Array.getElem?_eq_some_iff.1 this).1
theorem At.cell {w : World} {b : Nat} {cs : Array Value} {t : TypeId} (h : At w b cs t) (i : Nat) : w.cell? ⟨b, i, none⟩ = cs[i]? := by
  simp [World.cell?, h.is]
theorem At.frozen {w : World} {b : Nat} {cs : Array Value} {t : TypeId} (h : At w b cs t) (i : Nat) : w.frozen? ⟨b, i, none⟩ = false := by
  simp [World.frozen?, h.is]
theorem At.new (w : World) (cs : Array Value) (t : TypeId) : At (w.alloc (.cells cs t)) w.heap.size cs t := ⟨by show (w.heap.push _)[w.heap.size]? = _; simp⟩
theorem At.keep {w w' : World} {b : Nat} {cs : Array Value} {t : TypeId} (h : At w b cs t) (hb : Below w.heap.size w w') : At w' b cs t := ⟨(hb.block b h.lt).trans h.is⟩
theorem At.under {w w' : World} {B b : Nat} {cs : Array Value} {t : TypeId} (h : At w b cs t) (hb : Below B w w') (hB : b < B) : At w' b cs t := ⟨(hb.block b hB).trans h.is⟩
theorem At.kept {w w' : World} {b c : Nat} {cs : Array Value} {t : TypeId} (h : At w b cs t) (k : Kept c w w') (hc : b ≠ c) : At w' b cs t := ⟨(k.block b h.lt hc).trans h.is⟩
theorem At.set {w : World} {b : Nat} {cs : Array Value} {t : TypeId} (h : At w b cs t) (i : Nat) (v : Value) : At (w.setCell ⟨b, i, none⟩ v) b (cs.setIfInBounds i v) t := by
  constructor
  have hl := h.lt
  have e := h.is
  simp only [World.setCell, Array.getElem?_modify, e]
  simp
theorem At.other {w : World} {b : Nat} {cs : Array Value} {t : TypeId} (h : At w b cs t) {a : Addr} (ha : b ≠ a.block) (v : Value) : At (w.setCell a v) b cs t := ⟨(Below.heap_setCell _ _ _ _ ha).trans h.is⟩
theorem At.draw {w : World} {b : Nat} {cs : Array Value} {t : TypeId} (h : At w b cs t) (n : Nat) : At (w.drewN n) b cs t := ⟨h.is⟩
theorem At.four {w : World} {b : Nat} {x0 x1 x2 x3 : Value} {t : TypeId} (h : At w b #[x0, x1, x2, x3] t) :
    w.cell? ⟨b, 0, none⟩ = some x0 ∧ w.cell? ⟨b, 1, none⟩ = some x1 ∧ w.cell? ⟨b, 2, none⟩ = some x2 ∧ w.cell? ⟨b, 3, none⟩ = some x3 ∧
    w.frozen? ⟨b, 0, none⟩ = false ∧ w.frozen? ⟨b, 1, none⟩ = false ∧ w.frozen? ⟨b, 2, none⟩ = false ∧ w.frozen? ⟨b, 3, none⟩ = false :=
  ⟨h.cell 0, h.cell 1, h.cell 2, h.cell 3, h.frozen 0, h.frozen 1, h.frozen 2, h.frozen 3⟩
/-- A store into a block that was not there when the call began. -/
theorem Kept.put {c : Nat} {a w : World} (h : Kept c a w) {p : Addr} (hp : a.heap.size ≤ p.block) (v : Value) : Kept c a (w.setCell p v) :=
  ⟨h.os, h.tape, h.output, by simpa [World.setCell] using h.size, fun k hk hc => (Below.heap_setCell _ _ _ _ (by omega)).trans (h.block k hk hc)⟩
/-- A store into another block than the cursor's. -/
theorem Cur.other {B c : Nat} {w : World} (h : Cur B c w) {p : Addr} (hp : p.block ≠ c) (hB : B ≤ p.block) (v : Value) : Cur B c (w.setCell p v) := by
  obtain ⟨ge, lt, a, len, cap, i, x, h0, h1, h2, f1, f2, hl, hr⟩ := h
  have e : (w.setCell p v).heap[c]? = w.heap[c]? := Below.heap_setCell _ _ _ _ (fun h => hp h.symm)
  have hcell : ∀ o, (w.setCell p v).cell? ⟨c, o, none⟩ = w.cell? ⟨c, o, none⟩ := fun o => World.cell?_of_block (w := w) e
  have hfr : ∀ o, (w.setCell p v).frozen? ⟨c, o, none⟩ = w.frozen? ⟨c, o, none⟩ := fun o => World.frozen?_of_block (w := w) e
  refine ⟨ge, by simpa [World.setCell] using lt, a, len, cap, i, x, (hcell 0).trans h0, (hcell 1).trans h1, (hcell 2).trans h2, (hfr 1).trans f1, (hfr 2).trans f2, hl, ?_⟩
  rcases hr with rfl | ⟨b, off, rfl, hbb, hz⟩
  · exact .inl rfl
  · refine .inr ⟨b, off, rfl, hbb, fun j hj => ?_⟩
    obtain ⟨z, h1, h2⟩ := hz j hj
    exact ⟨z, (World.cell?_of_block (w := w) (Below.heap_setCell _ _ _ _ (by show b ≠ _; omega))).trans h1, h2⟩
end Go.Proofs.Ytdebjfgflldpjaa
