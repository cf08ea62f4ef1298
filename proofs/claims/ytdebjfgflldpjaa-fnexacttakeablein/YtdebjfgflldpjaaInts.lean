/-
  Slices of numbers (int64): what they hold, and that it stays; the laws' helpers over them.
-/
import Derived.Test.YtdebjfgflldpjaaWds2
namespace Go.Proofs.Ytdebjfgflldpjaa
open Go.RowKit
set_option linter.unusedVariables false
/-- The slice (g, n, c) holds just the words xs, in a block of which nothing is frozen. -/
structure Is (w : World) (g n c : Nat) (xs : List Int) : Prop where
  len : xs.length = n
  own : w.ownsRow 0 2 1 (.slice (some ⟨g, 0, none⟩) n c) n (xs.map (Value.int .i64))
theorem Is.lt {w : World} {g n c : Nat} {xs : List Int} (h : Is w g n c xs) : g < w.heap.size := (World.ownsRow.lt h.own g rfl).2
theorem Is.cell {w : World} {g n c : Nat} {xs : List Int} (h : Is w g n c xs) (i : Nat) (hi : i < n) : w.cell? ⟨g, i, none⟩ = some (.int .i64 (xs.getD i 0)) := by
  have := World.ownsRow.cellAt h.own i (by omega)
  rw [this]
  simp [h.len, hi]
theorem Is.frozen {w : World} {g n c : Nat} {xs : List Int} (h : Is w g n c xs) (i : Nat) : w.frozen? ⟨g, i, none⟩ = false := World.ownsRow.frozenAt h.own i
theorem Is.of_block {w w' : World} {g n c : Nat} {xs : List Int} (h : Is w g n c xs) (e : w'.heap[g]? = w.heap[g]?) : Is w' g n c xs := by
  refine ⟨h.len, ⟨h.own.1, ?_⟩⟩
  rcases h.own.2 with ⟨hv, h0⟩ | ⟨g', cap, cur, hv, h1, h2, h3⟩
  · cases hv
  · obtain ⟨⟨rfl⟩, -, -⟩ : (some (⟨g, 0, none⟩ : Addr) = some ⟨g', 0, none⟩) ∧ n = n ∧ c = cap := by simpa using hv
    exact .inr ⟨g, cap, cur, hv, h1, e.trans h2, h3⟩
theorem Is.keep {w w' : World} {g n c : Nat} {xs : List Int} (h : Is w g n c xs) (hb : Below w.heap.size w w') : Is w' g n c xs := h.of_block (hb.block g h.lt)
theorem Is.under {w w' : World} {B g n c : Nat} {xs : List Int} (h : Is w g n c xs) (hb : Below B w w') (hB : g < B) : Is w' g n c xs := h.of_block (hb.block g hB)
theorem Is.kept {w w' : World} {b g n c : Nat} {xs : List Int} (h : Is w g n c xs) (k : Kept b w w') (hb : g ≠ b) : Is w' g n c xs := h.of_block (k.block g h.lt hb)
theorem Is.other {w : World} {g n c : Nat} {xs : List Int} (h : Is w g n c xs) {a : Addr} (ha : g ≠ a.block) (v : Value) : Is (w.setCell a v) g n c xs := h.of_block (Below.heap_setCell _ _ _ _ ha)
theorem Is.draw {w : World} {g n c : Nat} {xs : List Int} (h : Is w g n c xs) (k : Nat) : Is (w.drewN k) g n c xs := h.of_block rfl
theorem Is.alloc {w : World} {g n c : Nat} {xs : List Int} (h : Is w g n c xs) (o : Obj) : Is (w.alloc o) g n c xs := h.of_block (Below.heap_alloc _ _ _ h.lt)
theorem Is.set {w : World} {g n c : Nat} {xs : List Int} (h : Is w g n c xs) (i : Nat) (x : Int) : Is (w.setCell ⟨g, i, none⟩ (.int .i64 x)) g n c (xs.set i x) := by
  refine ⟨by simpa using h.len, ?_⟩
  have := (World.ownsRow.stored h.own i (.int .i64 x)).1
  simpa [List.map_set] using this
theorem Is.made (w : World) (n : Nat) (hn : n ≤ 1099511627776) : Is (w.alloc (.cells (madeCells #[.int .i64 0] n) 2)) w.heap.size n n (List.replicate n 0) := by
  refine ⟨by simp, ⟨by simp, .inr ⟨w.heap.size, n, madeCells #[.int .i64 0] n, rfl, Nat.zero_le _, by show (w.heap.push _)[w.heap.size]? = _; simp, Nat.le_refl _, by unfold maxLen; omega, ?_, ?_⟩⟩⟩
  · rw [← Array.length_toList, toList_madeCells_one]; simp
  · rw [toList_madeCells_one]; simp
/-- At this address lie the words xs. -/
def Nsrc (w : World) (a : Option Addr) (n : Nat) (xs : List Int) : Prop :=
  xs.length = n ∧ (n = 0 ∨ ∃ b o, a = some ⟨b, o, none⟩ ∧ b < w.heap.size ∧ ∀ i, i < n → w.cell? ⟨b, o + i, none⟩ = some (.int .i64 (xs.getD i 0)))
theorem Is.src {w : World} {g n c : Nat} {xs : List Int} (h : Is w g n c xs) : Nsrc w (some ⟨g, 0, none⟩) n xs :=
  ⟨h.len, .inr ⟨g, 0, rfl, h.lt, fun i hi => by rw [Nat.zero_add]; exact h.cell i hi⟩⟩
theorem Nsrc.keep {w w' : World} {a : Option Addr} {n : Nat} {xs : List Int} (h : Nsrc w a n xs) (hb : Below w.heap.size w w') : Nsrc w' a n xs := by
  refine ⟨h.1, ?_⟩
  rcases h.2 with h0 | ⟨b, o, rfl, hl, hc⟩
  · exact .inl h0
  · exact .inr ⟨b, o, rfl, Nat.lt_of_lt_of_le hl hb.size, fun i hi => (hb.cell (p := ⟨b, o + i, none⟩) hl).trans (hc i hi)⟩
theorem Nsrc.kept {w w' : World} {c : Nat} {a : Option Addr} {n : Nat} {xs : List Int} (h : Nsrc w a n xs) (hc : ∀ b o, a = some ⟨b, o, none⟩ → 0 < n → b ≠ c) (k : Kept c w w') : Nsrc w' a n xs := by
  refine ⟨h.1, ?_⟩
  rcases h.2 with h0 | ⟨b, o, rfl, hl, hx⟩
  · exact .inl h0
  · by_cases h0 : n = 0
    · exact .inl h0
    · exact .inr ⟨b, o, rfl, Nat.lt_of_lt_of_le hl k.size, fun i hi => (k.cell hl (hc b o rfl (by omega))).trans (hx i hi)⟩
theorem infoI : (Try.prog.info? 2).map (fun i => (i.zero, i.size, i.bytes)) = some (some (.int .i64 0), 1, 8) := by kernel_rfl
end Go.Proofs.Ytdebjfgflldpjaa
