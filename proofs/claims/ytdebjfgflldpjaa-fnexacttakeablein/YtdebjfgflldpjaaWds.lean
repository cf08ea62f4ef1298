/-
  Slices of words: what they hold, and that it stays.
-/
import Derived.Test.YtdebjfgflldpjaaAt
import Derived.Laws.OwnMore
import Derived.OwnWalk
namespace Go.Proofs.Ytdebjfgflldpjaa
open Go.RowKit
set_option linter.unusedVariables false
/-- The slice (g, n, c) holds just the words xs, in a block of which nothing is frozen. -/
structure Ws (w : World) (g n c : Nat) (xs : List Int) : Prop where
  len : xs.length = n
  own : w.ownsRow 0 34 1 (.slice (some ⟨g, 0, none⟩) n c) n (xs.map (Value.int .u64))
  bd : ∀ x ∈ xs, 0 ≤ x ∧ x ≤ 18446744073709551615
theorem Ws.lt {w : World} {g n c : Nat} {xs : List Int} (h : Ws w g n c xs) : g < w.heap.size := (World.ownsRow.lt h.own g rfl).2
theorem Ws.cell {w : World} {g n c : Nat} {xs : List Int} (h : Ws w g n c xs) (i : Nat) (hi : i < n) : w.cell? ⟨g, i, none⟩ = some (.int .u64 (xs.getD i 0)) := by
  have := World.ownsRow.cellAt h.own i (by omega)
  rw [this]
  simp [h.len, hi]
theorem Ws.frozen {w : World} {g n c : Nat} {xs : List Int} (h : Ws w g n c xs) (i : Nat) : w.frozen? ⟨g, i, none⟩ = false := World.ownsRow.frozenAt h.own i
theorem bd_getD {xs : List Int} (h : ∀ x ∈ xs, 0 ≤ x ∧ x ≤ 18446744073709551615) (i : Nat) : 0 ≤ xs.getD i 0 ∧ xs.getD i 0 ≤ 18446744073709551615 := by
  by_cases hi : i < xs.length
  · exact h _ (by simp [hi])
  · simp [List.getD, List.getElem?_eq_none (Nat.not_lt.1 hi)]
theorem Ws.bds {w : World} {g n c : Nat} {xs : List Int} (h : Ws w g n c xs) (i : Nat) : 0 ≤ xs.getD i 0 ∧ xs.getD i 0 ≤ 18446744073709551615 := bd_getD h.bd i
theorem Ws.of_block {w w' : World} {g n c : Nat} {xs : List Int} (h : Ws w g n c xs) (e : w'.heap[g]? = w.heap[g]?) : Ws w' g n c xs := by
  refine ⟨h.len, ⟨h.own.1, ?_⟩, h.bd⟩
  rcases h.own.2 with ⟨hv, h0⟩ | ⟨g', cap, cur, hv, h1, h2, h3⟩
  · cases hv
  · obtain ⟨⟨rfl⟩, -, -⟩ : (some (⟨g, 0, none⟩ : Addr) = some ⟨g', 0, none⟩) ∧ n = n ∧ c = cap := by simpa using hv
    exact .inr ⟨g, cap, cur, hv, h1, e.trans h2, h3⟩
theorem Ws.keep {w w' : World} {g n c : Nat} {xs : List Int} (h : Ws w g n c xs) (hb : Below w.heap.size w w') : Ws w' g n c xs := h.of_block (hb.block g h.lt)
theorem Ws.under {w w' : World} {B g n c : Nat} {xs : List Int} (h : Ws w g n c xs) (hb : Below B w w') (hB : g < B) : Ws w' g n c xs := h.of_block (hb.block g hB)
theorem Ws.kept {w w' : World} {b g n c : Nat} {xs : List Int} (h : Ws w g n c xs) (k : Kept b w w') (hb : g ≠ b) : Ws w' g n c xs := h.of_block (k.block g h.lt hb)
theorem Ws.other {w : World} {g n c : Nat} {xs : List Int} (h : Ws w g n c xs) {a : Addr} (ha : g ≠ a.block) (v : Value) : Ws (w.setCell a v) g n c xs := h.of_block (Below.heap_setCell _ _ _ _ ha)
theorem Ws.draw {w : World} {g n c : Nat} {xs : List Int} (h : Ws w g n c xs) (k : Nat) : Ws (w.drewN k) g n c xs := h.of_block rfl
theorem Ws.alloc {w : World} {g n c : Nat} {xs : List Int} (h : Ws w g n c xs) (o : Obj) : Ws (w.alloc o) g n c xs := h.of_block (Below.heap_alloc _ _ _ h.lt)
theorem Ws.set {w : World} {g n c : Nat} {xs : List Int} (h : Ws w g n c xs) (i : Nat) (x : Int) (hx : 0 ≤ x ∧ x ≤ 18446744073709551615) : Ws (w.setCell ⟨g, i, none⟩ (.int .u64 x)) g n c (xs.set i x) := by
  refine ⟨by simpa using h.len, ?_, fun y hy => ?_⟩
  · have := (World.ownsRow.stored h.own i (.int .u64 x)).1
    simpa [List.map_set] using this
  · rcases List.mem_or_eq_of_mem_set hy with hy | rfl
    · exact h.bd y hy
    · exact hx
theorem Ws.made (w : World) (n : Nat) (hn : n ≤ 1099511627776) : Ws (w.alloc (.cells (madeCells #[.int .u64 0] n) 34)) w.heap.size n n (List.replicate n 0) := by
  refine ⟨by simp, ⟨by simp, .inr ⟨w.heap.size, n, madeCells #[.int .u64 0] n, rfl, Nat.zero_le _, by show (w.heap.push _)[w.heap.size]? = _; simp, Nat.le_refl _, by unfold maxLen; omega, ?_, ?_⟩⟩, fun x hx => ?_⟩
  · rw [← Array.length_toList, toList_madeCells_one]; simp
  · rw [toList_madeCells_one]; simp
  · have := (List.mem_replicate.1 hx).2; omega
/-- At this address lie the words xs. -/
def Src (w : World) (a : Option Addr) (n : Nat) (xs : List Int) : Prop :=
  xs.length = n ∧ (n = 0 ∨ ∃ b o, a = some ⟨b, o, none⟩ ∧ b < w.heap.size ∧ ∀ i, i < n → w.cell? ⟨b, o + i, none⟩ = some (.int .u64 (xs.getD i 0)))
theorem Ws.src {w : World} {g n c : Nat} {xs : List Int} (h : Ws w g n c xs) : Src w (some ⟨g, 0, none⟩) n xs :=
  ⟨h.len, .inr ⟨g, 0, rfl, h.lt, fun i hi => by rw [Nat.zero_add]; exact h.cell i hi⟩⟩
theorem Src.keep {w w' : World} {a : Option Addr} {n : Nat} {xs : List Int} (h : Src w a n xs) (hb : Below w.heap.size w w') : Src w' a n xs := by
  refine ⟨h.1, ?_⟩
  rcases h.2 with h0 | ⟨b, o, rfl, hl, hc⟩
  · exact .inl h0
  · exact .inr ⟨b, o, rfl, Nat.lt_of_lt_of_le hl hb.size, fun i hi => (hb.cell (p := ⟨b, o + i, none⟩) hl).trans (hc i hi)⟩
theorem Src.kept {w w' : World} {c : Nat} {a : Option Addr} {n : Nat} {xs : List Int} (h : Src w a n xs) (hc : ∀ b o, a = some ⟨b, o, none⟩ → 0 < n → b ≠ c) (k : Kept c w w') : Src w' a n xs := by
  refine ⟨h.1, ?_⟩
  rcases h.2 with h0 | ⟨b, o, rfl, hl, hx⟩
  · exact .inl h0
  · by_cases h0 : n = 0
    · exact .inl h0
    · exact .inr ⟨b, o, rfl, Nat.lt_of_lt_of_le hl k.size, fun i hi => (k.cell hl (hc b o rfl (by omega))).trans (hx i hi)⟩
end Go.Proofs.Ytdebjfgflldpjaa
