/-
  The pages of an arena's words: what wordsOf makes of a list.
-/
import Derived.Test.YtjimmfnloeecjaaAre
import Derived.Deep.RegionHeld3
import Derived.Deep.AppendLies
import Derived.Deep.MidRow
import Derived.Laws.CopyOwn
import Derived.Deep.LoopGhost
namespace Go.Proofs.Ytjimmfnloeecjaa
open Go.RowKit
set_option linter.unusedVariables false
theorem infoP : (Try.prog.info? 63).map (fun i => (i.zero, i.size, i.bytes)) = some (some (.pointer none), 1, 8) := by kernel_rfl
/-- The words of page i, 0 behind the list's end. -/
def chunk (xs : List Int) (i : Nat) : List Value := (List.range 64).map fun j => .int .u64 (xs.getD (64 * i + j) 0)
theorem chunk_len (xs : List Int) (i : Nat) : (chunk xs i).length = 64 := by simp [chunk]
theorem chunk_at (xs : List Int) (i j : Nat) (h : j < 64) : (chunk xs i)[j]? = some (.int .u64 (xs.getD (64 * i + j) 0)) := by simp [chunk, h]
theorem chunk_one (xs : List Int) (i : Nat) : ∀ u ∈ chunk xs i, u.oneCell' = true := by
  intro u hu
  obtain ⟨x, -, rfl⟩ := List.mem_map.1 hu
  rfl
def ptr (q : Nat × Nat) : Value := .pointer (some ⟨q.1, q.2, none⟩)
/-- The slice pv owns the pointers ps to the first m pages of xs. -/
structure Pgs (w : World) (B : Nat) (pv : Value) (ps : List (Nat × Nat)) (m : Nat) (xs : List Int) : Prop where
  len : ps.length = m
  own : w.ownsRow B 63 1 pv m (ps.map ptr)
  pg : ∀ i q, ps[i]? = some q → q.1 < w.heap.size ∧ pv.ownBlock ≠ some q.1 ∧ w.rangeAt q.1 q.2 (chunk xs i)
theorem rangeAt_block {w w' : World} {b o : Nat} {cs : List Value} (h : w.rangeAt b o cs) (e : w'.heap[b]? = w.heap[b]?) : w'.rangeAt b o cs :=
  fun j v hv => (World.cell?_of_block (w := w) (a := ⟨b, o + j, none⟩) e).trans (h j v hv)
theorem Pgs.kept {w w' : World} {B : Nat} {pv : Value} {ps : List (Nat × Nat)} {m : Nat} {xs : List Int} {row : Option Nat} (h : Pgs w B pv ps m xs) (hg : w.grownBy w' row)
    (hne : pv.ownBlock = none ∨ pv.ownBlock ≠ row) (hp : ∀ q ∈ ps, some q.1 ≠ row) : Pgs w' B pv ps m xs :=
  ⟨h.len, h.own.kept hg hne, fun i q hq => by
    obtain ⟨h1, h2, h3⟩ := h.pg i q hq
    exact ⟨Nat.lt_of_lt_of_le h1 hg.size, h2, rangeAt_block h3 (hg.block _ h1 (hp q (List.mem_of_getElem? hq)))⟩⟩
theorem Pgs.keep {w w' : World} {B : Nat} {pv : Value} {ps : List (Nat × Nat)} {m : Nat} {xs : List Int} (h : Pgs w B pv ps m xs) (hb : Below w.heap.size w w') : Pgs w' B pv ps m xs :=
  h.kept (row := none) ⟨hb.os, hb.tape, hb.output, hb.size, fun k hk _ => hb.block k hk⟩ (by cases pv.ownBlock <;> simp) (by simp)
theorem Pgs.other {w : World} {B : Nat} {pv : Value} {ps : List (Nat × Nat)} {m : Nat} {xs : List Int} (h : Pgs w B pv ps m xs) {a : Addr} (ha : pv.ownBlock ≠ some a.block) (hp : ∀ q ∈ ps, q.1 ≠ a.block) (v : Value) : Pgs (w.setCell a v) B pv ps m xs :=
  h.kept (row := some a.block) ⟨rfl, rfl, rfl, by simp [World.setCell], fun k hk hne => Below.heap_setCell _ _ _ _ (fun e => hne (by rw [e]))⟩ (.inr ha) (fun q hq => by simpa using hp q hq)
theorem Pgs.app {w w' : World} {B : Nat} {pv : Value} {ps : List (Nat × Nat)} {m : Nat} {xs : List Int} (h : Pgs w B pv ps m xs) {r cap b o : Nat}
    (ho : w'.ownsRow B 63 1 (.slice (some ⟨r, 0, none⟩) (m + 1) cap) (m + 1) (ps.map ptr ++ [ptr (b, o)])) (hg : w.grownBy w' pv.ownBlock) (hat : pv.ownBlock = some r ∨ r = w.heap.size)
    (hb : b < w.heap.size) (hbr : pv.ownBlock ≠ some b) (hc : w.rangeAt b o (chunk xs m)) : Pgs w' B (.slice (some ⟨r, 0, none⟩) (m + 1) cap) (ps ++ [(b, o)]) (m + 1) xs := by
  refine ⟨by simp [h.len], by simpa using ho, fun i q hq => ?_⟩
  have key : ∀ d, d < w.heap.size → pv.ownBlock ≠ some d → r ≠ d := by
    rintro d hd hn rfl
    rcases hat with hat | hat
    · exact hn hat
    · omega
  by_cases hi : i < ps.length
  · rw [List.getElem?_append_left hi] at hq
    obtain ⟨h1, h2, h3⟩ := h.pg i q hq
    exact ⟨Nat.lt_of_lt_of_le h1 hg.size, fun e => key _ h1 h2 (by simpa [Value.ownBlock] using e), rangeAt_block h3 (hg.block _ h1 (fun e => h2 e.symm))⟩
  · rw [List.getElem?_append_right (by omega)] at hq
    have hi2 : i = m := by
      have h1 := (List.getElem?_eq_some_iff.1 hq).1
      have h2 := h.len
      rw [List.length_singleton] at h1
      omega
    subst hi2
    simp [h.len] at hq
    subst hq
    exact ⟨Nat.lt_of_lt_of_le hb hg.size, fun e => key _ hb hbr (by simpa [Value.ownBlock] using e), rangeAt_block hc (hg.block _ hb (fun e => hbr e.symm))⟩
theorem Pgs.nil (w : World) (B : Nat) (xs : List Int) : Pgs w B (.slice none 0 0) [] 0 xs := ⟨rfl, ⟨rfl, .inl ⟨rfl, rfl⟩⟩, fun i q hq => by simp at hq⟩
theorem Ws.chunk {w : World} {g n c : Nat} {xs : List Int} (h : Ws w g n c xs) (i : Nat) (hi : 64 * (i + 1) ≤ n) : w.rangeAt g (64 * i) (chunk xs i) := by
  intro j v hv
  have hj : j < 64 := by have := (List.getElem?_eq_some_iff.1 hv).1; rwa [chunk_len] at this
  rw [chunk_at _ _ _ hj] at hv
  rw [h.cell _ (by omega)]
  exact hv
theorem one_ptr (q : Nat × Nat) : ∀ u ∈ [ptr q], u.oneCell' = true := by
  intro u hu
  simp at hu
  subst hu
  rfl
end Go.Proofs.Ytjimmfnloeecjaa
