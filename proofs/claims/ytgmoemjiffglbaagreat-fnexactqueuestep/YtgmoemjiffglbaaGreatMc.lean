/-
  Blocks of the call's own, by what they hold.
  A law's code: the bytes that came in, as the cursor wants them; the test of its length.
  Slices of words: what they hold, and that it stays.
  The laws' helpers over lists of words: a copy, likeness, marks.
  Arenas: what the specification's functions of the arenas' chapter do with a list of words.
  Whether a list of words is an arena of a plan.
-/
import Derived.Test.YtgmoemjiffglbaaGreatMb
import Derived.Laws.Rows
import Derived.Laws.OwnMore
import Derived.OwnWalk
import Derived.WalkKit
import Derived.Deep.LoopGhost
import Derived.Deep.OwnRows
namespace Go.Proofs.YtgmoemjiffglbaaGreat
open Go.RowKit
set_option linter.unusedVariables false
/-- Block b holds just these cells, none of them frozen. -/
structure At (w : World) (b : Nat) (cs : Array Value) (t : TypeId) : Prop where
  is : w.heap[b]? = some (.cells cs t (0, 0))
theorem At.lt {w : World} {b : Nat} {cs : Array Value} {t : TypeId} (h : At w b cs t) : b < w.heap.size := by
  have := h.is
  exact (Array.getElem?_eq_some_iff.1 this).1
theorem At.cell {w : World} {b : Nat} {cs : Array Value} {t : TypeId} (h : At w b cs t) (i : Nat) : w.cell? ⟨b, i, none⟩ = cs[i]? := by
  simp [World.cell?, h.is]
theorem At.frozen {w : World} {b : Nat} {cs : Array Value} {t : TypeId} (h : At w b cs t) (i : Nat) : w.frozen? ⟨b, i, none⟩ = false := by
  simp [World.frozen?, h.is]
theorem At.new (w : World) (cs : Array Value) (t : TypeId) : At (w.alloc (.cells cs t)) w.heap.size cs t := ⟨by show (w.heap.push _)[w.heap.size]? = _; simp⟩
theorem At.keep {w w' : World} {b : Nat} {cs : Array Value} {t : TypeId} (h : At w b cs t) (hb : Below w.heap.size w w') : At w' b cs t := ⟨(hb.block b h.lt).trans h.is⟩
theorem At.under {w w' : World} {B b : Nat} {cs : Array Value} {t : TypeId} (h : At w b cs t) (hb : Below B w w') (hB : b < B) : At w' b cs t := ⟨(hb.block b hB).trans h.is⟩
theorem At.kept {w w' : World} {b c : Nat} {cs : Array Value} {t : TypeId} (h : At w b cs t) (k : Kept c w w') (hc : b ≠ c) : At w' b cs t := ⟨(k.block b h.lt hc).trans h.is⟩
theorem At.set {w : World} {b : Nat} {cs : Array Value} {t : TypeId} (h : At w b cs t) (i : Nat) (v : Value) : At (w.setCell ⟨b, i, none⟩ v) b (cs.setIfInBounds i v) t := by
  constructor
  have hl := h.lt
  have e := h.is
  simp only [World.setCell, Array.getElem?_modify, e]
  simp
theorem At.other {w : World} {b : Nat} {cs : Array Value} {t : TypeId} (h : At w b cs t) {a : Addr} (ha : b ≠ a.block) (v : Value) : At (w.setCell a v) b cs t := ⟨(Below.heap_setCell _ _ _ _ ha).trans h.is⟩
theorem At.draw {w : World} {b : Nat} {cs : Array Value} {t : TypeId} (h : At w b cs t) (n : Nat) : At (w.drewN n) b cs t := ⟨h.is⟩
theorem At.four {w : World} {b : Nat} {x0 x1 x2 x3 : Value} {t : TypeId} (h : At w b #[x0, x1, x2, x3] t) :
    w.cell? ⟨b, 0, none⟩ = some x0 ∧ w.cell? ⟨b, 1, none⟩ = some x1 ∧ w.cell? ⟨b, 2, none⟩ = some x2 ∧ w.cell? ⟨b, 3, none⟩ = some x3 ∧
    w.frozen? ⟨b, 0, none⟩ = false ∧ w.frozen? ⟨b, 1, none⟩ = false ∧ w.frozen? ⟨b, 2, none⟩ = false ∧ w.frozen? ⟨b, 3, none⟩ = false :=
  ⟨h.cell 0, h.cell 1, h.cell 2, h.cell 3, h.frozen 0, h.frozen 1, h.frozen 2, h.frozen 3⟩
/-- A store into a block that was not there when the call began. -/
theorem Kept.put {c : Nat} {a w : World} (h : Kept c a w) {p : Addr} (hp : a.heap.size ≤ p.block) (v : Value) : Kept c a (w.setCell p v) :=
  ⟨h.os, h.tape, h.output, by simpa [World.setCell] using h.size, fun k hk hc => (Below.heap_setCell _ _ _ _ (by omega)).trans (h.block k hk hc)⟩
/-- A store into another block than the cursor's. -/
theorem Cur.other {B c : Nat} {w : World} (h : Cur B c w) {p : Addr} (hp : p.block ≠ c) (hB : B ≤ p.block) (v : Value) : Cur B c (w.setCell p v) := by
  obtain ⟨ge, lt, a, len, cap, i, x, h0, h1, h2, f1, f2, hl, hr⟩ := h
  have e : (w.setCell p v).heap[c]? = w.heap[c]? := Below.heap_setCell _ _ _ _ (fun h => hp h.symm)
  have hcell : ∀ o, (w.setCell p v).cell? ⟨c, o, none⟩ = w.cell? ⟨c, o, none⟩ := fun o => World.cell?_of_block (w := w) e
  have hfr : ∀ o, (w.setCell p v).frozen? ⟨c, o, none⟩ = w.frozen? ⟨c, o, none⟩ := fun o => World.frozen?_of_block (w := w) e
  refine ⟨ge, by simpa [World.setCell] using lt, a, len, cap, i, x, (hcell 0).trans h0, (hcell 1).trans h1, (hcell 2).trans h2, (hfr 1).trans f1, (hfr 2).trans f2, hl, ?_⟩
  rcases hr with rfl | ⟨b, off, rfl, hbb, hz⟩
  · exact .inl rfl
  · refine .inr ⟨b, off, rfl, hbb, fun j hj => ?_⟩
    obtain ⟨z, h1, h2⟩ := hz j hj
    exact ⟨z, (World.cell?_of_block (w := w) (Below.heap_setCell _ _ _ _ (by show b ≠ _; omega))).trans h1, h2⟩
end Go.Proofs.YtgmoemjiffglbaaGreat
namespace Go.Proofs.YtgmoemjiffglbaaGreat
open Go.RowKit
set_option linter.unusedVariables false
/-- A slice of integers that came in: it is nil, or it leads to a row of cells, each fitting its kind. -/
def IsRow (k : IntKind) (w : World) (a : Option Addr) (len cap : Nat) (zs : List Int) : Prop :=
  (a = none ∧ len = 0 ∧ cap = 0 ∧ zs = []) ∨
  ∃ x, a = some x ∧ len ≤ cap ∧ cap ≤ maxLen ∧ zs.length = cap ∧ (∀ i, i < zs.length → w.cell? (x.add i) = some (.int k (zs.getD i 0))) ∧ ∀ n ∈ zs, (Lit.int k n).wf = true
theorem block_lt {w : World} {b o : Nat} {v : Value} (h : w.cell? ⟨b, o, none⟩ = some v) : b < w.heap.size := by
  by_cases hb : b < w.heap.size
  · exact hb
  · have e : w.heap[b]? = none := by simp; omega
    simp [World.cell?, e] at h
theorem IsRow.row {w : World} {a : Option Addr} {len cap : Nat} {zs : List Int} (h : IsRow .u8 w a len cap zs) : Row w.heap.size w a len := by
  rcases h with ⟨rfl, rfl, rfl, rfl⟩ | ⟨x, rfl, hl, hm, hz, hcell, hwz⟩
  · exact .inl rfl
  · by_cases h0 : len = 0
    · exact .inl h0
    · obtain ⟨b, off, spot⟩ := x
      have hc := hcell 0 (by omega)
      have hspot : spot = none := by simpa [Addr.add] using World.cell?_spot hc
      subst hspot
      have hc' : w.cell? ⟨b, off, none⟩ = some (.int .u8 (zs.getD 0 0)) := by simpa [Addr.add] using hc
      refine .inr ⟨b, off, rfl, block_lt hc', fun j hj => ⟨zs.getD j 0, by have := hcell j (by omega); by_cases hj0 : j = 0 <;> simpa [Addr.add, hj0] using this, ?_⟩⟩
      have hm : zs.getD j 0 ∈ zs := by
        have hlt : j < zs.length := by omega
        simp only [List.getD_eq_getElem?_getD, List.getElem?_eq_getElem hlt, Option.getD_some]
        exact List.getElem_mem hlt
      exact bounds_u8 (hwz _ hm)
theorem IsRow.small {k : IntKind} {w : World} {a : Option Addr} {len cap : Nat} {zs : List Int} (h : IsRow k w a len cap zs) : (len : Int) ≤ 9223372036854775807 := by
  rcases h with ⟨rfl, rfl, rfl, rfl⟩ | ⟨x, rfl, hl, hm, hz, hcell, hwz⟩
  · omega
  · unfold maxLen at hm; omega
end Go.Proofs.YtgmoemjiffglbaaGreat
namespace Go.Proofs.YtgmoemjiffglbaaGreat
open Go.RowKit
set_option linter.unusedVariables false
/-- The slice (g, n, c) holds just the words xs, in a block of which nothing is frozen. -/
structure Ws (w : World) (g n c : Nat) (xs : List Int) : Prop where
  len : xs.length = n
  own : w.ownsRow 0 25 1 (.slice (some ⟨g, 0, none⟩) n c) n (xs.map (Value.int .u64))
  bd : ∀ x ∈ xs, 0 ≤ x ∧ x ≤ 18446744073709551615
theorem Ws.lt {w : World} {g n c : Nat} {xs : List Int} (h : Ws w g n c xs) : g < w.heap.size := (World.ownsRow.lt h.own g rfl).2
theorem Ws.cell {w : World} {g n c : Nat} {xs : List Int} (h : Ws w g n c xs) (i : Nat) (hi : i < n) : w.cell? ⟨g, i, none⟩ = some (.int .u64 (xs.getD i 0)) := by
  have := World.ownsRow.cellAt h.own i (by omega)
  rw [this]
  simp [h.len, hi]
theorem Ws.frozen {w : World} {g n c : Nat} {xs : List Int} (h : Ws w g n c xs) (i : Nat) : w.frozen? ⟨g, i, none⟩ = false := World.ownsRow.frozenAt h.own i
theorem bd_getD {xs : List Int} (h : ∀ x ∈ xs, 0 ≤ x ∧ x ≤ 18446744073709551615) (i : Nat) : 0 ≤ xs.getD i 0 ∧ xs.getD i 0 ≤ 18446744073709551615 := by
  by_cases hi : i < xs.length
  · exact h _ (by simp [hi])
  · simp [List.getD, List.getElem?_eq_none (Nat.not_lt.1 hi)]
theorem Ws.bds {w : World} {g n c : Nat} {xs : List Int} (h : Ws w g n c xs) (i : Nat) : 0 ≤ xs.getD i 0 ∧ xs.getD i 0 ≤ 18446744073709551615 := bd_getD h.bd i
theorem Ws.of_block {w w' : World} {g n c : Nat} {xs : List Int} (h : Ws w g n c xs) (e : w'.heap[g]? = w.heap[g]?) : Ws w' g n c xs := by
  refine ⟨h.len, ⟨h.own.1, ?_⟩, h.bd⟩
  rcases h.own.2 with ⟨hv, h0⟩ | ⟨g', cap, cur, hv, h1, h2, h3⟩
  · cases hv
  · obtain ⟨⟨rfl⟩, -, -⟩ : (some (⟨g, 0, none⟩ : Addr) = some ⟨g', 0, none⟩) ∧ n = n ∧ c = cap := by simpa using hv
    exact .inr ⟨g, cap, cur, hv, h1, e.trans h2, h3⟩
theorem Ws.keep {w w' : World} {g n c : Nat} {xs : List Int} (h : Ws w g n c xs) (hb : Below w.heap.size w w') : Ws w' g n c xs := h.of_block (hb.block g h.lt)
theorem Ws.under {w w' : World} {B g n c : Nat} {xs : List Int} (h : Ws w g n c xs) (hb : Below B w w') (hB : g < B) : Ws w' g n c xs := h.of_block (hb.block g hB)
theorem Ws.kept {w w' : World} {b g n c : Nat} {xs : List Int} (h : Ws w g n c xs) (k : Kept b w w') (hb : g ≠ b) : Ws w' g n c xs := h.of_block (k.block g h.lt hb)
theorem Ws.other {w : World} {g n c : Nat} {xs : List Int} (h : Ws w g n c xs) {a : Addr} (ha : g ≠ a.block) (v : Value) : Ws (w.setCell a v) g n c xs := h.of_block (Below.heap_setCell _ _ _ _ ha)
theorem Ws.draw {w : World} {g n c : Nat} {xs : List Int} (h : Ws w g n c xs) (k : Nat) : Ws (w.drewN k) g n c xs := h.of_block rfl
theorem Ws.alloc {w : World} {g n c : Nat} {xs : List Int} (h : Ws w g n c xs) (o : Obj) : Ws (w.alloc o) g n c xs := h.of_block (Below.heap_alloc _ _ _ h.lt)
theorem Ws.set {w : World} {g n c : Nat} {xs : List Int} (h : Ws w g n c xs) (i : Nat) (x : Int) (hx : 0 ≤ x ∧ x ≤ 18446744073709551615) : Ws (w.setCell ⟨g, i, none⟩ (.int .u64 x)) g n c (xs.set i x) := by
  refine ⟨by simpa using h.len, ?_, fun y hy => ?_⟩
  · have := (World.ownsRow.stored h.own i (.int .u64 x)).1
    simpa [List.map_set] using this
  · rcases List.mem_or_eq_of_mem_set hy with hy | rfl
    · exact h.bd y hy
    · exact hx
theorem Ws.made (w : World) (n : Nat) (hn : n ≤ 1099511627776) : Ws (w.alloc (.cells (madeCells #[.int .u64 0] n) 25)) w.heap.size n n (List.replicate n 0) := by
  refine ⟨by simp, ⟨by simp, .inr ⟨w.heap.size, n, madeCells #[.int .u64 0] n, rfl, Nat.zero_le _, by show (w.heap.push _)[w.heap.size]? = _; simp, Nat.le_refl _, by unfold maxLen; omega, ?_, ?_⟩⟩, fun x hx => ?_⟩
  · rw [← Array.length_toList, toList_madeCells_one]; simp
  · rw [toList_madeCells_one]; simp
  · have := (List.mem_replicate.1 hx).2; omega
/-- At this address lie the words xs. -/
def Src (w : World) (a : Option Addr) (n : Nat) (xs : List Int) : Prop :=
  xs.length = n ∧ (n = 0 ∨ ∃ b o, a = some ⟨b, o, none⟩ ∧ b < w.heap.size ∧ ∀ i, i < n → w.cell? ⟨b, o + i, none⟩ = some (.int .u64 (xs.getD i 0)))
theorem Ws.src {w : World} {g n c : Nat} {xs : List Int} (h : Ws w g n c xs) : Src w (some ⟨g, 0, none⟩) n xs :=
  ⟨h.len, .inr ⟨g, 0, rfl, h.lt, fun i hi => by rw [Nat.zero_add]; exact h.cell i hi⟩⟩
theorem Src.keep {w w' : World} {a : Option Addr} {n : Nat} {xs : List Int} (h : Src w a n xs) (hb : Below w.heap.size w w') : Src w' a n xs := by
  refine ⟨h.1, ?_⟩
  rcases h.2 with h0 | ⟨b, o, rfl, hl, hc⟩
  · exact .inl h0
  · exact .inr ⟨b, o, rfl, Nat.lt_of_lt_of_le hl hb.size, fun i hi => (hb.cell (p := ⟨b, o + i, none⟩) hl).trans (hc i hi)⟩
theorem Src.kept {w w' : World} {c : Nat} {a : Option Addr} {n : Nat} {xs : List Int} (h : Src w a n xs) (hc : ∀ b o, a = some ⟨b, o, none⟩ → 0 < n → b ≠ c) (k : Kept c w w') : Src w' a n xs := by
  refine ⟨h.1, ?_⟩
  rcases h.2 with h0 | ⟨b, o, rfl, hl, hx⟩
  · exact .inl h0
  · by_cases h0 : n = 0
    · exact .inl h0
    · exact .inr ⟨b, o, rfl, Nat.lt_of_lt_of_le hl k.size, fun i hi => (k.cell hl (hc b o rfl (by omega))).trans (hx i hi)⟩
end Go.Proofs.YtgmoemjiffglbaaGreat
namespace Go.Proofs.YtgmoemjiffglbaaGreat
open Go.RowKit
set_option linter.unusedVariables false
theorem rett {b : Bool} (h : b = true) : Ending.returned (.bool true) = .returned (.bool b) := by rw [h]
theorem retf {b : Bool} (h : b = false) : Ending.returned (.bool false) = .returned (.bool b) := by rw [h]
theorem infoU : (Tryz.prog.info? 25).map (fun i => (i.zero, i.size, i.bytes)) = some (some (.int .u64 0), 1, 8) := by kernel_rfl
theorem take_put {xs : List Int} {i n : Nat} (hl : xs.length = n) (hi : i < n) : (xs.take i ++ List.replicate (n - i) 0).set i (xs.getD i 0) = xs.take (i + 1) ++ List.replicate (n - (i + 1)) 0 := by
  rw [show n - i = (n - (i + 1)) + 1 from by omega, List.replicate_succ, List.set_append_right _ _ (by simp; omega), List.take_add_one]
  have e : i - (xs.take i).length = 0 := by simp; omega
  rw [e]
  have h2 : xs[i]? = some (xs.getD i 0) := by simp [hl, hi]
  rw [h2]
  simp
set_option maxHeartbeats 1000000 in
theorem toU (a : Option Addr) (n cap : Nat) (xs : List Int) (w : World) (h : Src w a n xs) (bd : ∀ x ∈ xs, 0 ≤ x ∧ x ≤ 18446744073709551615) (hn : n ≤ 1048576) :
    Calls Tryz.prog 6 #[.slice a n cap] w fun e w' => e = .returned (.slice (some ⟨w.heap.size, 0, none⟩) n n) ∧ Ws w' w.heap.size n n xs ∧ Below w.heap.size w w' := by
  have hmk := run_make_row' (P := Tryz.prog) 24 25 (.int .u64 0) 8 Tryz.underlying24 infoU rfl .i64 .i64 n (by omega) (by omega)
  have hW := Ws.made w n (by omega)
  have hB : Below w.heap.size w (w.alloc (.cells (madeCells #[.int .u64 0] n) 25)) := (Below.refl _ _).alloc (Nat.le_refl _) _
  go_enter Tryz.func6, Tryz.ntmps6
  go_wp2
  obtain ⟨G, hG⟩ : ∃ G : Nat, Hid (G = w.heap.size) := ⟨_, rfl⟩
  rw [← hG.out]
  go_loopg [4] n (fun g y wr => ∃ i : Nat, i ≤ n ∧ g = n - i ∧ y = .int .i64 i ∧ Ws wr G n n (xs.take i ++ List.replicate (n - i) 0) ∧ Below G w wr)
  case atStart => exact ⟨0, Nat.zero_le _, rfl, rfl, by rw [hG.out]; simpa using hW, by rw [hG.out]; exact hB⟩
  case round =>
    clear hW hB hmk
    obtain ⟨i, i0, hg, rfl, hW, hB⟩ := hrel
    by_cases hi : i < n
    · have hi' : (i : Int) < n := by omega
      have hb0 := bd_getD bd i
      have hw := hW.set i (xs.getD i 0) hb0
      rw [take_put h.1 hi] at hw
      obtain ⟨b, o, rfl, hl, hc⟩ := h.2.resolve_left (by omega)
      have c0 : wr.cell? ⟨b, o + i, none⟩ = some (.int .u64 (xs.getD i 0)) := (hB.cell (p := ⟨b, o + i, none⟩) (by show b < G; rw [hG.out]; exact hl)).trans (hc i hi)
      have c1 := hW.cell i hi
      have f1 := hW.frozen i
      obtain ⟨x, hx⟩ : ∃ x : Int, xs.getD i 0 = x := ⟨_, rfl⟩
      rw [hx] at c0 hw
      go_wp2
      go_roundg (gk - 1)
      case measure => omega
      case rel => exact ⟨i + 1, by omega, by omega, by go_num, hw, hB.setCell (p := ⟨G, i, none⟩) (Nat.le_refl _) _⟩
    · obtain rfl : i = n := by omega
      go_wp2
      go_ret
      rw [← hG.out]
      refine ⟨rfl, ?_, hB⟩
      have e := h.1
      simpa [← e] using hW
set_option maxHeartbeats 1000000 in
theorem eqU (a b : Option Addr) (n m ca cb : Nat) (xs ys : List Int) (w : World) (h : Src w a n xs) (k : Src w b m ys) (hn : n ≤ 9223372036854775807) (hm : m ≤ 9223372036854775807) :
    Calls Tryz.prog 10 #[.slice a n ca, .slice b m cb] w fun e w' => e = .returned (.bool (decide (xs = ys))) ∧ Below w.heap.size w w' := by
  by_cases hnm : n = m
  · subst hnm
    go_enter Tryz.func10, Tryz.ntmps10
    go_wp2
    go_loopg [5] n (fun g y wr => ∃ i : Nat, i ≤ n ∧ g = n - i ∧ y = .int .i64 i ∧ (∀ j, j < i → xs.getD j 0 = ys.getD j 0) ∧ Below w.heap.size w wr)
    case atStart => exact ⟨0, Nat.zero_le _, rfl, rfl, fun j hj => by omega, Below.refl _ _⟩
    case round =>
      obtain ⟨i, i0, hg, rfl, hj, hB⟩ := hrel
      by_cases hi : i < n
      · have hi' : (i : Int) < n := by omega
        obtain ⟨b1, o1, rfl, hl1, hc1⟩ := h.2.resolve_left (by omega)
        obtain ⟨b2, o2, rfl, hl2, hc2⟩ := k.2.resolve_left (by omega)
        have c1 : wr.cell? ⟨b1, o1 + i, none⟩ = some (.int .u64 (xs.getD i 0)) := (hB.cell (p := ⟨b1, o1 + i, none⟩) hl1).trans (hc1 i hi)
        have c2 : wr.cell? ⟨b2, o2 + i, none⟩ = some (.int .u64 (ys.getD i 0)) := (hB.cell (p := ⟨b2, o2 + i, none⟩) hl2).trans (hc2 i hi)
        obtain ⟨x, hx⟩ : ∃ x : Int, xs.getD i 0 = x := ⟨_, rfl⟩
        obtain ⟨y, hy⟩ : ∃ y : Int, ys.getD i 0 = y := ⟨_, rfl⟩
        rw [hx] at c1
        rw [hy] at c2
        have HJ : Hid (∀ j, j < i → xs.getD j 0 = ys.getD j 0) := hj
        have HX : Hid (xs.getD i 0 = x) := hx
        have HY : Hid (ys.getD i 0 = y) := hy
        clear hj hx hy
        by_cases hxy : x = y
        · subst hxy
          go_wp2
          go_region
          go_wp2
          go_roundg (gk - 1)
          case measure => omega
          case rel =>
            refine ⟨i + 1, by omega, by omega, by go_num, fun j hj => ?_, hB.drew⟩
            by_cases hji : j = i
            · subst hji; rw [HX.out, HY.out]
            · exact HJ.out j (by omega)
        · go_wp2
          go_region
          go_wp2
          go_ret
          refine ⟨retf (decide_eq_false ?_), hB.drew⟩
          rintro rfl
          exact hxy (HX.out.symm.trans HY.out)
      · obtain rfl : i = n := by omega
        go_wp2
        go_ret
        refine ⟨rett (decide_eq_true ?_), hB⟩
        refine List.ext_getElem (h.1.trans k.1.symm) fun j h1 h2 => ?_
        have := hj j (by have := h.1; omega)
        simpa [h1, h2] using this
  · have e : ¬ (n : Int) = m := by omega
    go_enter Tryz.func10, Tryz.ntmps10
    go_wp2
    go_ret
    refine ⟨retf (decide_eq_false ?_), Below.refl _ _⟩
    rintro rfl
    exact hnm (h.1.symm.trans k.1)
/-- The marks from k on. -/
def marks (k : Int) (n : Nat) : List Int := (List.range n).map (fun (i : Nat) => k + (i : Int))
theorem marks_length (k : Int) (n : Nat) : (marks k n).length = n := by simp [marks]
theorem marks_getD (k : Int) (n i : Nat) (h : i < n) : (marks k n).getD i 0 = k + i := by simp [marks, h]
theorem marks_set {xs : List Int} {i n : Nat} (k : Int) (hl : xs.length = n) (hi : i < n) : (marks k i ++ xs.drop i).set i (k + i) = marks k (i + 1) ++ xs.drop (i + 1) := by
  rw [List.set_append_right _ _ (by rw [marks_length]; exact Nat.le_refl _)]
  rw [marks_length, Nat.sub_self]
  have hd : xs.drop i = xs[i]'(by omega) :: xs.drop (i + 1) := List.drop_eq_getElem_cons (by omega)
  rw [hd, List.set_cons_zero]
  simp [marks, List.range_succ]
set_option maxHeartbeats 1000000 in
theorem markU (g n c : Nat) (xs : List Int) (k : Int) (w : World) (h : Ws w g n c xs) (hn : n ≤ 1048576) (k0 : 0 ≤ k) (k1 : k ≤ 1048576) :
    Calls Tryz.prog 11 #[.slice (some ⟨g, 0, none⟩) n c, .int .i64 k] w fun e w' => e = .returned (.int .i64 (k + n)) ∧ Ws w' g n c (marks k n) ∧ Kept g w w' := by
  go_enter Tryz.func11, Tryz.ntmps11
  go_wp2
  go_loopg [1, 5] n (fun g' x y wr => ∃ i : Nat, i ≤ n ∧ g' = n - i ∧ x = .int .i64 (k + i) ∧ y = .int .i64 i ∧ Ws wr g n c (marks k i ++ xs.drop i) ∧ Kept g w wr)
  case atStart => exact ⟨0, Nat.zero_le _, rfl, by simp, rfl, by simpa [marks] using h, Kept.refl _ _⟩
  case round =>
    obtain ⟨i, i0, hg, rfl, rfl, hW, hK⟩ := hrel
    by_cases hi : i < n
    · have hi' : (i : Int) < n := by omega
      have hw := hW.set i (k + i) (by omega)
      rw [marks_set k h.len hi] at hw
      have c1 := hW.cell i hi
      have f1 := hW.frozen i
      go_wp2
      go_roundg (gk - 1)
      case measure => omega
      case rel =>
        refine ⟨i + 1, by omega, by omega, by go_num, by go_num, ?_, hK.set _ _⟩
        simpa using hw
    · obtain rfl : i = n := by omega
      go_wp2
      go_ret
      refine ⟨rfl, ?_, hK⟩
      have e := h.len
      simpa [← e] using hW
set_option maxHeartbeats 1000000 in
theorem heldU (a : Option Addr) (n c : Nat) (k : Int) (w : World) (h : Src w a n (marks k n)) (hn : n ≤ 1048576) (k0 : 0 ≤ k) (k1 : k ≤ 1048576) :
    Calls Tryz.prog 24 #[.slice a n c, .int .i64 k] w fun e w' => e = .returned (.int .i64 (k + n)) ∧ Below w.heap.size w w' := by
  go_enter Tryz.func24, Tryz.ntmps24
  go_wp2
  go_loopg [1, 5] n (fun g' x y wr => ∃ i : Nat, i ≤ n ∧ g' = n - i ∧ x = .int .i64 (k + i) ∧ y = .int .i64 i ∧ Below w.heap.size w wr)
  case atStart => exact ⟨0, Nat.zero_le _, rfl, by simp, rfl, Below.refl _ _⟩
  case round =>
    obtain ⟨i, i0, hg, rfl, rfl, hB⟩ := hrel
    by_cases hi : i < n
    · have hi' : (i : Int) < n := by omega
      obtain ⟨b1, o1, rfl, hl1, hc1⟩ := h.2.resolve_left (by omega)
      have c1 : wr.cell? ⟨b1, o1 + i, none⟩ = some (.int .u64 (k + i)) := (hB.cell (p := ⟨b1, o1 + i, none⟩) hl1).trans ((hc1 i hi).trans (by rw [marks_getD _ _ _ hi]))
      go_wp2
      go_roundg (gk - 1)
      case measure => omega
      case rel => exact ⟨i + 1, by omega, by omega, by go_num, by go_num, hB⟩
    · obtain rfl : i = n := by omega
      go_wp2
      go_ret
      exact ⟨rfl, hB⟩
end Go.Proofs.YtgmoemjiffglbaaGreat
namespace Go.Proofs.YtgmoemjiffglbaaGreat
open Go.RowKit
set_option linter.unusedVariables false
/-- Is that a place of a list of n words? -/
def thr (at_ : Int) (n : Nat) : Bool := decide (0 ≤ at_ ∧ at_ < (n : Int))
theorem thr_inB (a : Int) (n : Nat) : inB a 0 ((n : Int) - 1) = thr a n := by
  unfold inB thr
  rw [decide_eq_decide]
  omega
theorem thr_true {a : Int} {n : Nat} (h : thr a n = true) : ∃ i : Nat, i < n ∧ a = (i : Int) := by
  have := of_decide_eq_true h
  exact ⟨a.toNat, by omega, by omega⟩
theorem thr_nat {i n : Nat} (h : i < n) : thr (i : Int) n = true := decide_eq_true (by omega)
/-- What a write of x at a place leaves. -/
def wrote (xs : List Int) (a x : Int) : List Int := if thr a xs.length then xs.set a.toNat x else xs
/-- What a swap from y to x at a place leaves, and whether it is done. -/
def swaps (xs : List Int) (a y : Int) : Bool := thr a xs.length && xs.getD a.toNat 0 == y
def swapped (xs : List Int) (a y x : Int) : List Int := if swaps xs a y then xs.set a.toNat x else xs
set_option maxHeartbeats 400000 in
theorem sThere (a : Option Addr) (n c : Nat) (at_ : Int) (w : World) (hn : n ≤ 9223372036854775807) :
    Calls Tryz.prog 65 #[.slice a n c, .int .i64 at_] w fun e w' => e = .returned (.bool (thr at_ n)) ∧ w' = w := by
  go_enter Tryz.func65, Tryz.ntmps65
  go_wp2_with (go_at_call 60; refine (sIn _ _ _ _).mono ?_; rintro e w1 ⟨rfl, rfl⟩; rw [thr_inB])
  go_ret
  exact ⟨rfl, rfl⟩
theorem wlit (w : World) (B : Nat) (hb : B ≤ w.heap.size) : (w.alloc (.cells #[] 25)).ownsRow B 25 1 (.slice (some ⟨w.heap.size, 0, none⟩) 0 0) 0 [] :=
  ⟨by simp, .inr ⟨w.heap.size, 0, #[], rfl, hb, by show (w.heap.push _)[w.heap.size]? = _; simp, Nat.le_refl _, Nat.zero_le _, by simp, by simp⟩⟩
theorem Ws.news {w : World} {g n c : Nat} {xs : List Int} (h : Ws w g n c xs) : ∀ (j : Nat) (u : Value), (xs.map (Value.int .u64))[j]? = some u → w.cell? ((⟨g, 0, none⟩ : Addr).add j) = some u := by
  intro j u hj
  have hj' : j < n := by
    have := (List.getElem?_eq_some_iff.1 hj).1
    simpa [h.len] using this
  have hc := h.cell j hj'
  have e : ((⟨g, 0, none⟩ : Addr).add j) = ⟨g, j, none⟩ := by cases j <;> simp [Addr.add]
  rw [e, hc, ← hj]
  simp [h.len, hj']
theorem u64_one (xs : List Int) : ∀ u ∈ xs.map (Value.int .u64), u.oneCell' = true := by
  intro u hu
  obtain ⟨x, -, rfl⟩ := List.mem_map.1 hu
  rfl
theorem Ws.of_own {w : World} {B n : Nat} {v : Value} {xs : List Int} (hl : xs.length = n) (ho : w.ownsRow B 25 1 v n (xs.map (Value.int .u64))) (hv : v ≠ .slice none 0 0) (hb : ∀ x ∈ xs, 0 ≤ x ∧ x ≤ 18446744073709551615) :
    ∃ g c, v = .slice (some ⟨g, 0, none⟩) n c ∧ B ≤ g ∧ Ws w g n c xs := by
  rcases ho.2 with ⟨h, _⟩ | ⟨g, c, cur, rfl, h1, h2⟩
  · exact absurd h hv
  · exact ⟨g, c, rfl, h1, hl, ⟨ho.1, .inr ⟨g, c, cur, rfl, Nat.zero_le _, h2⟩⟩, hb⟩
set_option maxHeartbeats 1000000 in
theorem sCopy (g n c : Nat) (xs : List Int) (w : World) (h : Ws w g n c xs) (hn : n ≤ 16777216) :
    Calls Tryz.prog 29 #[.slice (some ⟨g, 0, none⟩) n c] w fun e w' => ∃ g' c', e = .returned (.slice (some ⟨g', 0, none⟩) n c') ∧ w.heap.size ≤ g' ∧ Ws w' g' n c' xs ∧ Below w.heap.size w w' := by
  obtain ⟨i0, hi, hz0, hz1, hz2⟩ := info_parts infoU
  have h1 := h.alloc (.cells #[] 25)
  have hb1 : Below w.heap.size w (w.alloc (.cells #[] 25)) := (Below.refl _ _).alloc (Nat.le_refl _) _
  go_enter Tryz.func29, Tryz.ntmps29
  go_wp2_with (at_builtin; refine wpList_append_own _ rfl (.tmp 3) (.tmp 4) 24 rfl w.heap.size 25 i0 (.int .u64 0) 1 8 Tryz.underlying24 hi hz0 hz1 hz2 rfl (by decide) _ 0 [] rfl (wlit w _ (Nat.le_refl _)) ⟨g, 0, none⟩ n c (xs.map (Value.int .u64)) rfl (by simp [h.len]) h1.news (u64_one xs) (by unfold maxLen; omega) (by omega) (by simp) ?_; intro v' w3 ho' hg' hn')
  have hn2 : v' = .slice none 0 0 ↔ (Value.slice (some ⟨w.heap.size, 0, none⟩) 0 0) = .slice none 0 0 ∧ n = 0 := hn'
  have hg2 : (w.alloc (.cells #[] 25)).grownBy w3 (some w.heap.size) := hg'
  have hv : v' ≠ .slice none 0 0 := fun e => by have := (hn2.1 e).1; simp at this
  have ho2 : w3.ownsRow w.heap.size 25 1 v' n (xs.map (Value.int .u64)) := by simpa using ho'
  have hb3 := hb1.grown hg2 (by simp) (by intro k hk; simp at hk; omega)
  obtain ⟨g', c', rfl, hge, hW⟩ := Ws.of_own h.len ho2 hv h.bd
  go_ret
  exact ⟨g', c', rfl, hge, hW, hb3⟩
theorem wrote_y {xs : List Int} {i n : Nat} {x : Int} (hl : xs.length = n) (h : i < n) : wrote xs (i : Int) x = xs.set i x := by
  unfold wrote
  rw [hl, thr_nat h]
  simp
theorem wrote_n {xs : List Int} {n : Nat} {a x : Int} (hl : xs.length = n) (h : thr a n = false) : wrote xs a x = xs := by
  unfold wrote
  rw [hl, h]
  simp
theorem swap_y {xs : List Int} {i n : Nat} {y x : Int} (hl : xs.length = n) (h : i < n) (hy : xs.getD i 0 = y) : swaps xs (i : Int) y = true ∧ swapped xs (i : Int) y x = xs.set i x := by
  have e : swaps xs (i : Int) y = true := by
    unfold swaps
    rw [hl, thr_nat h]
    simp only [Int.toNat_natCast, hy]
    simp
  refine ⟨e, ?_⟩
  unfold swapped
  rw [e]
  simp
theorem swap_n {xs : List Int} {n : Nat} {a y x : Int} (hl : xs.length = n) (h : thr a n = false ∨ xs.getD a.toNat 0 ≠ y) : swaps xs a y = false ∧ swapped xs a y x = xs := by
  have e : swaps xs a y = false := by
    unfold swaps
    rw [hl]
    rcases h with h | h
    · rw [h]; rfl
    · rw [beq_eq_false_iff_ne.2 h, Bool.and_false]
  refine ⟨e, ?_⟩
  unfold swapped
  rw [e]
  simp
theorem toP2 {v v' : Value} {a b : Bool} (hv : v = v') (h : a = b) : Ending.returned (.tuple #[v, .bool a]) = .returned (.tuple #[v', .bool b]) := by rw [h, hv]
/-- What is read at a place. -/
def red (xs : List Int) (a : Int) : Int := if thr a xs.length then xs.getD a.toNat 0 else 0
end Go.Proofs.YtgmoemjiffglbaaGreat
namespace Go.Proofs.YtgmoemjiffglbaaGreat
open Go.RowKit
set_option linter.unusedVariables false
/-- Is a list of n words an arena of the plan? -/
def aOk (p s l c k : Int) (n : Nat) : Bool := decide ((n : Int) = vSize p s l c k)
theorem aOk_n {p s l c k : Int} {n : Nat} (h : ok p s l c k = false) : aOk p s l c k n = false := by
  unfold aOk vSize
  rw [h]
  exact decide_eq_false (by simp)
set_option maxHeartbeats 1000000 in
theorem iArena (p s l c k : Int) (a : Option Addr) (n cap : Nat) (w : World) (hn : n ≤ 9223372036854775807) :
    Calls Tryz.prog 41 #[.agg #[.int .i64 p, .int .i64 s, .int .i64 l, .int .i64 c, .int .i64 k], .slice a n cap] w fun e w' => e = .returned (.bool (aOk p s l c k n)) ∧ Below w.heap.size w w' := by
  have z : Below w.heap.size w (w.alloc (Obj.cells #[.int .i64 p, .int .i64 s, .int .i64 l, .int .i64 c, .int .i64 k] 35)) := (Below.refl _ _).alloc (Nat.le_refl _) _
  go_enter Tryz.func41, Tryz.ntmps41
  go_wp2_with (go_at_call 72; refine (iSize _ _ _ _ _ _).mono ?_; rintro e w1 ⟨rfl, hb⟩; replace z := z.trans (hb.mono z.size); clear hb)
  go_ret
  refine ⟨?_, z⟩
  exact ret_b (by unfold aOk; rw [Bool.eq_iff_iff]; simp)
set_option maxHeartbeats 1000000 in
theorem sArena (p s l c k : Int) (a : Option Addr) (n cap : Nat) (w : World) (hn : n ≤ 9223372036854775807) :
    Calls Tryz.prog 25 #[.agg #[.int .i64 p, .int .i64 s, .int .i64 l, .int .i64 c, .int .i64 k], .slice a n cap] w fun e w' => e = .returned (.bool (aOk p s l c k n)) ∧ Below w.heap.size w w' := by
  have z : Below w.heap.size w (w.alloc (Obj.cells #[.int .i64 p, .int .i64 s, .int .i64 l, .int .i64 c, .int .i64 k] 35)) := (Below.refl _ _).alloc (Nat.le_refl _) _
  have B := Box5.new w (.int .i64 p) (.int .i64 s) (.int .i64 l) (.int .i64 c) (.int .i64 k) 35
  cases ho : ok p s l c k
  · go_enter Tryz.func25, Tryz.ntmps25
    go_wp2_with (go_at_call 58; refine (sPlanOk _ _ _ _ _ _).mono ?_; rintro e w1 ⟨rfl, hb⟩; rw [ho]; replace z := z.trans (hb.mono z.size); clear hb)
    go_ret
    exact ⟨ret_f (aOk_n ho), z⟩
  · go_enter Tryz.func25, Tryz.ntmps25
    go_wp2_with (first
      | (go_at_call 58; refine (sPlanOk _ _ _ _ _ _).mono ?_; rintro e w1 ⟨rfl, hb⟩; rw [ho]; replace z := z.trans (hb.mono z.size); replace B := B.keep hb; obtain ⟨c0, c1, c2, c3, c4⟩ := B.five; clear hb)
      | (go_at_call 59; refine (sSize _ _ _ _ _ _).mono ?_; rintro e w1 ⟨rfl, hb⟩; replace z := z.trans (hb.mono z.size); clear hb))
    go_ret
    refine ⟨?_, z⟩
    exact ret_b (by unfold aOk; rw [Bool.eq_iff_iff]; simp)
end Go.Proofs.YtgmoemjiffglbaaGreat
