/-
  Slices of numbers (int64): what they hold, and that it stays; the laws' helpers over them.
-/
import Derived.Test.YtmldeigbaafclaaWds2
namespace Go.Proofs.Ytmldeigbaafclaa
open Go.RowKit
set_option linter.unusedVariables false
/-- The slice (g, n, c) holds just the words xs, in a block of which nothing is frozen. -/
structure Is (w : World) (g n c : Nat) (xs : List Int) : Prop where
  len : xs.length = n
  own : w.ownsRow 0 2 1 (.slice (some ⟨g, 0, none⟩) n c) n (xs.map (Value.int .i64))
theorem Is.lt {w : World} {g n c : Nat} {xs : List Int} (h : Is w g n c xs) : g < w.heap.size := (World.ownsRow.lt h.own g rfl).2
theorem Is.cell {w : World} {g n c : Nat} {xs : List Int} (h : Is w g n c xs) (i : Nat) (hi : i < n) : w.cell? ⟨g, i, none⟩ = some (.int .i64 (xs.getD i 0)) := by
  have := World.ownsRow.cellAt h.own i (by omega)
  rw [this]
  simp [h.len, hi]
theorem Is.frozen {w : World} {g n c : Nat} {xs : List Int} (h : Is w g n c xs) (i : Nat) : w.frozen? ⟨g, i, none⟩ = false := World.ownsRow.frozenAt h.own i
theorem Is.of_block {w w' : World} {g n c : Nat} {xs : List Int} (h : Is w g n c xs) (e : w'.heap[g]? = w.heap[g]?) : Is w' g n c xs := by
  refine ⟨h.len, ⟨h.own.1, ?_⟩⟩
  rcases h.own.2 with ⟨hv, h0⟩ | ⟨g', cap, cur, hv, h1, h2, h3⟩
  · cases hv
  · obtain ⟨⟨rfl⟩, -, -⟩ : (some (⟨g, 0, none⟩ : Addr) = some ⟨g', 0, none⟩) ∧ n = n ∧ c = cap := by simpa using hv
    exact .inr ⟨g, cap, cur, hv, h1, e.trans h2, h3⟩
theorem Is.keep {w w' : World} {g n c : Nat} {xs : List Int} (h : Is w g n c xs) (hb : Below w.heap.size w w') : Is w' g n c xs := h.of_block (hb.block g h.lt)
theorem Is.under {w w' : World} {B g n c : Nat} {xs : List Int} (h : Is w g n c xs) (hb : Below B w w') (hB : g < B) : Is w' g n c xs := h.of_block (hb.block g hB)
theorem Is.kept {w w' : World} {b g n c : Nat} {xs : List Int} (h : Is w g n c xs) (k : Kept b w w') (hb : g ≠ b) : Is w' g n c xs := h.of_block (k.block g h.lt hb)
theorem Is.other {w : World} {g n c : Nat} {xs : List Int} (h : Is w g n c xs) {a : Addr} (ha : g ≠ a.block) (v : Value) : Is (w.setCell a v) g n c xs := h.of_block (Below.heap_setCell _ _ _ _ ha)
theorem Is.draw {w : World} {g n c : Nat} {xs : List Int} (h : Is w g n c xs) (k : Nat) : Is (w.drewN k) g n c xs := h.of_block rfl
theorem Is.alloc {w : World} {g n c : Nat} {xs : List Int} (h : Is w g n c xs) (o : Obj) : Is (w.alloc o) g n c xs := h.of_block (Below.heap_alloc _ _ _ h.lt)
theorem Is.set {w : World} {g n c : Nat} {xs : List Int} (h : Is w g n c xs) (i : Nat) (x : Int) : Is (w.setCell ⟨g, i, none⟩ (.int .i64 x)) g n c (xs.set i x) := by
  refine ⟨by simpa using h.len, ?_⟩
  have := (World.ownsRow.stored h.own i (.int .i64 x)).1
  simpa [List.map_set] using this
theorem Is.made (w : World) (n : Nat) (hn : n ≤ 1099511627776) : Is (w.alloc (.cells (madeCells #[.int .i64 0] n) 2)) w.heap.size n n (List.replicate n 0) := by
  refine ⟨by simp, ⟨by simp, .inr ⟨w.heap.size, n, madeCells #[.int .i64 0] n, rfl, Nat.zero_le _, by show (w.heap.push _)[w.heap.size]? = _; simp, Nat.le_refl _, by unfold maxLen; omega, ?_, ?_⟩⟩⟩
  · rw [← Array.length_toList, toList_madeCells_one]; simp
  · rw [toList_madeCells_one]; simp
/-- At this address lie the words xs. -/
def Nsrc (w : World) (a : Option Addr) (n : Nat) (xs : List Int) : Prop :=
  xs.length = n ∧ (n = 0 ∨ ∃ b o, a = some ⟨b, o, none⟩ ∧ b < w.heap.size ∧ ∀ i, i < n → w.cell? ⟨b, o + i, none⟩ = some (.int .i64 (xs.getD i 0)))
theorem Is.src {w : World} {g n c : Nat} {xs : List Int} (h : Is w g n c xs) : Nsrc w (some ⟨g, 0, none⟩) n xs :=
  ⟨h.len, .inr ⟨g, 0, rfl, h.lt, fun i hi => by rw [Nat.zero_add]; exact h.cell i hi⟩⟩
theorem Nsrc.keep {w w' : World} {a : Option Addr} {n : Nat} {xs : List Int} (h : Nsrc w a n xs) (hb : Below w.heap.size w w') : Nsrc w' a n xs := by
  refine ⟨h.1, ?_⟩
  rcases h.2 with h0 | ⟨b, o, rfl, hl, hc⟩
  · exact .inl h0
  · exact .inr ⟨b, o, rfl, Nat.lt_of_lt_of_le hl hb.size, fun i hi => (hb.cell (p := ⟨b, o + i, none⟩) hl).trans (hc i hi)⟩
theorem Nsrc.kept {w w' : World} {c : Nat} {a : Option Addr} {n : Nat} {xs : List Int} (h : Nsrc w a n xs) (hc : ∀ b o, a = some ⟨b, o, none⟩ → 0 < n → b ≠ c) (k : Kept c w w') : Nsrc w' a n xs := by
  refine ⟨h.1, ?_⟩
  rcases h.2 with h0 | ⟨b, o, rfl, hl, hx⟩
  · exact .inl h0
  · by_cases h0 : n = 0
    · exact .inl h0
    · exact .inr ⟨b, o, rfl, Nat.lt_of_lt_of_le hl k.size, fun i hi => (k.cell hl (hc b o rfl (by omega))).trans (hx i hi)⟩
theorem infoI : (Try.prog.info? 2).map (fun i => (i.zero, i.size, i.bytes)) = some (some (.int .i64 0), 1, 8) := by kernel_rfl
set_option maxHeartbeats 1000000 in
theorem eqI (a b : Option Addr) (n m ca cb : Nat) (xs ys : List Int) (w : World) (h : Nsrc w a n xs) (k : Nsrc w b m ys) (hn : n ≤ 9223372036854775807) (hm : m ≤ 9223372036854775807) :
    Calls Try.prog 22 #[.slice a n ca, .slice b m cb] w fun e w' => e = .returned (.bool (decide (xs = ys))) ∧ Below w.heap.size w w' := by
  by_cases hnm : n = m
  · subst hnm
    go_enter Try.func22, Try.ntmps22
    go_wp2
    go_loopg [5] n (fun g y wr => ∃ i : Nat, i ≤ n ∧ g = n - i ∧ y = .int .i64 i ∧ (∀ j, j < i → xs.getD j 0 = ys.getD j 0) ∧ Below w.heap.size w wr)
    case atStart => exact ⟨0, Nat.zero_le _, rfl, rfl, fun j hj => by omega, Below.refl _ _⟩
    case round =>
      obtain ⟨i, i0, hg, rfl, hj, hB⟩ := hrel
      by_cases hi : i < n
      · have hi' : (i : Int) < n := by omega
        obtain ⟨b1, o1, rfl, hl1, hc1⟩ := h.2.resolve_left (by omega)
        obtain ⟨b2, o2, rfl, hl2, hc2⟩ := k.2.resolve_left (by omega)
        have c1 : wr.cell? ⟨b1, o1 + i, none⟩ = some (.int .i64 (xs.getD i 0)) := (hB.cell (p := ⟨b1, o1 + i, none⟩) hl1).trans (hc1 i hi)
        have c2 : wr.cell? ⟨b2, o2 + i, none⟩ = some (.int .i64 (ys.getD i 0)) := (hB.cell (p := ⟨b2, o2 + i, none⟩) hl2).trans (hc2 i hi)
        obtain ⟨x, hx⟩ : ∃ x : Int, xs.getD i 0 = x := ⟨_, rfl⟩
        obtain ⟨y, hy⟩ : ∃ y : Int, ys.getD i 0 = y := ⟨_, rfl⟩
        rw [hx] at c1
        rw [hy] at c2
        have HJ : Hid (∀ j, j < i → xs.getD j 0 = ys.getD j 0) := hj
        have HX : Hid (xs.getD i 0 = x) := hx
        have HY : Hid (ys.getD i 0 = y) := hy
        clear hj hx hy
        by_cases hxy : x = y
        · subst hxy
          go_wp2
          go_region
          go_wp2
          go_roundg (gk - 1)
          case measure => omega
          case rel =>
            refine ⟨i + 1, by omega, by omega, by go_num, fun j hj => ?_, hB.drew⟩
            by_cases hji : j = i
            · subst hji; rw [HX.out, HY.out]
            · exact HJ.out j (by omega)
        · go_wp2
          go_region
          go_wp2
          go_ret
          refine ⟨retf (decide_eq_false ?_), hB.drew⟩
          rintro rfl
          exact hxy (HX.out.symm.trans HY.out)
      · obtain rfl : i = n := by omega
        go_wp2
        go_ret
        refine ⟨rett (decide_eq_true ?_), hB⟩
        refine List.ext_getElem (h.1.trans k.1.symm) fun j h1 h2 => ?_
        have := hj j (by have := h.1; omega)
        simpa [h1, h2] using this
  · have e : ¬ (n : Int) = m := by omega
    go_enter Try.func22, Try.ntmps22
    go_wp2
    go_ret
    refine ⟨retf (decide_eq_false ?_), Below.refl _ _⟩
    rintro rfl
    exact hnm (h.1.symm.trans k.1)
set_option maxHeartbeats 1000000 in
theorem markI (g n c : Nat) (xs : List Int) (k : Int) (w : World) (h : Is w g n c xs) (hn : n ≤ 1048576) (k0 : 0 ≤ k) (k1 : k ≤ 1048576) :
    Calls Try.prog 25 #[.slice (some ⟨g, 0, none⟩) n c, .int .i64 k] w fun e w' => e = .returned (.int .i64 (k + n)) ∧ Is w' g n c (marks k n) ∧ Kept g w w' := by
  go_enter Try.func25, Try.ntmps25
  go_wp2
  go_loopg [1, 5] n (fun g' x y wr => ∃ i : Nat, i ≤ n ∧ g' = n - i ∧ x = .int .i64 (k + i) ∧ y = .int .i64 i ∧ Is wr g n c (marks k i ++ xs.drop i) ∧ Kept g w wr)
  case atStart => exact ⟨0, Nat.zero_le _, rfl, by simp, rfl, by simpa [marks] using h, Kept.refl _ _⟩
  case round =>
    obtain ⟨i, i0, hg, rfl, rfl, hW, hK⟩ := hrel
    by_cases hi : i < n
    · have hi' : (i : Int) < n := by omega
      have hw := hW.set i (k + i)
      rw [marks_set k h.len hi] at hw
      have c1 := hW.cell i hi
      have f1 := hW.frozen i
      go_wp2
      go_roundg (gk - 1)
      case measure => omega
      case rel =>
        refine ⟨i + 1, by omega, by omega, by go_num, by go_num, ?_, hK.set _ _⟩
        simpa using hw
    · obtain rfl : i = n := by omega
      go_wp2
      go_ret
      refine ⟨rfl, ?_, hK⟩
      have e := h.len
      simpa [← e] using hW
set_option maxHeartbeats 1000000 in
theorem heldI (a : Option Addr) (n c : Nat) (k : Int) (w : World) (h : Nsrc w a n (marks k n)) (hn : n ≤ 1048576) (k0 : 0 ≤ k) (k1 : k ≤ 1048576) :
    Calls Try.prog 26 #[.slice a n c, .int .i64 k] w fun e w' => e = .returned (.int .i64 (k + n)) ∧ Below w.heap.size w w' := by
  go_enter Try.func26, Try.ntmps26
  go_wp2
  go_loopg [1, 5] n (fun g' x y wr => ∃ i : Nat, i ≤ n ∧ g' = n - i ∧ x = .int .i64 (k + i) ∧ y = .int .i64 i ∧ Below w.heap.size w wr)
  case atStart => exact ⟨0, Nat.zero_le _, rfl, by simp, rfl, Below.refl _ _⟩
  case round =>
    obtain ⟨i, i0, hg, rfl, rfl, hB⟩ := hrel
    by_cases hi : i < n
    · have hi' : (i : Int) < n := by omega
      obtain ⟨b1, o1, rfl, hl1, hc1⟩ := h.2.resolve_left (by omega)
      have c1 : wr.cell? ⟨b1, o1 + i, none⟩ = some (.int .i64 (k + i)) := (hB.cell (p := ⟨b1, o1 + i, none⟩) hl1).trans ((hc1 i hi).trans (by rw [marks_getD _ _ _ hi]))
      go_wp2
      go_roundg (gk - 1)
      case measure => omega
      case rel => exact ⟨i + 1, by omega, by omega, by go_num, by go_num, hB⟩
    · obtain rfl : i = n := by omega
      go_wp2
      go_ret
      exact ⟨rfl, hB⟩
end Go.Proofs.Ytmldeigbaafclaa
