/-
  The laws' helpers over lists of words: a copy, likeness, marks.
-/
import Derived.Test.YtdebjfgflldpjaaWds
import Derived.WalkKit
import Derived.Deep.LoopGhost
import Derived.Deep.OwnRows
namespace Go.Proofs.Ytdebjfgflldpjaa
open Go.RowKit
set_option linter.unusedVariables false
theorem rett {b : Bool} (h : b = true) : Ending.returned (.bool true) = .returned (.bool b) := by rw [h]
theorem retf {b : Bool} (h : b = false) : Ending.returned (.bool false) = .returned (.bool b) := by rw [h]
theorem infoU : (Try.prog.info? 34).map (fun i => (i.zero, i.size, i.bytes)) = some (some (.int .u64 0), 1, 8) := by kernel_rfl
theorem take_put {xs : List Int} {i n : Nat} (hl : xs.length = n) (hi : i < n) : (xs.take i ++ List.replicate (n - i) 0).set i (xs.getD i 0) = xs.take (i + 1) ++ List.replicate (n - (i + 1)) 0 := by
  rw [show n - i = (n - (i + 1)) + 1 from by omega, List.replicate_succ, List.set_append_right _ _ (by simp; omega), List.take_add_one]
  have e : i - (xs.take i).length = 0 := by simp; omega
  rw [e]
  have h2 : xs[i]? = some (xs.getD i 0) := by simp [hl, hi]
  rw [h2]
  simp
set_option maxHeartbeats 1000000 in
theorem toU (a : Option Addr) (n cap : Nat) (xs : List Int) (w : World) (h : Src w a n xs) (bd : ∀ x ∈ xs, 0 ≤ x ∧ x ≤ 18446744073709551615) (hn : n ≤ 1048576) :
    Calls Try.prog 6 #[.slice a n cap] w fun e w' => e = .returned (.slice (some ⟨w.heap.size, 0, none⟩) n n) ∧ Ws w' w.heap.size n n xs ∧ Below w.heap.size w w' := by
  have hmk := run_make_row' (P := Try.prog) 24 34 (.int .u64 0) 8 Try.underlying24 infoU rfl .i64 .i64 n (by omega) (by omega)
  have hW := Ws.made w n (by omega)
  have hB : Below w.heap.size w (w.alloc (.cells (madeCells #[.int .u64 0] n) 34)) := (Below.refl _ _).alloc (Nat.le_refl _) _
  go_enter Try.func6, Try.ntmps6
  go_wp2
  obtain ⟨G, hG⟩ : ∃ G : Nat, Hid (G = w.heap.size) := ⟨_, rfl⟩
  rw [← hG.out]
  go_loopg [4] n (fun g y wr => ∃ i : Nat, i ≤ n ∧ g = n - i ∧ y = .int .i64 i ∧ Ws wr G n n (xs.take i ++ List.replicate (n - i) 0) ∧ Below G w wr)
  case atStart => exact ⟨0, Nat.zero_le _, rfl, rfl, by rw [hG.out]; simpa using hW, by rw [hG.out]; exact hB⟩
  case round =>
    clear hW hB hmk
    obtain ⟨i, i0, hg, rfl, hW, hB⟩ := hrel
    by_cases hi : i < n
    · have hi' : (i : Int) < n := by omega
      have hb0 := bd_getD bd i
      have hw := hW.set i (xs.getD i 0) hb0
      rw [take_put h.1 hi] at hw
      obtain ⟨b, o, rfl, hl, hc⟩ := h.2.resolve_left (by omega)
      have c0 : wr.cell? ⟨b, o + i, none⟩ = some (.int .u64 (xs.getD i 0)) := (hB.cell (p := ⟨b, o + i, none⟩) (by show b < G; rw [hG.out]; exact hl)).trans (hc i hi)
      have c1 := hW.cell i hi
      have f1 := hW.frozen i
      obtain ⟨x, hx⟩ : ∃ x : Int, xs.getD i 0 = x := ⟨_, rfl⟩
      rw [hx] at c0 hw
      go_wp2
      go_roundg (gk - 1)
      case measure => omega
      case rel => exact ⟨i + 1, by omega, by omega, by go_num, hw, hB.setCell (p := ⟨G, i, none⟩) (Nat.le_refl _) _⟩
    · obtain rfl : i = n := by omega
      go_wp2
      go_ret
      rw [← hG.out]
      refine ⟨rfl, ?_, hB⟩
      have e := h.1
      simpa [← e] using hW
set_option maxHeartbeats 1000000 in
theorem eqU (a b : Option Addr) (n m ca cb : Nat) (xs ys : List Int) (w : World) (h : Src w a n xs) (k : Src w b m ys) (hn : n ≤ 9223372036854775807) (hm : m ≤ 9223372036854775807) :
    Calls Try.prog 8 #[.slice a n ca, .slice b m cb] w fun e w' => e = .returned (.bool (decide (xs = ys))) ∧ Below w.heap.size w w' := by
  by_cases hnm : n = m
  · subst hnm
    go_enter Try.func8, Try.ntmps8
    go_wp2
    go_loopg [5] n (fun g y wr => ∃ i : Nat, i ≤ n ∧ g = n - i ∧ y = .int .i64 i ∧ (∀ j, j < i → xs.getD j 0 = ys.getD j 0) ∧ Below w.heap.size w wr)
    case atStart => exact ⟨0, Nat.zero_le _, rfl, rfl, fun j hj => by omega, Below.refl _ _⟩
    case round =>
      obtain ⟨i, i0, hg, rfl, hj, hB⟩ := hrel
      by_cases hi : i < n
      · have hi' : (i : Int) < n := by omega
        obtain ⟨b1, o1, rfl, hl1, hc1⟩ := h.2.resolve_left (by omega)
        obtain ⟨b2, o2, rfl, hl2, hc2⟩ := k.2.resolve_left (by omega)
        have c1 : wr.cell? ⟨b1, o1 + i, none⟩ = some (.int .u64 (xs.getD i 0)) := (hB.cell (p := ⟨b1, o1 + i, none⟩) hl1).trans (hc1 i hi)
        have c2 : wr.cell? ⟨b2, o2 + i, none⟩ = some (.int .u64 (ys.getD i 0)) := (hB.cell (p := ⟨b2, o2 + i, none⟩) hl2).trans (hc2 i hi)
        obtain ⟨x, hx⟩ : ∃ x : Int, xs.getD i 0 = x := ⟨_, rfl⟩
        obtain ⟨y, hy⟩ : ∃ y : Int, ys.getD i 0 = y := ⟨_, rfl⟩
        rw [hx] at c1
        rw [hy] at c2
        have HJ : Hid (∀ j, j < i → xs.getD j 0 = ys.getD j 0) := hj
        have HX : Hid (xs.getD i 0 = x) := hx
        have HY : Hid (ys.getD i 0 = y) := hy
        clear hj hx hy
        by_cases hxy : x = y
        · subst hxy
          go_wp2
          go_region
          go_wp2
          go_roundg (gk - 1)
          case measure => omega
          case rel =>
            refine ⟨i + 1, by omega, by omega, by go_num, fun j hj => ?_, hB.drew⟩
            by_cases hji : j = i
            · subst hji; rw [HX.out, HY.out]
            · exact HJ.out j (by omega)
        · go_wp2
          go_region
          go_wp2
          go_ret
          refine ⟨retf (decide_eq_false ?_), hB.drew⟩
          rintro rfl
          exact hxy (HX.out.symm.trans HY.out)
      · obtain rfl : i = n := by omega
        go_wp2
        go_ret
        refine ⟨rett (decide_eq_true ?_), hB⟩
        refine List.ext_getElem (h.1.trans k.1.symm) fun j h1 h2 => ?_
        have := hj j (by have := h.1; omega)
        simpa [h1, h2] using this
  · have e : ¬ (n : Int) = m := by omega
    go_enter Try.func8, Try.ntmps8
    go_wp2
    go_ret
    refine ⟨retf (decide_eq_false ?_), Below.refl _ _⟩
    rintro rfl
    exact hnm (h.1.symm.trans k.1)
/-- The marks from k on. -/
def marks (k : Int) (n : Nat) : List Int := (List.range n).map (fun (i : Nat) => k + (i : Int))
theorem marks_length (k : Int) (n : Nat) : (marks k n).length = n := by simp [marks]
theorem marks_getD (k : Int) (n i : Nat) (h : i < n) : (marks k n).getD i 0 = k + i := by simp [marks, h]
theorem marks_set {xs : List Int} {i n : Nat} (k : Int) (hl : xs.length = n) (hi : i < n) : (marks k i ++ xs.drop i).set i (k + i) = marks k (i + 1) ++ xs.drop (i + 1) := by
  rw [List.set_append_right _ _ (by rw [marks_length]; exact Nat.le_refl _)]
  rw [marks_length, Nat.sub_self]
  have hd : xs.drop i = xs[i]'(by omega) :: xs.drop (i + 1) := List.drop_eq_getElem_cons (by omega)
  rw [hd, List.set_cons_zero]
  simp [marks, List.range_succ]
end Go.Proofs.Ytdebjfgflldpjaa
