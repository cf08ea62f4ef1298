/-
  Arenas: what the specification's functions of the arenas' chapter do with a list of words.
-/
import Derived.Test.YtdebjfgflldpjaaWds2
import Derived.Test.YtdebjfgflldpjaaPlan
import Derived.OwnWalk
namespace Go.Proofs.Ytdebjfgflldpjaa
open Go.RowKit
set_option linter.unusedVariables false
/-- Is that a place of a list of n words? -/
def thr (at_ : Int) (n : Nat) : Bool := decide (0 ≤ at_ ∧ at_ < (n : Int))
theorem thr_inB (a : Int) (n : Nat) : inB a 0 ((n : Int) - 1) = thr a n := by
  unfold inB thr
  rw [decide_eq_decide]
  omega
theorem thr_true {a : Int} {n : Nat} (h : thr a n = true) : ∃ i : Nat, i < n ∧ a = (i : Int) := by
  have := of_decide_eq_true h
  exact ⟨a.toNat, by omega, by omega⟩
theorem thr_nat {i n : Nat} (h : i < n) : thr (i : Int) n = true := decide_eq_true (by omega)
/-- What a write of x at a place leaves. -/
def wrote (xs : List Int) (a x : Int) : List Int := if thr a xs.length then xs.set a.toNat x else xs
/-- What a swap from y to x at a place leaves, and whether it is done. -/
def swaps (xs : List Int) (a y : Int) : Bool := thr a xs.length && xs.getD a.toNat 0 == y
def swapped (xs : List Int) (a y x : Int) : List Int := if swaps xs a y then xs.set a.toNat x else xs
theorem wlit (w : World) (B : Nat) (hb : B ≤ w.heap.size) : (w.alloc (.cells #[] 34)).ownsRow B 34 1 (.slice (some ⟨w.heap.size, 0, none⟩) 0 0) 0 [] :=
  ⟨by simp, .inr ⟨w.heap.size, 0, #[], rfl, hb, by show (w.heap.push _)[w.heap.size]? = _; simp, Nat.le_refl _, Nat.zero_le _, by simp, by simp⟩⟩
theorem Ws.news {w : World} {g n c : Nat} {xs : List Int} (h : Ws w g n c xs) : ∀ (j : Nat) (u : Value), (xs.map (Value.int .u64))[j]? = some u → w.cell? ((⟨g, 0, none⟩ : Addr).add j) = some u := by
  intro j u hj
  have hj' : j < n := by
    have := (List.getElem?_eq_some_iff.1 hj).1
    simpa [h.len] using this
  have hc := h.cell j hj'
  have e : ((⟨g, 0, none⟩ : Addr).add j) = ⟨g, j, none⟩ := by cases j <;> simp [Addr.add]
  rw [e, hc, ← hj]
  simp [h.len, hj']
theorem u64_one (xs : List Int) : ∀ u ∈ xs.map (Value.int .u64), u.oneCell' = true := by
  intro u hu
  obtain ⟨x, -, rfl⟩ := List.mem_map.1 hu
  rfl
theorem Ws.of_own {w : World} {B n : Nat} {v : Value} {xs : List Int} (hl : xs.length = n) (ho : w.ownsRow B 34 1 v n (xs.map (Value.int .u64))) (hv : v ≠ .slice none 0 0) (hb : ∀ x ∈ xs, 0 ≤ x ∧ x ≤ 18446744073709551615) :
    ∃ g c, v = .slice (some ⟨g, 0, none⟩) n c ∧ B ≤ g ∧ Ws w g n c xs := by
  rcases ho.2 with ⟨h, _⟩ | ⟨g, c, cur, rfl, h1, h2⟩
  · exact absurd h hv
  · exact ⟨g, c, rfl, h1, hl, ⟨ho.1, .inr ⟨g, c, cur, rfl, Nat.zero_le _, h2⟩⟩, hb⟩
theorem wrote_y {xs : List Int} {i n : Nat} {x : Int} (hl : xs.length = n) (h : i < n) : wrote xs (i : Int) x = xs.set i x := by
  unfold wrote
  rw [hl, thr_nat h]
  simp
theorem wrote_n {xs : List Int} {n : Nat} {a x : Int} (hl : xs.length = n) (h : thr a n = false) : wrote xs a x = xs := by
  unfold wrote
  rw [hl, h]
  simp
theorem swap_y {xs : List Int} {i n : Nat} {y x : Int} (hl : xs.length = n) (h : i < n) (hy : xs.getD i 0 = y) : swaps xs (i : Int) y = true ∧ swapped xs (i : Int) y x = xs.set i x := by
  have e : swaps xs (i : Int) y = true := by
    unfold swaps
    rw [hl, thr_nat h]
    simp only [Int.toNat_natCast, hy]
    simp
  refine ⟨e, ?_⟩
  unfold swapped
  rw [e]
  simp
theorem swap_n {xs : List Int} {n : Nat} {a y x : Int} (hl : xs.length = n) (h : thr a n = false ∨ xs.getD a.toNat 0 ≠ y) : swaps xs a y = false ∧ swapped xs a y x = xs := by
  have e : swaps xs a y = false := by
    unfold swaps
    rw [hl]
    rcases h with h | h
    · rw [h]; rfl
    · rw [beq_eq_false_iff_ne.2 h, Bool.and_false]
  refine ⟨e, ?_⟩
  unfold swapped
  rw [e]
  simp
theorem toP2 {v v' : Value} {a b : Bool} (hv : v = v') (h : a = b) : Ending.returned (.tuple #[v, .bool a]) = .returned (.tuple #[v', .bool b]) := by rw [h, hv]
/-- What is read at a place. -/
def red (xs : List Int) (a : Int) : Int := if thr a xs.length then xs.getD a.toNat 0 else 0
end Go.Proofs.Ytdebjfgflldpjaa
