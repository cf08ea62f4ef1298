/-
  What WriteAt and SwapAt answer.
-/
import Derived.Test.YtjimmfnloeecjaaPag4
namespace Go.Proofs.Ytjimmfnloeecjaa
open Go.RowKit
set_option linter.unusedVariables false
set_option linter.unusedSimpArgs false
/-- The struct that wordsOf answered, laid into a variable. -/
theorem Wst.new {w : World} {B n : Nat} {pv : Value} {ps : List (Nat × Nat)} {xs : List Int} (hl : xs.length = n) (P : Pgs w B pv ps ((n + 63) / 64) xs) (hB : B ≤ w.heap.size) :
    Wst (w.alloc (.cells #[pv, .int .i64 n] 55)) B w.heap.size n xs := by
  refine ⟨⟨pv, ps, At.new _ _ _, P.keep ((Below.refl _ _).alloc (Nat.le_refl _) _), fun e => ?_, fun p hp => ?_⟩, hl, hB⟩
  · have := (World.ownsRow.lt P.own _ e).2
    omega
  · obtain ⟨i, hi⟩ := List.getElem?_of_mem hp
    have := (P.pg i p hi).1
    omega
theorem wrote_bd {xs : List Int} {x : Int} (bd : ∀ x ∈ xs, 0 ≤ x ∧ x ≤ 18446744073709551615) (hx : 0 ≤ x ∧ x ≤ 18446744073709551615) (a : Int) : ∀ y ∈ wrote xs a x, 0 ≤ y ∧ y ≤ 18446744073709551615 := by
  intro y hy
  unfold wrote at hy
  split at hy
  · rcases List.mem_or_eq_of_mem_set hy with hy | rfl
    · exact bd y hy
    · exact hx
  · exact bd y hy
theorem swapped_bd {xs : List Int} {x : Int} (bd : ∀ x ∈ xs, 0 ≤ x ∧ x ≤ 18446744073709551615) (hx : 0 ≤ x ∧ x ≤ 18446744073709551615) (a s : Int) : ∀ y ∈ swapped xs a s x, 0 ≤ y ∧ y ≤ 18446744073709551615 := by
  intro y hy
  unfold swapped at hy
  split at hy
  · rcases List.mem_or_eq_of_mem_set hy with hy | rfl
    · exact bd y hy
    · exact hx
  · exact bd y hy
set_option maxHeartbeats 2000000 in
theorem iWrite (g n c : Nat) (xs : List Int) (at_ x : Int) (w : World) (h : Ws w g n c xs) (hn : n ≤ 16777216) (x0 : 0 ≤ x) (x1 : x ≤ 18446744073709551615) :
    Calls Try.prog 20 #[.slice (some ⟨g, 0, none⟩) n c, .int .i64 at_, .int .u64 x] w fun e w' => ∃ g' c', e = .returned (.tuple #[.slice (some ⟨g', 0, none⟩) n c', .bool (thr at_ n)]) ∧ w.heap.size ≤ g' ∧ Ws w' g' n c' (wrote xs at_ x) ∧ Below w.heap.size w w' := by
  go_enter Try.func20, Try.ntmps20
  go_wp2_with fail
  refine (iWords g n c xs _ h hn).mono ?_
  rintro e w1 ⟨pv, rfl, ⟨ps, P⟩, hb⟩
  have W := Wst.new h.len P hb.size
  replace hb := hb.alloc hb.size (.cells #[pv, .int .i64 n] 55)
  obtain ⟨pa, pb, pc, rfl⟩ := P.sl
  clear P
  have hq := hb.size
  go_wp2_with fail
  refine (iwWrite _ _ _ xs _ _ _ W hn).mono ?_
  rintro e w2 ⟨rfl, W2, hb2⟩
  replace hb := hb.trans hb2
  clear hb2 W
  go_wp2_with fail
  refine (iwList _ _ _ _ _ W2 hn (wrote_bd h.bd ⟨x0, x1⟩ _)).mono ?_
  rintro e w3 ⟨rfl, W3, hb3⟩
  have hs := hb.size
  replace hb := hb.trans (hb3.mono hs)
  go_wp2
  go_returns
  exact ⟨_, _, rfl, hs, W3, hb⟩
set_option maxHeartbeats 2000000 in
theorem iSwap (g n c : Nat) (xs : List Int) (at_ y x : Int) (w : World) (h : Ws w g n c xs) (hn : n ≤ 16777216) (x0 : 0 ≤ x) (x1 : x ≤ 18446744073709551615) :
    Calls Try.prog 22 #[.slice (some ⟨g, 0, none⟩) n c, .int .i64 at_, .int .u64 y, .int .u64 x] w fun e w' => ∃ g' c', e = .returned (.tuple #[.slice (some ⟨g', 0, none⟩) n c', .bool (swaps xs at_ y)]) ∧ w.heap.size ≤ g' ∧ Ws w' g' n c' (swapped xs at_ y x) ∧ Below w.heap.size w w' := by
  go_enter Try.func22, Try.ntmps22
  go_wp2_with fail
  refine (iWords g n c xs _ h hn).mono ?_
  rintro e w1 ⟨pv, rfl, ⟨ps, P⟩, hb⟩
  have W := Wst.new h.len P hb.size
  replace hb := hb.alloc hb.size (.cells #[pv, .int .i64 n] 55)
  obtain ⟨pa, pb, pc, rfl⟩ := P.sl
  clear P
  have hq := hb.size
  go_wp2_with fail
  refine (iwSwap _ _ _ xs _ _ _ _ W hn).mono ?_
  rintro e w2 ⟨rfl, W2, hb2⟩
  replace hb := hb.trans hb2
  clear hb2 W
  go_wp2_with fail
  refine (iwList _ _ _ _ _ W2 hn (swapped_bd h.bd ⟨x0, x1⟩ _ _)).mono ?_
  rintro e w3 ⟨rfl, W3, hb3⟩
  have hs := hb.size
  replace hb := hb.trans (hb3.mono hs)
  go_wp2
  go_returns
  exact ⟨_, _, rfl, hs, W3, hb⟩
end Go.Proofs.Ytjimmfnloeecjaa
