/-
  The laws' likeInts; lists put together.
-/
import Derived.Test.YtmldeigbaafclaaInts
import Derived.Test.YtmldeigbaafclaaBlk
namespace Go.Proofs.Ytmldeigbaafclaa
open Go.RowKit
set_option linter.unusedVariables false
set_option linter.unusedSimpArgs false
set_option maxHeartbeats 1000000 in
theorem likeI (a b : Option Addr) (n m ca cb : Nat) (xs ys : List Int) (w : World) (h : Nsrc w a n xs) (k : Nsrc w b m ys) (hn : n ≤ 9223372036854775807) (hm : m ≤ 9223372036854775807) :
    Calls Try.prog 17 #[.slice a n ca, .slice b m cb] w fun e w' => e = .returned (.bool (decide (xs = ys))) ∧ Below w.heap.size w w' := by
  by_cases hnm : n = m
  · subst hnm
    go_enter Try.func17, Try.ntmps17
    go_wp2
    go_loopg [5] n (fun g y wr => ∃ i : Nat, i ≤ n ∧ g = n - i ∧ y = .int .i64 i ∧ (∀ j, j < i → xs.getD j 0 = ys.getD j 0) ∧ Below w.heap.size w wr)
    case atStart => exact ⟨0, Nat.zero_le _, rfl, rfl, fun j hj => by omega, Below.refl _ _⟩
    case round =>
      obtain ⟨i, i0, hg, rfl, hj, hB⟩ := hrel
      by_cases hi : i < n
      · have hi' : (i : Int) < n := by omega
        obtain ⟨b1, o1, rfl, hl1, hc1⟩ := h.2.resolve_left (by omega)
        obtain ⟨b2, o2, rfl, hl2, hc2⟩ := k.2.resolve_left (by omega)
        have c1 : wr.cell? ⟨b1, o1 + i, none⟩ = some (.int .i64 (xs.getD i 0)) := (hB.cell (p := ⟨b1, o1 + i, none⟩) hl1).trans (hc1 i hi)
        have c2 : wr.cell? ⟨b2, o2 + i, none⟩ = some (.int .i64 (ys.getD i 0)) := (hB.cell (p := ⟨b2, o2 + i, none⟩) hl2).trans (hc2 i hi)
        obtain ⟨x, hx⟩ : ∃ x : Int, xs.getD i 0 = x := ⟨_, rfl⟩
        obtain ⟨y, hy⟩ : ∃ y : Int, ys.getD i 0 = y := ⟨_, rfl⟩
        rw [hx] at c1
        rw [hy] at c2
        have HJ : Hid (∀ j, j < i → xs.getD j 0 = ys.getD j 0) := hj
        have HX : Hid (xs.getD i 0 = x) := hx
        have HY : Hid (ys.getD i 0 = y) := hy
        clear hj hx hy
        by_cases hxy : x = y
        · subst hxy
          go_wp2
          go_region
          go_wp2
          go_roundg (gk - 1)
          case measure => omega
          case rel =>
            refine ⟨i + 1, by omega, by omega, by go_num, fun j hj => ?_, hB.drew⟩
            by_cases hji : j = i
            · subst hji; rw [HX.out, HY.out]
            · exact HJ.out j (by omega)
        · go_wp2
          go_region
          go_wp2
          go_ret
          refine ⟨retf (decide_eq_false ?_), hB.drew⟩
          rintro rfl
          exact hxy (HX.out.symm.trans HY.out)
      · obtain rfl : i = n := by omega
        go_wp2
        go_ret
        refine ⟨rett (decide_eq_true ?_), hB⟩
        refine List.ext_getElem (h.1.trans k.1.symm) fun j h1 h2 => ?_
        have := hj j (by have := h.1; omega)
        simpa [h1, h2] using this
  · have e : ¬ (n : Int) = m := by omega
    go_enter Try.func17, Try.ntmps17
    go_wp2
    go_ret
    refine ⟨retf (decide_eq_false ?_), Below.refl _ _⟩
    rintro rfl
    exact hnm (h.1.symm.trans k.1)
theorem Is.news {w : World} {g n c : Nat} {xs : List Int} (h : Is w g n c xs) : ∀ (j : Nat) (u : Value), (xs.map (Value.int .i64))[j]? = some u → w.cell? ((⟨g, 0, none⟩ : Addr).add j) = some u := by
  intro j u hj
  by_cases hjn : j < n
  · have hc := h.cell j hjn
    have e : (⟨g, 0, none⟩ : Addr).add j = ⟨g, j, none⟩ := by unfold Addr.add; split <;> simp_all
    rw [e, hc]
    have hl := h.len
    rw [List.getElem?_map] at hj
    rw [← hj]
    simp [hl, hjn]
  · have hl := h.len
    rw [List.getElem?_eq_none (by simp; omega)] at hj
    cases hj
theorem i64_one (xs : List Int) : ∀ u ∈ xs.map (Value.int .i64), u.oneCell' = true := by
  intro u hu
  obtain ⟨x, _, rfl⟩ := List.mem_map.1 hu
  rfl
theorem Is.of_own {w : World} {B n : Nat} {v : Value} {xs : List Int} (hl : xs.length = n) (ho : w.ownsRow B 2 1 v n (xs.map (Value.int .i64))) (hv : v ≠ .slice none 0 0) :
    ∃ g c, v = .slice (some ⟨g, 0, none⟩) n c ∧ B ≤ g ∧ Is w g n c xs := by
  rcases ho.2 with ⟨h, _⟩ | ⟨g, c, cur, rfl, h1, h2⟩
  · exact absurd h hv
  · exact ⟨g, c, rfl, h1, hl, ⟨ho.1, .inr ⟨g, c, cur, rfl, Nat.zero_le _, h2⟩⟩⟩
end Go.Proofs.Ytmldeigbaafclaa
