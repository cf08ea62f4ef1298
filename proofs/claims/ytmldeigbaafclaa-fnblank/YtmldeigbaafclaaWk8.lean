/-
  Walks: what stands in the queue.
-/
import Derived.Test.YtmldeigbaafclaaWk7
namespace Go.Proofs.Ytmldeigbaafclaa
open Go.RowKit
set_option linter.unusedVariables false
set_option linter.unusedSimpArgs false
theorem lineN_y {p s l c k : Int} {n : Nat} {xs : List Int} {ys : List Int} (h : lineNodes p s l c k n xs = some ys) : 0 < ys.length ∧ nodes p s l c k n xs 3 = some ys := by
  unfold lineNodes at h
  cases hR : nodes p s l c k n xs 3 with
  | none => rw [hR] at h; cases h
  | some zs =>
    rw [hR] at h
    change (if rt p s l c k xs 4 ∈ zs then some zs else none) = some ys at h
    split at h
    · rename_i hm
      cases h
      exact ⟨List.length_pos_of_mem hm, rfl⟩
    · cases h
theorem Nsrc.tail {w : World} {g o m : Nat} {ys : List Int} (h : Nsrc w (some ⟨g, o, none⟩) m ys) (hm : 0 < m) (a : Option Addr) (ha : 1 < m → a = some ⟨g, o + 1, none⟩) : Nsrc w a (m - 1) (ys.drop 1) := by
  refine ⟨by rw [List.length_drop, h.1], ?_⟩
  by_cases h1 : 1 < m
  · rw [ha h1]
    rcases h.2 with h0 | ⟨b, o', e, hl, hc⟩
    · omega
    · cases e
      refine .inr ⟨g, o + 1, rfl, hl, fun i hi => ?_⟩
      have := hc (i + 1) (by omega)
      rw [show o + (i + 1) = o + 1 + i from by omega] at this
      rw [this]
      have hlen := h.1
      simp [List.getElem?_drop, Nat.add_comm]
  · exact .inl (by omega)
theorem run_tail (g m cc : Nat) (hm : m ≤ cc) : ∃ A : Option Addr, (1 < m + 1 → A = some ⟨g, 0 + 1, none⟩) ∧ ∀ w : World, (Instr.sliceAt 29 (.slice (some ⟨g, 0, none⟩) (m + 1) (cc + 1)) (some (.int .i64 1)) none none).run Try.prog w = .ok (.slice A m cc) w := by
  refine ⟨if cc = 0 then some ⟨g, 0, none⟩ else some ⟨g, 0 + 1, none⟩, fun h => by rw [if_neg (by omega)], fun w => ?_⟩
  rw [run_sliceAt_slice _ _ _ _ _ _ (by rfl), run_slice_l _ _ _ _ _ (by rfl) _ _ (by omega) (by omega)]
  by_cases hc : cc = 0
  · subst hc
    obtain rfl : m = 0 := by omega
    simp [go_sem, sliced]
  · simp [go_sem, sliced, hc, Addr.add]
theorem Is.cap {w : World} {g n c : Nat} {xs : List Int} (h : Is w g n c xs) : n ≤ c := by
  rcases h.own.2 with ⟨e, _⟩ | ⟨g', cap, cur, e, _, h2, h3, _⟩
  · cases e
  · cases e
    exact h3
theorem Is.cap_le {w : World} {g n c : Nat} {xs : List Int} (h : Is w g n c xs) : c ≤ maxLen := by
  rcases h.own.2 with ⟨e, _⟩ | ⟨g', cap, cur, e, _, h2, h3, h4, _⟩
  · cases e
  · cases e
    exact h4
set_option maxHeartbeats 2000000 in
theorem iLineO (p s l c k : Int) (a : Option Addr) (n cap : Nat) (xs : List Int) (w : World) (h : Src w a n xs) (bd : ∀ x ∈ xs, 0 ≤ x ∧ x ≤ 18446744073709551615) (hn : n ≤ 16777216) :
    Calls Try.prog 15 #[.agg #[.int .i64 p, .int .i64 s, .int .i64 l, .int .i64 c, .int .i64 k], .slice a n cap] w fun e w' => gives w w' e (lineOf p s l c k n xs) := by
  have z : Below w.heap.size w (w.alloc (Obj.cells #[.int .i64 p, .int .i64 s, .int .i64 l, .int .i64 c, .int .i64 k] 25)) := (Below.refl _ _).alloc (Nat.le_refl _) _
  have B := Box5.new w (.int .i64 p) (.int .i64 s) (.int .i64 l) (.int .i64 c) (.int .i64 k) 25
  replace h := h.keep z
  obtain ⟨c0, c1, c2, c3, c4⟩ := B.five
  unfold lineOf
  have hYY : ∀ ys, lineNodes p s l c k n xs = some ys → 0 < ys.length ∧ nodes p s l c k n xs 3 = some ys := fun ys h => lineN_y h
  have hok := nodes_ok (p := p) (s := s) (l := l) (c := c) (k := k) (n := n) (xs := xs) (r := 3)
  generalize hR : lineNodes p s l c k n xs = R at hYY ⊢
  have HR : Hid (lineNodes p s l c k n xs = R) := hR
  clear hR
  cases R with
  | none =>
    go_enter Try.func15, Try.ntmps15
    go_wp2_with (go_at_call 30; refine (iLineN _ _ _ _ _ _ _ _ xs _ h bd hn).mono ?_; rintro e w1 hG; rw [HR.out] at hG; obtain ⟨g, m, cc, rfl, hg0, hI, hm9, hb⟩ := hG.n; clear hG; replace B := B.keep hb; replace z := z.trans (hb.mono z.size); replace h := h.keep hb; clear hb c0 c1 c2 c3 c4; obtain ⟨c0, c1, c2, c3, c4⟩ := B.five)
    go_returns
    exact gives.none_lit z
  | some ys =>
    obtain ⟨y0, hn3⟩ := hYY ys rfl
    rw [hn3] at hok
    clear hYY hn3
    have hok2 : ∀ y ∈ ys.drop 1, ∃ i : Nat, vBlock p s l c k y 2 = (i : Int) ∧ i < n := fun y hy => hok y (List.mem_of_mem_drop hy)
    have HOK : Hid (∀ y ∈ ys.drop 1, ∃ i : Nat, vBlock p s l c k y 2 = (i : Int) ∧ i < n) := hok2
    clear hok hok2
    go_enter Try.func15, Try.ntmps15
    go_upto_region 4 with (go_at_call 30; refine (iLineN _ _ _ _ _ _ _ _ xs _ h bd hn).mono ?_; rintro e w1 hG; rw [HR.out] at hG; obtain ⟨g, m, cc, rfl, hg0, hI, hm9, hb⟩ := hG.y; clear hG; replace B := B.keep hb; replace z := z.trans (hb.mono z.size); replace h := h.keep hb; clear hb c0 c1 c2 c3 c4; obtain ⟨c0, c1, c2, c3, c4⟩ := B.five)
    have yl := hI.len
    have hcc : m ≤ cc := hI.cap
    have cl := hI.cap_le
    obtain ⟨m', rfl⟩ : ∃ m', m = m' + 1 := ⟨m - 1, by omega⟩
    obtain ⟨cc', rfl⟩ : ∃ cc', cc = cc' + 1 := ⟨cc - 1, by omega⟩
    obtain ⟨A, hA, hsl⟩ := run_tail g m' cc' (by omega)
    replace B := B.keep (Below.refl _ _).drew
    replace h := h.keep (Below.refl _ _).drew
    replace hI := hI.keep (Below.refl _ _).drew
    replace z := z.drew
    go_region_held3 (fun w' => w'.cell? ⟨w.heap.size, 0, none⟩ = some (.int .i64 p) ∧ w'.cell? ⟨w.heap.size, 1, none⟩ = some (.int .i64 s) ∧ w'.cell? ⟨w.heap.size, 2, none⟩ = some (.int .i64 l) ∧ w'.cell? ⟨w.heap.size, 3, none⟩ = some (.int .i64 c) ∧ w'.cell? ⟨w.heap.size, 4, none⟩ = some (.int .i64 k)) (go_keep)
      (first
      | (go_at_call 43; refine (iVals _ _ _ _ _ _ _ _ xs _ _ _ (ys.drop 1) _ h bd hn (Nsrc.tail hI.src (by omega) _ hA) (by omega) HOK.out).mono ?_; rintro e w2 ⟨g2, m2, cc2, rfl, hg2, hI2, hm2, hb⟩; have B2 := B.keep hb; obtain ⟨c0, c1, c2, c3, c4⟩ := B2.five))
    go_wp2
    go_returns
    exact ⟨g2, m2, cc2, rfl, Nat.le_trans z.size hg2, hI2, hm2, z.trans (hb.mono z.size)⟩
set_option maxHeartbeats 2000000 in
theorem sLineO (p s l c k : Int) (a : Option Addr) (n cap : Nat) (xs : List Int) (w : World) (h : Src w a n xs) (bd : ∀ x ∈ xs, 0 ≤ x ∧ x ≤ 18446744073709551615) (hn : n ≤ 16777216) :
    Calls Try.prog 32 #[.agg #[.int .i64 p, .int .i64 s, .int .i64 l, .int .i64 c, .int .i64 k], .slice a n cap] w fun e w' => gives w w' e (lineOf p s l c k n xs) := by
  have z : Below w.heap.size w (w.alloc (Obj.cells #[.int .i64 p, .int .i64 s, .int .i64 l, .int .i64 c, .int .i64 k] 25)) := (Below.refl _ _).alloc (Nat.le_refl _) _
  have B := Box5.new w (.int .i64 p) (.int .i64 s) (.int .i64 l) (.int .i64 c) (.int .i64 k) 25
  replace h := h.keep z
  obtain ⟨c0, c1, c2, c3, c4⟩ := B.five
  unfold lineOf
  have hYY : ∀ ys, lineNodes p s l c k n xs = some ys → 0 < ys.length ∧ nodes p s l c k n xs 3 = some ys := fun ys h => lineN_y h
  have hok := nodes_ok (p := p) (s := s) (l := l) (c := c) (k := k) (n := n) (xs := xs) (r := 3)
  generalize hR : lineNodes p s l c k n xs = R at hYY ⊢
  have HR : Hid (lineNodes p s l c k n xs = R) := hR
  clear hR
  cases R with
  | none =>
    go_enter Try.func32, Try.ntmps32
    go_wp2_with (go_at_call 29; refine (sLineN _ _ _ _ _ _ _ _ xs _ h bd hn).mono ?_; rintro e w1 hG; rw [HR.out] at hG; obtain ⟨g, m, cc, rfl, hg0, hI, hm9, hb⟩ := hG.n; clear hG; replace B := B.keep hb; replace z := z.trans (hb.mono z.size); replace h := h.keep hb; clear hb c0 c1 c2 c3 c4; obtain ⟨c0, c1, c2, c3, c4⟩ := B.five)
    go_returns
    exact gives.none_lit z
  | some ys =>
    obtain ⟨y0, hn3⟩ := hYY ys rfl
    rw [hn3] at hok
    clear hYY hn3
    have hok2 : ∀ y ∈ ys.drop 1, ∃ i : Nat, vBlock p s l c k y 2 = (i : Int) ∧ i < n := fun y hy => hok y (List.mem_of_mem_drop hy)
    have HOK : Hid (∀ y ∈ ys.drop 1, ∃ i : Nat, vBlock p s l c k y 2 = (i : Int) ∧ i < n) := hok2
    clear hok hok2
    go_enter Try.func32, Try.ntmps32
    go_upto_region 4 with (go_at_call 29; refine (sLineN _ _ _ _ _ _ _ _ xs _ h bd hn).mono ?_; rintro e w1 hG; rw [HR.out] at hG; obtain ⟨g, m, cc, rfl, hg0, hI, hm9, hb⟩ := hG.y; clear hG; replace B := B.keep hb; replace z := z.trans (hb.mono z.size); replace h := h.keep hb; clear hb c0 c1 c2 c3 c4; obtain ⟨c0, c1, c2, c3, c4⟩ := B.five)
    have yl := hI.len
    have hcc : m ≤ cc := hI.cap
    have cl := hI.cap_le
    obtain ⟨m', rfl⟩ : ∃ m', m = m' + 1 := ⟨m - 1, by omega⟩
    obtain ⟨cc', rfl⟩ : ∃ cc', cc = cc' + 1 := ⟨cc - 1, by omega⟩
    obtain ⟨A, hA, hsl⟩ := run_tail g m' cc' (by omega)
    replace B := B.keep (Below.refl _ _).drew
    replace h := h.keep (Below.refl _ _).drew
    replace hI := hI.keep (Below.refl _ _).drew
    replace z := z.drew
    go_region_held3 (fun w' => w'.cell? ⟨w.heap.size, 0, none⟩ = some (.int .i64 p) ∧ w'.cell? ⟨w.heap.size, 1, none⟩ = some (.int .i64 s) ∧ w'.cell? ⟨w.heap.size, 2, none⟩ = some (.int .i64 l) ∧ w'.cell? ⟨w.heap.size, 3, none⟩ = some (.int .i64 c) ∧ w'.cell? ⟨w.heap.size, 4, none⟩ = some (.int .i64 k)) (go_keep)
      (first
      | (go_at_call 53; refine (sVals _ _ _ _ _ _ _ _ xs _ _ _ (ys.drop 1) _ h bd hn (Nsrc.tail hI.src (by omega) _ hA) (by omega) HOK.out).mono ?_; rintro e w2 ⟨g2, m2, cc2, rfl, hg2, hI2, hm2, hb⟩; have B2 := B.keep hb; obtain ⟨c0, c1, c2, c3, c4⟩ := B2.five))
    go_wp2
    go_returns
    exact ⟨g2, m2, cc2, rfl, Nat.le_trans z.size hg2, hI2, hm2, z.trans (hb.mono z.size)⟩
end Go.Proofs.Ytmldeigbaafclaa
