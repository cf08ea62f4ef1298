/-
  Walks: the faces of the chapter: the specification's, the queue's, the values'.
-/
import Derived.Test.YtmldeigbaafclaaWk6
namespace Go.Proofs.Ytmldeigbaafclaa
open Go.RowKit
set_option linter.unusedVariables false
set_option linter.unusedSimpArgs false
theorem gives.n {w w' : World} {e : Ending} (h : gives w w' e none) : ∃ g m cc, e = .returned (.tuple #[.slice (some ⟨g, 0, none⟩) m cc, .bool false]) ∧ w.heap.size ≤ g ∧ Is w' g m cc [] ∧ m ≤ 250 ∧ Below w.heap.size w w' := h
theorem gives.y {w w' : World} {e : Ending} {ys : List Int} (h : gives w w' e (some ys)) : ∃ g m cc, e = .returned (.tuple #[.slice (some ⟨g, 0, none⟩) m cc, .bool true]) ∧ w.heap.size ≤ g ∧ Is w' g m cc ys ∧ m ≤ 250 ∧ Below w.heap.size w w' := h
theorem nodes_y {p s l c k : Int} {n : Nat} {xs : List Int} {r : Int} {ys : List Int} (h : nodes p s l c k n xs r = some ys) : aOk p s l c k n = true := by
  unfold nodes at h
  split at h
  · assumption
  · cases h
theorem nodes_n {p s l c k : Int} {n : Nat} {xs : List Int} {r : Int} (h : aOk p s l c k n = false) : nodes p s l c k n xs r = none := by unfold nodes; rw [h]; simp
set_option maxHeartbeats 2000000 in
theorem sFree (p s l c k q : Int) (a : Option Addr) (n cap : Nat) (xs : List Int) (w : World) (h : Src w a n xs) (bd : ∀ x ∈ xs, 0 ≤ x ∧ x ≤ 18446744073709551615) (hn : n ≤ 16777216) :
    Calls Try.prog 19 #[.agg #[.int .i64 p, .int .i64 s, .int .i64 l, .int .i64 c, .int .i64 k], .slice a n cap, .int .i64 q] w fun e w' => gives w w' e (freeIn p s l c k n xs q) := by
  have z : Below w.heap.size w (w.alloc (Obj.cells #[.int .i64 p, .int .i64 s, .int .i64 l, .int .i64 c, .int .i64 k] 25)) := (Below.refl _ _).alloc (Nat.le_refl _) _
  have B := Box5.new w (.int .i64 p) (.int .i64 s) (.int .i64 l) (.int .i64 c) (.int .i64 k) 25
  replace h := h.keep z
  obtain ⟨c0, c1, c2, c3, c4⟩ := B.five
  cases ha : aOk p s l c k n
  · have e : freeIn p s l c k n xs q = none := by unfold freeIn; split <;> first | exact nodes_n ha | rfl
    rw [e]
    go_enter Try.func19, Try.ntmps19
    go_wp2_with (go_at_call 47; refine (sArena _ _ _ _ _ _ _ _ _ (by omega)).mono ?_; rintro e w1 ⟨rfl, hb⟩; rw [ha]; replace B := B.keep hb; replace z := z.trans (hb.mono z.size); replace h := h.keep hb; clear hb c0 c1 c2 c3 c4; obtain ⟨c0, c1, c2, c3, c4⟩ := B.five)
    go_returns
    exact gives.none_lit z
  · cases hq : inB q 0 1
    · have hq' : ¬ (0 ≤ q ∧ q ≤ 1) := of_decide_eq_false hq
      have e : freeIn p s l c k n xs q = none := by unfold freeIn; rw [if_neg (by omega)]
      rw [e]
      go_enter Try.func19, Try.ntmps19
      go_wp2_with (first
        | (go_at_call 47; refine (sArena _ _ _ _ _ _ _ _ _ (by omega)).mono ?_; rintro e w1 ⟨rfl, hb⟩; rw [ha]; replace B := B.keep hb; replace z := z.trans (hb.mono z.size); replace h := h.keep hb; clear hb c0 c1 c2 c3 c4; obtain ⟨c0, c1, c2, c3, c4⟩ := B.five)
        | (go_at_call 44; refine (sIn _ _ _ _).mono ?_; rintro e w2 ⟨rfl, rfl⟩; rw [hq]))
      go_returns
      exact gives.none_lit z
    · have hq' : 0 ≤ q ∧ q ≤ 1 := of_decide_eq_true hq
      have e : freeIn p s l c k n xs q = wlk p s l c k xs q := by unfold freeIn; rw [if_pos (by omega)]; unfold nodes; rw [ha]; simp
      rw [e]
      have h' := ok_iff.1 (aOk_y ha).1
      go_enter Try.func19, Try.ntmps19
      go_wp2_with (first
        | (go_at_call 47; refine (sArena _ _ _ _ _ _ _ _ _ (by omega)).mono ?_; rintro e w1 ⟨rfl, hb⟩; rw [ha]; replace B := B.keep hb; replace z := z.trans (hb.mono z.size); replace h := h.keep hb; clear hb c0 c1 c2 c3 c4; obtain ⟨c0, c1, c2, c3, c4⟩ := B.five)
        | (go_at_call 44; refine (sIn _ _ _ _).mono ?_; rintro e w2 ⟨rfl, rfl⟩; rw [hq])
        | (go_at_call 48; refine (sWalk _ _ _ _ _ _ _ _ _ xs _ h bd hn ha (by omega) (by omega)).mono ?_; rintro e w3 ⟨g, m, cc, rfl, hg⟩))
      go_returns
      exact gives.after ⟨g, m, cc, rfl, hg⟩ z
set_option maxHeartbeats 2000000 in
theorem sStackN (p s l c k : Int) (a : Option Addr) (n cap : Nat) (xs : List Int) (w : World) (h : Src w a n xs) (bd : ∀ x ∈ xs, 0 ≤ x ∧ x ≤ 18446744073709551615) (hn : n ≤ 16777216) :
    Calls Try.prog 27 #[.agg #[.int .i64 p, .int .i64 s, .int .i64 l, .int .i64 c, .int .i64 k], .slice a n cap] w fun e w' => gives w w' e (nodes p s l c k n xs 2) := by
  have z : Below w.heap.size w (w.alloc (Obj.cells #[.int .i64 p, .int .i64 s, .int .i64 l, .int .i64 c, .int .i64 k] 25)) := (Below.refl _ _).alloc (Nat.le_refl _) _
  have B := Box5.new w (.int .i64 p) (.int .i64 s) (.int .i64 l) (.int .i64 c) (.int .i64 k) 25
  replace h := h.keep z
  obtain ⟨c0, c1, c2, c3, c4⟩ := B.five
  cases ha : aOk p s l c k n
  · rw [nodes_n ha]
    go_enter Try.func27, Try.ntmps27
    go_wp2_with (go_at_call 47; refine (sArena _ _ _ _ _ _ _ _ _ (by omega)).mono ?_; rintro e w1 ⟨rfl, hb⟩; rw [ha]; replace B := B.keep hb; replace z := z.trans (hb.mono z.size); replace h := h.keep hb; clear hb c0 c1 c2 c3 c4; obtain ⟨c0, c1, c2, c3, c4⟩ := B.five)
    go_returns
    exact gives.none_lit z
  · rw [show nodes p s l c k n xs 2 = wlk p s l c k xs 2 from by unfold nodes; rw [ha]; simp]
    have h' := ok_iff.1 (aOk_y ha).1
    go_enter Try.func27, Try.ntmps27
    go_wp2_with (first
      | (go_at_call 47; refine (sArena _ _ _ _ _ _ _ _ _ (by omega)).mono ?_; rintro e w1 ⟨rfl, hb⟩; rw [ha]; replace B := B.keep hb; replace z := z.trans (hb.mono z.size); replace h := h.keep hb; clear hb c0 c1 c2 c3 c4; obtain ⟨c0, c1, c2, c3, c4⟩ := B.five)
      | (go_at_call 48; refine (sWalk _ _ _ _ _ _ _ _ _ xs _ h bd hn ha (by omega) (by omega)).mono ?_; rintro e w3 ⟨g, m, cc, rfl, hg⟩))
    go_returns
    exact gives.after ⟨g, m, cc, rfl, hg⟩ z
set_option maxHeartbeats 2000000 in
theorem iLineN (p s l c k : Int) (a : Option Addr) (n cap : Nat) (xs : List Int) (w : World) (h : Src w a n xs) (bd : ∀ x ∈ xs, 0 ≤ x ∧ x ≤ 18446744073709551615) (hn : n ≤ 16777216) :
    Calls Try.prog 30 #[.agg #[.int .i64 p, .int .i64 s, .int .i64 l, .int .i64 c, .int .i64 k], .slice a n cap] w fun e w' => gives w w' e (lineNodes p s l c k n xs) := by
  have z : Below w.heap.size w (w.alloc (Obj.cells #[.int .i64 p, .int .i64 s, .int .i64 l, .int .i64 c, .int .i64 k] 25)) := (Below.refl _ _).alloc (Nat.le_refl _) _
  have B := Box5.new w (.int .i64 p) (.int .i64 s) (.int .i64 l) (.int .i64 c) (.int .i64 k) 25
  replace h := h.keep z
  obtain ⟨c0, c1, c2, c3, c4⟩ := B.five
  cases hR : nodes p s l c k n xs 3 with
  | none =>
    rw [show lineNodes p s l c k n xs = none from by unfold lineNodes; rw [hR]; rfl]
    go_enter Try.func30, Try.ntmps30
    go_wp2_with (go_at_call 42; refine (iNodes _ _ _ _ _ _ _ _ _ xs _ h bd hn (by omega) (by omega)).mono ?_; rintro e w1 hG; rw [hR] at hG; obtain ⟨g, m, cc, rfl, hg, hI, hm9, hb⟩ := hG.n; replace B := B.keep hb; replace z := z.trans (hb.mono z.size); replace h := h.keep hb; clear hb c0 c1 c2 c3 c4; obtain ⟨c0, c1, c2, c3, c4⟩ := B.five)
    go_returns
    exact gives.none_lit z
  | some ys =>
    have ha := nodes_y hR
    have h' := ok_iff.1 (aOk_y ha).1
    obtain ⟨j, hj, hjn⟩ := rt_in (r := 4) ha (by omega) (by omega)
    have EJ : Hid (vRoot p s l c k 4 = (j : Int)) := hj
    have hjj : (j : Int) < n := by omega
    obtain ⟨ab, ao, rfl⟩ := h.some (by omega)
    obtain ⟨x, hx⟩ : ∃ x : Int, Hid (xs.getD j 0 = x) := ⟨_, rfl⟩
    have xb := bd_getD bd j
    rw [hx.out] at xb
    have HX : rt p s l c k xs 4 = uI x := by unfold rt; rw [hj]; simp only [Int.toNat_natCast]; rw [hx.out]
    have HLN : Hid (lineNodes p s l c k n xs = if uI x ∈ ys then some ys else none) := by show _ = _; unfold lineNodes; rw [hR, ← HX]; rfl
    clear hj HX
    by_cases hm : uI x ∈ ys
    · have hM : decide (uI x ∈ ys) = true := decide_eq_true hm
      rw [HLN.out, if_pos hm]
      clear HLN
      go_enter Try.func30, Try.ntmps30
      go_wp2_with (first
        | (go_at_call 42; refine (iNodes _ _ _ _ _ _ _ _ _ xs _ h bd hn (by omega) (by omega)).mono ?_; rintro e w1 hG; rw [hR] at hG; obtain ⟨g, m, cc, rfl, hg0, hI, hm9, hb⟩ := hG.y; have hg : w.heap.size ≤ g := Nat.le_trans z.size hg0; clear hG hg0; replace B := B.keep hb; replace z := z.trans (hb.mono z.size); replace h := h.keep hb; clear hb c0 c1 c2 c3 c4; obtain ⟨c0, c1, c2, c3, c4⟩ := B.five)
        | (go_at_call 40; refine (iRoot _ _ _ _ _ _ _).mono ?_; rintro e w2 ⟨rfl, hb⟩; rw [EJ.out]; replace B := B.keep hb; replace z := z.trans (hb.mono z.size); replace h := h.keep hb; replace hI := hI.keep hb; clear hb c0 c1 c2 c3 c4; obtain ⟨c0, c1, c2, c3, c4⟩ := B.five)
        | (go_at_call 46; refine (iIdx _ _ _ _ xs _ _ h hjn hn hx.out xb.1 xb.2).mono ?_; rintro e w3 ⟨rfl, hb⟩; replace B := B.keep hb; replace z := z.trans (hb.mono z.size); replace h := h.keep hb; replace hI := hI.keep hb; clear hb c0 c1 c2 c3 c4; obtain ⟨c0, c1, c2, c3, c4⟩ := B.five)
        | (go_at_call 52; refine (hasI _ _ _ ys _ _ hI (by omega)).mono ?_; rintro e w4 ⟨rfl, rfl⟩; rw [hM]))
      go_returns
      exact ⟨g, m, cc, rfl, hg, hI, hm9, z⟩
    · have hM : decide (uI x ∈ ys) = false := decide_eq_false hm
      rw [HLN.out, if_neg hm]
      clear HLN
      go_enter Try.func30, Try.ntmps30
      go_wp2_with (first
        | (go_at_call 42; refine (iNodes _ _ _ _ _ _ _ _ _ xs _ h bd hn (by omega) (by omega)).mono ?_; rintro e w1 hG; rw [hR] at hG; obtain ⟨g, m, cc, rfl, hg0, hI, hm9, hb⟩ := hG.y; have hg : w.heap.size ≤ g := Nat.le_trans z.size hg0; clear hG hg0; replace B := B.keep hb; replace z := z.trans (hb.mono z.size); replace h := h.keep hb; clear hb c0 c1 c2 c3 c4; obtain ⟨c0, c1, c2, c3, c4⟩ := B.five)
        | (go_at_call 40; refine (iRoot _ _ _ _ _ _ _).mono ?_; rintro e w2 ⟨rfl, hb⟩; rw [EJ.out]; replace B := B.keep hb; replace z := z.trans (hb.mono z.size); replace h := h.keep hb; replace hI := hI.keep hb; clear hb c0 c1 c2 c3 c4; obtain ⟨c0, c1, c2, c3, c4⟩ := B.five)
        | (go_at_call 46; refine (iIdx _ _ _ _ xs _ _ h hjn hn hx.out xb.1 xb.2).mono ?_; rintro e w3 ⟨rfl, hb⟩; replace B := B.keep hb; replace z := z.trans (hb.mono z.size); replace h := h.keep hb; replace hI := hI.keep hb; clear hb c0 c1 c2 c3 c4; obtain ⟨c0, c1, c2, c3, c4⟩ := B.five)
        | (go_at_call 52; refine (hasI _ _ _ ys _ _ hI (by omega)).mono ?_; rintro e w4 ⟨rfl, rfl⟩; rw [hM]))
      go_returns
      exact gives.none_lit z
set_option maxHeartbeats 2000000 in
theorem sLineN (p s l c k : Int) (a : Option Addr) (n cap : Nat) (xs : List Int) (w : World) (h : Src w a n xs) (bd : ∀ x ∈ xs, 0 ≤ x ∧ x ≤ 18446744073709551615) (hn : n ≤ 16777216) :
    Calls Try.prog 29 #[.agg #[.int .i64 p, .int .i64 s, .int .i64 l, .int .i64 c, .int .i64 k], .slice a n cap] w fun e w' => gives w w' e (lineNodes p s l c k n xs) := by
  have z : Below w.heap.size w (w.alloc (Obj.cells #[.int .i64 p, .int .i64 s, .int .i64 l, .int .i64 c, .int .i64 k] 25)) := (Below.refl _ _).alloc (Nat.le_refl _) _
  have B := Box5.new w (.int .i64 p) (.int .i64 s) (.int .i64 l) (.int .i64 c) (.int .i64 k) 25
  replace h := h.keep z
  obtain ⟨c0, c1, c2, c3, c4⟩ := B.five
  cases ha0 : aOk p s l c k n
  · rw [show lineNodes p s l c k n xs = none from by unfold lineNodes; rw [nodes_n ha0]; rfl]
    go_enter Try.func29, Try.ntmps29
    go_wp2_with (go_at_call 47; refine (sArena _ _ _ _ _ _ _ _ _ (by omega)).mono ?_; rintro e w1 ⟨rfl, hb⟩; rw [ha0]; replace B := B.keep hb; replace z := z.trans (hb.mono z.size); replace h := h.keep hb; clear hb c0 c1 c2 c3 c4; obtain ⟨c0, c1, c2, c3, c4⟩ := B.five)
    go_returns
    exact gives.none_lit z
  have hW0 : nodes p s l c k n xs 3 = wlk p s l c k xs 3 := by unfold nodes; rw [ha0]; simp
  have h0' := ok_iff.1 (aOk_y ha0).1
  cases hR : nodes p s l c k n xs 3 with
  | none =>
    rw [show lineNodes p s l c k n xs = none from by unfold lineNodes; rw [hR]; rfl]
    go_enter Try.func29, Try.ntmps29
    go_wp2_with (first
      | (go_at_call 47; refine (sArena _ _ _ _ _ _ _ _ _ (by omega)).mono ?_; rintro e w1 ⟨rfl, hb⟩; rw [ha0]; replace B := B.keep hb; replace z := z.trans (hb.mono z.size); replace h := h.keep hb; clear hb c0 c1 c2 c3 c4; obtain ⟨c0, c1, c2, c3, c4⟩ := B.five)
      | (go_at_call 48; refine (sWalk _ _ _ _ _ _ _ _ _ xs _ h bd hn ha0 (by omega) (by omega)).mono ?_; rintro e w1 hG; rw [← hW0, hR] at hG; obtain ⟨g, m, cc, rfl, hg, hI, hm9, hb⟩ := hG.n; replace B := B.keep hb; replace z := z.trans (hb.mono z.size); replace h := h.keep hb; clear hb c0 c1 c2 c3 c4; obtain ⟨c0, c1, c2, c3, c4⟩ := B.five))
    go_returns
    exact gives.none_lit z
  | some ys =>
    have ha := nodes_y hR
    have h' := ok_iff.1 (aOk_y ha).1
    obtain ⟨j, hj, hjn⟩ := rt_in (r := 4) ha (by omega) (by omega)
    have EJ : Hid (vRoot p s l c k 4 = (j : Int)) := hj
    have hjj : (j : Int) < n := by omega
    obtain ⟨ab, ao, rfl⟩ := h.some (by omega)
    obtain ⟨x, hx⟩ : ∃ x : Int, Hid (xs.getD j 0 = x) := ⟨_, rfl⟩
    have xb := bd_getD bd j
    rw [hx.out] at xb
    have HX : rt p s l c k xs 4 = uI x := by unfold rt; rw [hj]; simp only [Int.toNat_natCast]; rw [hx.out]
    have HLN : Hid (lineNodes p s l c k n xs = if uI x ∈ ys then some ys else none) := by show _ = _; unfold lineNodes; rw [hR, ← HX]; rfl
    clear hj HX
    by_cases hm : uI x ∈ ys
    · have hM : decide (uI x ∈ ys) = true := decide_eq_true hm
      rw [HLN.out, if_pos hm]
      clear HLN
      go_enter Try.func29, Try.ntmps29
      go_wp2_with (first
        | (go_at_call 47; refine (sArena _ _ _ _ _ _ _ _ _ (by omega)).mono ?_; rintro e w1 ⟨rfl, hb⟩; rw [ha0]; replace B := B.keep hb; replace z := z.trans (hb.mono z.size); replace h := h.keep hb; clear hb c0 c1 c2 c3 c4; obtain ⟨c0, c1, c2, c3, c4⟩ := B.five)
        | (go_at_call 48; refine (sWalk _ _ _ _ _ _ _ _ _ xs _ h bd hn ha0 (by omega) (by omega)).mono ?_; rintro e w1 hG; rw [← hW0, hR] at hG; obtain ⟨g, m, cc, rfl, hg0, hI, hm9, hb⟩ := hG.y; have hg : w.heap.size ≤ g := Nat.le_trans z.size hg0; clear hG hg0; replace B := B.keep hb; replace z := z.trans (hb.mono z.size); replace h := h.keep hb; clear hb c0 c1 c2 c3 c4; obtain ⟨c0, c1, c2, c3, c4⟩ := B.five)
        | (go_at_call 51; refine (sRoot _ _ _ _ _ _ _).mono ?_; rintro e w2 ⟨rfl, hb⟩; rw [EJ.out]; replace B := B.keep hb; replace z := z.trans (hb.mono z.size); replace h := h.keep hb; replace hI := hI.keep hb; clear hb c0 c1 c2 c3 c4; obtain ⟨c0, c1, c2, c3, c4⟩ := B.five; have d1 := h.at_ hjn; rw [hx.out] at d1)
        | (go_at_call 50; refine (sIndex4 _ xb.1 xb.2 _).mono ?_; rintro e w3 ⟨rfl, hb⟩; clear d1; replace B := B.keep hb; replace z := z.trans (hb.mono z.size); replace h := h.keep hb; replace hI := hI.keep hb; clear hb c0 c1 c2 c3 c4; obtain ⟨c0, c1, c2, c3, c4⟩ := B.five)
        | (go_at_call 49; refine (sHas5 _ _ _ ys _ _ hI.src (by omega)).mono ?_; rintro e w4 ⟨rfl, rfl⟩; rw [hM]))
      go_returns
      exact ⟨g, m, cc, rfl, hg, hI, hm9, z⟩
    · have hM : decide (uI x ∈ ys) = false := decide_eq_false hm
      rw [HLN.out, if_neg hm]
      clear HLN
      go_enter Try.func29, Try.ntmps29
      go_wp2_with (first
        | (go_at_call 47; refine (sArena _ _ _ _ _ _ _ _ _ (by omega)).mono ?_; rintro e w1 ⟨rfl, hb⟩; rw [ha0]; replace B := B.keep hb; replace z := z.trans (hb.mono z.size); replace h := h.keep hb; clear hb c0 c1 c2 c3 c4; obtain ⟨c0, c1, c2, c3, c4⟩ := B.five)
        | (go_at_call 48; refine (sWalk _ _ _ _ _ _ _ _ _ xs _ h bd hn ha0 (by omega) (by omega)).mono ?_; rintro e w1 hG; rw [← hW0, hR] at hG; obtain ⟨g, m, cc, rfl, hg0, hI, hm9, hb⟩ := hG.y; have hg : w.heap.size ≤ g := Nat.le_trans z.size hg0; clear hG hg0; replace B := B.keep hb; replace z := z.trans (hb.mono z.size); replace h := h.keep hb; clear hb c0 c1 c2 c3 c4; obtain ⟨c0, c1, c2, c3, c4⟩ := B.five)
        | (go_at_call 51; refine (sRoot _ _ _ _ _ _ _).mono ?_; rintro e w2 ⟨rfl, hb⟩; rw [EJ.out]; replace B := B.keep hb; replace z := z.trans (hb.mono z.size); replace h := h.keep hb; replace hI := hI.keep hb; clear hb c0 c1 c2 c3 c4; obtain ⟨c0, c1, c2, c3, c4⟩ := B.five; have d1 := h.at_ hjn; rw [hx.out] at d1)
        | (go_at_call 50; refine (sIndex4 _ xb.1 xb.2 _).mono ?_; rintro e w3 ⟨rfl, hb⟩; clear d1; replace B := B.keep hb; replace z := z.trans (hb.mono z.size); replace h := h.keep hb; replace hI := hI.keep hb; clear hb c0 c1 c2 c3 c4; obtain ⟨c0, c1, c2, c3, c4⟩ := B.five)
        | (go_at_call 49; refine (sHas5 _ _ _ ys _ _ hI.src (by omega)).mono ?_; rintro e w4 ⟨rfl, rfl⟩; rw [hM]))
      go_returns
      exact gives.none_lit z
set_option maxHeartbeats 2000000 in
theorem iStackO (p s l c k : Int) (a : Option Addr) (n cap : Nat) (xs : List Int) (w : World) (h : Src w a n xs) (bd : ∀ x ∈ xs, 0 ≤ x ∧ x ≤ 18446744073709551615) (hn : n ≤ 16777216) :
    Calls Try.prog 14 #[.agg #[.int .i64 p, .int .i64 s, .int .i64 l, .int .i64 c, .int .i64 k], .slice a n cap] w fun e w' => gives w w' e (stackOf p s l c k n xs) := by
  have z : Below w.heap.size w (w.alloc (Obj.cells #[.int .i64 p, .int .i64 s, .int .i64 l, .int .i64 c, .int .i64 k] 25)) := (Below.refl _ _).alloc (Nat.le_refl _) _
  have B := Box5.new w (.int .i64 p) (.int .i64 s) (.int .i64 l) (.int .i64 c) (.int .i64 k) 25
  replace h := h.keep z
  obtain ⟨c0, c1, c2, c3, c4⟩ := B.five
  have hok := nodes_ok (p := p) (s := s) (l := l) (c := c) (k := k) (n := n) (xs := xs) (r := 2)
  unfold stackOf
  generalize hR : nodes p s l c k n xs 2 = R at hok ⊢
  have HR : Hid (nodes p s l c k n xs 2 = R) := hR
  clear hR
  cases R with
  | none =>
    go_enter Try.func14, Try.ntmps14
    go_wp2_with (first
      | (go_at_call 28; refine (iStackN _ _ _ _ _ _ _ _ xs _ h bd hn).mono ?_; rintro e w1 hG; rw [HR.out] at hG; obtain ⟨g, m, cc, rfl, hg0, hI, hm9, hb⟩ := hG.n; clear hG; replace B := B.keep hb; replace z := z.trans (hb.mono z.size); replace h := h.keep hb; clear hb c0 c1 c2 c3 c4; obtain ⟨c0, c1, c2, c3, c4⟩ := B.five)
      | (go_at_call 43; refine (iVals _ _ _ _ _ _ _ _ xs _ _ _ [] _ h bd hn hI.src hm9 hok).mono ?_; rintro e w2 ⟨g2, m2, cc2, rfl, hg2, hI2, hm2, hb⟩))
    go_returns
    exact ⟨g2, m2, cc2, rfl, Nat.le_trans z.size hg2, hI2, hm2, z.trans (hb.mono z.size)⟩
  | some ys =>
    go_enter Try.func14, Try.ntmps14
    go_wp2_with (first
      | (go_at_call 28; refine (iStackN _ _ _ _ _ _ _ _ xs _ h bd hn).mono ?_; rintro e w1 hG; rw [HR.out] at hG; obtain ⟨g, m, cc, rfl, hg0, hI, hm9, hb⟩ := hG.y; clear hG; replace B := B.keep hb; replace z := z.trans (hb.mono z.size); replace h := h.keep hb; clear hb c0 c1 c2 c3 c4; obtain ⟨c0, c1, c2, c3, c4⟩ := B.five)
      | (go_at_call 43; refine (iVals _ _ _ _ _ _ _ _ xs _ _ _ ys _ h bd hn hI.src hm9 hok).mono ?_; rintro e w2 ⟨g2, m2, cc2, rfl, hg2, hI2, hm2, hb⟩))
    go_returns
    exact ⟨g2, m2, cc2, rfl, Nat.le_trans z.size hg2, hI2, hm2, z.trans (hb.mono z.size)⟩
set_option maxHeartbeats 2000000 in
theorem sStackO (p s l c k : Int) (a : Option Addr) (n cap : Nat) (xs : List Int) (w : World) (h : Src w a n xs) (bd : ∀ x ∈ xs, 0 ≤ x ∧ x ≤ 18446744073709551615) (hn : n ≤ 16777216) :
    Calls Try.prog 31 #[.agg #[.int .i64 p, .int .i64 s, .int .i64 l, .int .i64 c, .int .i64 k], .slice a n cap] w fun e w' => gives w w' e (stackOf p s l c k n xs) := by
  have z : Below w.heap.size w (w.alloc (Obj.cells #[.int .i64 p, .int .i64 s, .int .i64 l, .int .i64 c, .int .i64 k] 25)) := (Below.refl _ _).alloc (Nat.le_refl _) _
  have B := Box5.new w (.int .i64 p) (.int .i64 s) (.int .i64 l) (.int .i64 c) (.int .i64 k) 25
  replace h := h.keep z
  obtain ⟨c0, c1, c2, c3, c4⟩ := B.five
  have hok := nodes_ok (p := p) (s := s) (l := l) (c := c) (k := k) (n := n) (xs := xs) (r := 2)
  unfold stackOf
  generalize hR : nodes p s l c k n xs 2 = R at hok ⊢
  have HR : Hid (nodes p s l c k n xs 2 = R) := hR
  clear hR
  cases R with
  | none =>
    go_enter Try.func31, Try.ntmps31
    go_wp2_with (first
      | (go_at_call 27; refine (sStackN _ _ _ _ _ _ _ _ xs _ h bd hn).mono ?_; rintro e w1 hG; rw [HR.out] at hG; obtain ⟨g, m, cc, rfl, hg0, hI, hm9, hb⟩ := hG.n; clear hG; replace B := B.keep hb; replace z := z.trans (hb.mono z.size); replace h := h.keep hb; clear hb c0 c1 c2 c3 c4; obtain ⟨c0, c1, c2, c3, c4⟩ := B.five)
      | (go_at_call 53; refine (sVals _ _ _ _ _ _ _ _ xs _ _ _ [] _ h bd hn hI.src hm9 hok).mono ?_; rintro e w2 ⟨g2, m2, cc2, rfl, hg2, hI2, hm2, hb⟩))
    go_returns
    exact ⟨g2, m2, cc2, rfl, Nat.le_trans z.size hg2, hI2, hm2, z.trans (hb.mono z.size)⟩
  | some ys =>
    go_enter Try.func31, Try.ntmps31
    go_wp2_with (first
      | (go_at_call 27; refine (sStackN _ _ _ _ _ _ _ _ xs _ h bd hn).mono ?_; rintro e w1 hG; rw [HR.out] at hG; obtain ⟨g, m, cc, rfl, hg0, hI, hm9, hb⟩ := hG.y; clear hG; replace B := B.keep hb; replace z := z.trans (hb.mono z.size); replace h := h.keep hb; clear hb c0 c1 c2 c3 c4; obtain ⟨c0, c1, c2, c3, c4⟩ := B.five)
      | (go_at_call 53; refine (sVals _ _ _ _ _ _ _ _ xs _ _ _ ys _ h bd hn hI.src hm9 hok).mono ?_; rintro e w2 ⟨g2, m2, cc2, rfl, hg2, hI2, hm2, hb⟩))
    go_returns
    exact ⟨g2, m2, cc2, rfl, Nat.le_trans z.size hg2, hI2, hm2, z.trans (hb.mono z.size)⟩
end Go.Proofs.Ytmldeigbaafclaa
