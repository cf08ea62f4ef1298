/-
  Walks: the faces of the chapter, in the specification and in the program.
-/
import Derived.Test.YtmldeigbaafclaaWk5
namespace Go.Proofs.Ytmldeigbaafclaa
open Go.RowKit
set_option linter.unusedVariables false
set_option linter.unusedSimpArgs false
def cellsOf (p s l c k : Int) (n : Nat) (xs : List Int) : List Int :=
  if aOk p s l c k n then (List.range c.toNat).map (fun i : Nat => rt p s l c k xs (5 + (i : Int))) else []
theorem range_snoc {f : Nat → Int} {i : Nat} : (List.range (i + 1)).map f = (List.range i).map f ++ [f i] := by rw [List.range_succ]; simp
theorem cells_len (p s l c k : Int) (n : Nat) (xs : List Int) : (cellsOf p s l c k n xs).length ≤ 250 := by
  unfold cellsOf
  split
  · rename_i h
    have h' := ok_iff.1 (aOk_y h).1
    simp
    omega
  · simp
set_option maxHeartbeats 4000000 in
theorem iCells (p s l c k : Int) (a : Option Addr) (n cap : Nat) (xs : List Int) (w : World) (h : Src w a n xs) (bd : ∀ x ∈ xs, 0 ≤ x ∧ x ≤ 18446744073709551615) (hn : n ≤ 16777216) :
    Calls Try.prog 18 #[.agg #[.int .i64 p, .int .i64 s, .int .i64 l, .int .i64 c, .int .i64 k], .slice a n cap] w fun e w' => list1 w w' e (cellsOf p s l c k n xs) := by
  obtain ⟨i0, hi, hz0, hz1, hz2⟩ := info_parts infoI
  have st := Ga.start w p s l c k a n xs h
  have hl := cells_len p s l c k n xs
  obtain ⟨c0, c1, c2, c3, c4⟩ := st.box.five
  cases ha : aOk p s l c k n
  · have e : cellsOf p s l c k n xs = [] := by unfold cellsOf; rw [ha]; simp
    rw [e]
    go_enter Try.func18, Try.ntmps18
    go_wp2_with (go_at_call 45; refine (iArena _ _ _ _ _ _ _ _ _ (by omega)).mono ?_; rintro e w1 ⟨rfl, hb⟩; rw [ha]; replace st := st.keep hb; clear hb c0 c1 c2 c3 c4)
    go_ret
    obtain ⟨g, cc, hv, h1, h2⟩ := st.is
    cases hv
    exact ⟨_, _, _, rfl, h1, h2, by omega, st.low⟩
  · obtain ⟨ho, hz⟩ := aOk_y ha
    have h' := ok_iff.1 ho
    obtain ⟨f, hf⟩ : ∃ f : Nat → Int, Hid ((fun i : Nat => rt p s l c k xs (5 + (i : Int))) = f) := ⟨_, rfl⟩
    have e : cellsOf p s l c k n xs = (List.range c.toNat).map f := by unfold cellsOf; rw [if_pos ha, hf.out]
    rw [e]
    rw [e] at hl
    have HA : Hid (aOk p s l c k n = true) := ha
    clear e h hz ho
    go_enter Try.func18, Try.ntmps18
    go_wp2_with (go_at_call 45; refine (iArena _ _ _ _ _ _ _ _ _ (by omega)).mono ?_; rintro e w1 ⟨rfl, hb⟩; rw [ha]; replace st := st.keep hb; clear hb c0 c1 c2 c3 c4; obtain ⟨c0, c1, c2, c3, c4⟩ := st.box.five)
    clear ha c0 c1 c2 c3 c4
    go_loopg [5, 15] c.toNat (fun g' x y wr => ∃ i : Nat, (i : Int) ≤ c ∧ (g' : Int) + i = c ∧ y = .int .i64 (i : Int) ∧ Ga w wr w.heap.size (w.heap.size + 1) p s l c k x ((List.range i).map f) a n xs)
    case atStart => exact ⟨0, by omega, by omega, rfl, st⟩
    case round =>
      clear st
      obtain ⟨i, i0', hg, rfl, st⟩ := hrel
      obtain ⟨c0, c1, c2, c3, c4⟩ := st.box.five
      by_cases him : (i : Int) < c
      · obtain ⟨j, hj, hjn⟩ := rt_in (r := 5 + (i : Int)) HA.out (by omega) (by omega)
        have EJ : Hid (vRoot p s l c k (5 + (i : Int)) = (j : Int)) := hj
        have hjj : (j : Int) < n := by omega
        obtain ⟨ab, ao, rfl⟩ := st.src.some (by omega)
        obtain ⟨x, hx⟩ : ∃ x : Int, Hid (xs.getD j 0 = x) := ⟨_, rfl⟩
        have xb := bd_getD bd j
        rw [hx.out] at xb
        have HX : Hid (f i = uI x) := by show _ = _; rw [← hf.out]; show rt p s l c k xs (5 + (i : Int)) = _; unfold rt; rw [hj]; simp only [Int.toNat_natCast]; rw [hx.out]
        have HT : Hid ((List.range (i + 1)).map f = (List.range i).map f ++ [uI x]) := by show _ = _; rw [range_snoc, HX.out]
        have HL : Hid (((List.range i).map f).length ≤ 250) := by show _ ≤ _; rw [List.length_map, List.length_range]; omega
        generalize (List.range i).map f = Z at *
        clear hj
        go_wp2_with (first
          | (go_at_call 40; refine (iRoot _ _ _ _ _ _ _).mono ?_; rintro e w3 ⟨rfl, hb⟩; rw [EJ.out]; replace st := st.keep hb; clear hb c0 c1 c2 c3 c4)
          | (go_at_call 46; refine (iIdx _ _ _ _ xs _ _ st.src hjn hn hx.out xb.1 xb.2).mono ?_; rintro e w4 ⟨rfl, hb⟩; replace st := st.keep hb; clear hb)
          | (at_builtin; refine wpList_append_own _ rfl (.tmp 18) (.tmp 25) 29 rfl (w.heap.size + 1) 2 i0 (.int .i64 0) 1 8 Try.underlying29 hi hz0 hz1 hz2 rfl (by decide) _ _ _ rfl (Ga.own (Ga.keep st (by go_grown))) ⟨_, 0, none⟩ 1 1 [.int .i64 (uI x)] rfl rfl (one_cell4 _ _ _ _ (by simp)) (one_int4 _) (L_max HL) (L_bytes HL) (Ga.bs (Ga.keep st (by go_grown))) ?_; intro v' w5 ho' hg' hn'; have st2 := Ga.app (Ga.keep st (by go_grown)) ho' hg' hn'; clear ho' hg' hn' st))
        go_roundg (gk - 1)
        case measure => omega
        case rel => exact ⟨i + 1, by omega, by omega, by go_num, by rw [HT.out]; exact st2⟩
      · obtain rfl : (i : Int) = c := by omega
        go_wp2
        go_ret
        rw [Int.toNat_natCast] at hl
        obtain ⟨g, cc, rfl, h1, h2⟩ := st.is
        exact ⟨_, _, _, rfl, h1, h2, hl, st.low⟩
set_option maxHeartbeats 4000000 in
theorem sCells (p s l c k : Int) (a : Option Addr) (n cap : Nat) (xs : List Int) (w : World) (h : Src w a n xs) (bd : ∀ x ∈ xs, 0 ≤ x ∧ x ≤ 18446744073709551615) (hn : n ≤ 16777216) :
    Calls Try.prog 33 #[.agg #[.int .i64 p, .int .i64 s, .int .i64 l, .int .i64 c, .int .i64 k], .slice a n cap] w fun e w' => list1 w w' e (cellsOf p s l c k n xs) := by
  obtain ⟨i0, hi, hz0, hz1, hz2⟩ := info_parts infoI
  have st := Ga.start w p s l c k a n xs h
  have hl := cells_len p s l c k n xs
  obtain ⟨c0, c1, c2, c3, c4⟩ := st.box.five
  cases ha : aOk p s l c k n
  · have e : cellsOf p s l c k n xs = [] := by unfold cellsOf; rw [ha]; simp
    rw [e]
    go_enter Try.func33, Try.ntmps33
    go_wp2_with (go_at_call 47; refine (sArena _ _ _ _ _ _ _ _ _ (by omega)).mono ?_; rintro e w1 ⟨rfl, hb⟩; rw [ha]; replace st := st.keep hb; clear hb c0 c1 c2 c3 c4)
    go_ret
    obtain ⟨g, cc, hv, h1, h2⟩ := st.is
    cases hv
    exact ⟨_, _, _, rfl, h1, h2, by omega, st.low⟩
  · obtain ⟨ho, hz⟩ := aOk_y ha
    have h' := ok_iff.1 ho
    obtain ⟨f, hf⟩ : ∃ f : Nat → Int, Hid ((fun i : Nat => rt p s l c k xs (5 + (i : Int))) = f) := ⟨_, rfl⟩
    have e : cellsOf p s l c k n xs = (List.range c.toNat).map f := by unfold cellsOf; rw [if_pos ha, hf.out]
    rw [e]
    rw [e] at hl
    have HA : Hid (aOk p s l c k n = true) := ha
    clear e h hz ho
    go_enter Try.func33, Try.ntmps33
    go_wp2_with (go_at_call 47; refine (sArena _ _ _ _ _ _ _ _ _ (by omega)).mono ?_; rintro e w1 ⟨rfl, hb⟩; rw [ha]; replace st := st.keep hb; clear hb c0 c1 c2 c3 c4; obtain ⟨c0, c1, c2, c3, c4⟩ := st.box.five)
    clear ha c0 c1 c2 c3 c4
    go_loopg [5, 6] c.toNat (fun g' x y wr => ∃ i : Nat, (i : Int) ≤ c ∧ (g' : Int) + i = c ∧ y = .int .i64 (i : Int) ∧ Ga w wr w.heap.size (w.heap.size + 1) p s l c k x ((List.range i).map f) a n xs)
    case atStart => exact ⟨0, by omega, by omega, rfl, st⟩
    case round =>
      clear st
      obtain ⟨i, i0', hg, rfl, st⟩ := hrel
      obtain ⟨c0, c1, c2, c3, c4⟩ := st.box.five
      by_cases him : (i : Int) < c
      · obtain ⟨j, hj, hjn⟩ := rt_in (r := 5 + (i : Int)) HA.out (by omega) (by omega)
        have EJ : Hid (vRoot p s l c k (5 + (i : Int)) = (j : Int)) := hj
        have hjj : (j : Int) < n := by omega
        obtain ⟨ab, ao, rfl⟩ := st.src.some (by omega)
        obtain ⟨x, hx⟩ : ∃ x : Int, Hid (xs.getD j 0 = x) := ⟨_, rfl⟩
        have xb := bd_getD bd j
        rw [hx.out] at xb
        have HX : Hid (f i = uI x) := by show _ = _; rw [← hf.out]; show rt p s l c k xs (5 + (i : Int)) = _; unfold rt; rw [hj]; simp only [Int.toNat_natCast]; rw [hx.out]
        have HT : Hid ((List.range (i + 1)).map f = (List.range i).map f ++ [uI x]) := by show _ = _; rw [range_snoc, HX.out]
        have HL : Hid (((List.range i).map f).length ≤ 250) := by show _ ≤ _; rw [List.length_map, List.length_range]; omega
        generalize (List.range i).map f = Z at *
        clear hj
        go_wp2_with (first
          | (go_at_call 51; refine (sRoot _ _ _ _ _ _ _).mono ?_; rintro e w3 ⟨rfl, hb⟩; rw [EJ.out]; replace st := st.keep hb; clear hb c0 c1 c2 c3 c4; have d1 := st.src.at_ hjn; rw [hx.out] at d1)
          | (go_at_call 50; refine (sIndex4 _ xb.1 xb.2 _).mono ?_; rintro e w4 ⟨rfl, hb⟩; replace st := st.keep hb; clear hb d1)
          | (at_builtin; refine wpList_append_own _ rfl (.tmp 19) (.tmp 28) 29 rfl (w.heap.size + 1) 2 i0 (.int .i64 0) 1 8 Try.underlying29 hi hz0 hz1 hz2 rfl (by decide) _ _ _ rfl (Ga.own (Ga.keep st (by go_grown))) ⟨_, 0, none⟩ 1 1 [.int .i64 (uI x)] rfl rfl (one_cell4 _ _ _ _ (by simp)) (one_int4 _) (L_max HL) (L_bytes HL) (Ga.bs (Ga.keep st (by go_grown))) ?_; intro v' w5 ho' hg' hn'; have st2 := Ga.app (Ga.keep st (by go_grown)) ho' hg' hn'; clear ho' hg' hn' st))
        go_roundg (gk - 1)
        case measure => omega
        case rel => exact ⟨i + 1, by omega, by omega, by go_num, by rw [HT.out]; exact st2⟩
      · obtain rfl : (i : Int) = c := by omega
        go_wp2
        go_ret
        rw [Int.toNat_natCast] at hl
        obtain ⟨g, cc, rfl, h1, h2⟩ := st.is
        exact ⟨_, _, _, rfl, h1, h2, hl, st.low⟩
/-- The blocks of a walk, of a right arena. -/
def nodes (p s l c k : Int) (n : Nat) (xs : List Int) (r : Int) : Option (List Int) := if aOk p s l c k n then wlk p s l c k xs r else none
def freeIn (p s l c k : Int) (n : Nat) (xs : List Int) (q : Int) : Option (List Int) := if q = 0 ∨ q = 1 then nodes p s l c k n xs q else none
def lineNodes (p s l c k : Int) (n : Nat) (xs : List Int) : Option (List Int) := (nodes p s l c k n xs 3).bind (fun ys => if rt p s l c k xs 4 ∈ ys then some ys else none)
def stackOf (p s l c k : Int) (n : Nat) (xs : List Int) : Option (List Int) := (nodes p s l c k n xs 2).map (fun ys => ys.map (lnk p s l c k xs 2))
def lineOf (p s l c k : Int) (n : Nat) (xs : List Int) : Option (List Int) := (lineNodes p s l c k n xs).map (fun ys => (ys.drop 1).map (lnk p s l c k xs 2))
theorem nodes_ok {p s l c k : Int} {n : Nat} {xs : List Int} {r : Int} : ∀ y ∈ (nodes p s l c k n xs r).getD [], ∃ i : Nat, vBlock p s l c k y 2 = (i : Int) ∧ i < n := by
  intro y hy
  unfold nodes at hy
  split at hy
  · rename_i ha
    cases h : wlk p s l c k xs r with
    | none => rw [h] at hy; simp at hy
    | some ys =>
      rw [h] at hy
      have hf := wk_fresh _ _ _ _ (Fresh.nil _) h
      have hb := hf.bd y hy
      exact link_in ha hb.1 hb.2 (by omega) (by omega)
  · simp at hy
theorem iNodes (p s l c k r : Int) (a : Option Addr) (n cap : Nat) (xs : List Int) (w : World) (h : Src w a n xs) (bd : ∀ x ∈ xs, 0 ≤ x ∧ x ≤ 18446744073709551615) (hn : n ≤ 16777216) (r0 : 0 ≤ r) (r1 : r ≤ 4) :
    Calls Try.prog 42 #[.agg #[.int .i64 p, .int .i64 s, .int .i64 l, .int .i64 c, .int .i64 k], .slice a n cap, .int .i64 r] w fun e w' => gives w w' e (nodes p s l c k n xs r) := by
  unfold nodes
  cases ha : aOk p s l c k n
  · exact iWalkN p s l c k r a n cap w hn ha
  · have h' := ok_iff.1 (aOk_y ha).1
    exact iWalk p s l c k r a n cap xs w h bd hn ha r0 (by omega)
theorem gives.after {w w1 w' : World} {e : Ending} {R : Option (List Int)} (h : gives w1 w' e R) (z : Below w.heap.size w w1) : gives w w' e R := by
  obtain ⟨g, m, cc, h1, h2, h3, h4, h5⟩ := h
  exact ⟨g, m, cc, h1, Nat.le_trans z.size h2, h3, h4, z.trans (h5.mono z.size)⟩
theorem gives.none_lit {w w1 : World} (z : Below w.heap.size w w1) : gives w (w1.alloc (.cells #[] 2)) (.returned (.tuple #[.slice (some ⟨w1.heap.size, 0, none⟩) 0 0, .bool false])) none :=
  ⟨_, 0, 0, rfl, z.size, Is.lit _, Nat.zero_le _, z.alloc z.size _⟩
theorem e_tuple {v v' : Value} {t t' : Bool} (h : v = v') (h2 : t = t') : Ending.returned (.tuple #[v, .bool t]) = .returned (.tuple #[v', .bool t']) := by rw [h, h2]
set_option maxHeartbeats 2000000 in
theorem iFree (p s l c k q : Int) (a : Option Addr) (n cap : Nat) (xs : List Int) (w : World) (h : Src w a n xs) (bd : ∀ x ∈ xs, 0 ≤ x ∧ x ≤ 18446744073709551615) (hn : n ≤ 16777216) :
    Calls Try.prog 13 #[.agg #[.int .i64 p, .int .i64 s, .int .i64 l, .int .i64 c, .int .i64 k], .slice a n cap, .int .i64 q] w fun e w' => gives w w' e (freeIn p s l c k n xs q) := by
  have z : Below w.heap.size w (w.alloc (Obj.cells #[.int .i64 p, .int .i64 s, .int .i64 l, .int .i64 c, .int .i64 k] 25)) := (Below.refl _ _).alloc (Nat.le_refl _) _
  have B := Box5.new w (.int .i64 p) (.int .i64 s) (.int .i64 l) (.int .i64 c) (.int .i64 k) 25
  have h2 := h.keep z
  by_cases h0 : q = 0
  · subst h0
    rw [show freeIn p s l c k n xs 0 = nodes p s l c k n xs 0 from by unfold freeIn; simp]
    go_enter Try.func13, Try.ntmps13
    go_wp2_with (go_at_call 42; refine (iNodes _ _ _ _ _ _ _ _ _ xs _ h2 bd hn (by omega) (by omega)).mono ?_; rintro e w1 ⟨g, m, cc, rfl, hg⟩)
    go_returns
    exact gives.after ⟨g, m, cc, rfl, hg⟩ z
  · by_cases h1 : q = 1
    · subst h1
      rw [show freeIn p s l c k n xs 1 = nodes p s l c k n xs 1 from by unfold freeIn; simp]
      go_enter Try.func13, Try.ntmps13
      go_wp2_with (go_at_call 42; refine (iNodes _ _ _ _ _ _ _ _ _ xs _ h2 bd hn (by omega) (by omega)).mono ?_; rintro e w1 ⟨g, m, cc, rfl, hg⟩)
      go_returns
      exact gives.after ⟨g, m, cc, rfl, hg⟩ z
    · rw [show freeIn p s l c k n xs q = none from by unfold freeIn; simp [h0, h1]]
      go_enter Try.func13, Try.ntmps13
      go_wp2
      go_returns
      have := gives.none_lit z
      rw [World.size_alloc] at this
      exact this
set_option maxHeartbeats 2000000 in
theorem iStackN (p s l c k : Int) (a : Option Addr) (n cap : Nat) (xs : List Int) (w : World) (h : Src w a n xs) (bd : ∀ x ∈ xs, 0 ≤ x ∧ x ≤ 18446744073709551615) (hn : n ≤ 16777216) :
    Calls Try.prog 28 #[.agg #[.int .i64 p, .int .i64 s, .int .i64 l, .int .i64 c, .int .i64 k], .slice a n cap] w fun e w' => gives w w' e (nodes p s l c k n xs 2) := by
  have z : Below w.heap.size w (w.alloc (Obj.cells #[.int .i64 p, .int .i64 s, .int .i64 l, .int .i64 c, .int .i64 k] 25)) := (Below.refl _ _).alloc (Nat.le_refl _) _
  have B := Box5.new w (.int .i64 p) (.int .i64 s) (.int .i64 l) (.int .i64 c) (.int .i64 k) 25
  have h2 := h.keep z
  go_enter Try.func28, Try.ntmps28
  go_wp2_with (go_at_call 42; refine (iNodes _ _ _ _ _ _ _ _ _ xs _ h2 bd hn (by omega) (by omega)).mono ?_; rintro e w1 ⟨g, m, cc, rfl, hg⟩)
  go_returns
  exact gives.after ⟨g, m, cc, rfl, hg⟩ z
end Go.Proofs.Ytmldeigbaafclaa
