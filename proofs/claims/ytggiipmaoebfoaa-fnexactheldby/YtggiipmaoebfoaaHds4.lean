/-
  Heads: whether a block is guarded, in the specification and in the program.
-/
import Derived.Test.YtggiipmaoebfoaaHds3
namespace Go.Proofs.Ytggiipmaoebfoaa
open Go.RowKit
set_option linter.unusedVariables false
set_option linter.unusedSimpArgs false
/-- Is a block among the two guards of a slot? -/
def gHas (p s l c k : Int) (xs : List Int) (b : Int) (j : Nat) : Bool := gdx p s l c k xs (j : Int) 5 == b || gdx p s l c k xs (j : Int) 6 == b
def guarded (p s l c k : Int) (n : Nat) (xs : List Int) (b : Int) : Bool :=
  aOk p s l c k n && inB b 1 (s + l) && (List.range p.toNat).any (gHas p s l c k xs b)
theorem any_y {f : Nat → Bool} {n i : Nat} (hi : i < n) (h : f i = true) : (List.range n).any f = true := List.any_eq_true.2 ⟨i, List.mem_range.2 hi, h⟩
theorem any_n {f : Nat → Bool} {n : Nat} (h : ∀ i, i < n → f i = false) : (List.range n).any f = false := by
  rw [List.any_eq_false]
  intro i hi
  rw [h i (List.mem_range.1 hi)]
  simp
theorem mem_guards {p s l c k : Int} {n : Nat} {xs : List Int} {b : Int} {j : Nat} (ha : aOk p s l c k n = true) (hj : (j : Int) < p) (hb : 1 ≤ b) : decide (b ∈ guards p s l c k n xs (j : Int)) = gHas p s l c k xs b j := by
  have e : guards p s l c k n xs (j : Int) = gl (gdx p s l c k xs (j : Int)) 2 := by unfold guards; rw [if_pos ⟨ha, decide_eq_true (by omega)⟩]
  rw [e]
  unfold gHas
  have h5 : (5 : Int) + ((0 : Nat) : Int) = 5 := rfl
  have h6 : (5 : Int) + ((1 : Nat) : Int) = 6 := rfl
  unfold gl
  rw [h6]
  unfold gl
  rw [h5]
  unfold gl
  generalize gdx p s l c k xs (j : Int) 5 = x
  generalize gdx p s l c k xs (j : Int) 6 = y
  rw [Bool.eq_iff_iff]
  simp only [decide_eq_true_eq, Bool.or_eq_true, beq_iff_eq]
  by_cases hx : x = 0 <;> by_cases hy : y = 0 <;> simp [hx, hy] <;> omega
set_option maxHeartbeats 1000000 in
theorem ixI (g n c : Nat) (xs : List Int) (v : Int) (w : World) (h : Is w g n c xs) (hn : n ≤ 1048576) :
    Calls Try.prog 46 #[.slice (some ⟨g, 0, none⟩) n c, .int .i64 v] w fun e w' => ∃ r : Int, e = .returned (.int .i64 r) ∧ (0 ≤ r ↔ v ∈ xs) ∧ w' = w := by
  go_enter Try.func46, Try.ntmps46
  go_wp2
  go_loopg [8] n (fun g' y wr => ∃ i : Nat, i ≤ n ∧ g' = n - i ∧ y = .int .i64 i ∧ (∀ j, j < i → xs.getD j 0 ≠ v) ∧ wr = w)
  case atStart => exact ⟨0, Nat.zero_le _, rfl, rfl, fun j hj => by omega, rfl⟩
  case round =>
    obtain ⟨i, i0, hg, rfl, hj, rfl⟩ := hrel
    have HJ : Hid (∀ j, j < i → xs.getD j 0 ≠ v) := hj
    clear hj
    by_cases hi : i < n
    · have hi' : (i : Int) < n := by omega
      have c1 := h.cell i hi
      obtain ⟨x, hx⟩ : ∃ x : Int, Hid (xs.getD i 0 = x) := ⟨_, rfl⟩
      rw [hx.out] at c1
      by_cases hv : v = x
      · subst hv
        go_wp2
        go_ret
        refine ⟨_, rfl, ⟨fun _ => ?_, fun _ => by omega⟩, rfl⟩
        rw [← hx.out]
        have e : xs[i]? = some (xs.getD i 0) := by simp [h.len, hi]
        exact List.mem_of_getElem? e
      · go_wp2
        go_roundg (gk - 1)
        case measure => omega
        case rel =>
          refine ⟨i + 1, by omega, by omega, by go_num, fun j hj => ?_, rfl⟩
          by_cases hji : j = i
          · subst hji; rw [hx.out]; exact fun e => hv e.symm
          · exact HJ.out j (by omega)
    · obtain rfl : i = n := by omega
      go_wp2
      go_ret
      refine ⟨_, rfl, ⟨fun h => by omega, fun hm => ?_⟩, rfl⟩
      obtain ⟨j, hj, e⟩ := List.mem_iff_getElem.1 hm
      exact absurd (by simpa [hj] using e) (HJ.out j (by have := h.len; omega))
set_option maxHeartbeats 1000000 in
theorem hasI (g n c : Nat) (xs : List Int) (v : Int) (w : World) (h : Is w g n c xs) (hn : n ≤ 1048576) :
    Calls Try.prog 30 #[.slice (some ⟨g, 0, none⟩) n c, .int .i64 v] w fun e w' => e = .returned (.bool (decide (v ∈ xs))) ∧ w' = w := by
  go_enter Try.func30, Try.ntmps30
  go_wp2_with (go_at_call 46; refine (ixI _ _ _ xs _ _ h hn).mono ?_; rintro e w1 ⟨r, rfl, hr, rfl⟩)
  all_goals
    go_ret
    refine ⟨ret_b ?_, rfl⟩
    rw [Bool.eq_iff_iff]
    first | done | simp [← hr]
set_option maxHeartbeats 4000000 in
theorem sGuarded (p s l c k b : Int) (a : Option Addr) (n cap : Nat) (xs : List Int) (w : World) (h : Src w a n xs) (bd : ∀ x ∈ xs, 0 ≤ x ∧ x ≤ 18446744073709551615) (hn : n ≤ 16777216) :
    Calls Try.prog 18 #[.agg #[.int .i64 p, .int .i64 s, .int .i64 l, .int .i64 c, .int .i64 k], .slice a n cap, .int .i64 b] w fun e w' => e = .returned (.bool (guarded p s l c k n xs b)) ∧ Below w.heap.size w w' := by
  have z : Below w.heap.size w (w.alloc (Obj.cells #[.int .i64 p, .int .i64 s, .int .i64 l, .int .i64 c, .int .i64 k] 27)) := (Below.refl _ _).alloc (Nat.le_refl _) _
  have B := Box5.new w (.int .i64 p) (.int .i64 s) (.int .i64 l) (.int .i64 c) (.int .i64 k) 27
  replace h := h.keep z
  obtain ⟨c0, c1, c2, c3, c4⟩ := B.five
  cases ha : aOk p s l c k n
  · have e : guarded p s l c k n xs b = false := by unfold guarded; rw [ha]; rfl
    rw [e]
    go_enter Try.func18, Try.ntmps18
    go_wp2_with (go_at_call 25; refine (sArena _ _ _ _ _ _ _ _ _ (by omega)).mono ?_; rintro e w1 ⟨rfl, hb⟩; rw [ha]; replace z := z.trans (hb.mono z.size); clear hb)
    go_ret
    exact ⟨rfl, z⟩
  · obtain ⟨ho, hz⟩ := aOk_y ha
    have h' := ok_iff.1 ho
    cases hsl : inB b 1 (s + l)
    · have e : guarded p s l c k n xs b = false := by unfold guarded; rw [hsl]; simp
      rw [e]
      go_enter Try.func18, Try.ntmps18
      go_wp2_with (first
        | (go_at_call 25; refine (sArena _ _ _ _ _ _ _ _ _ (by omega)).mono ?_; rintro e w1 ⟨rfl, hb⟩; rw [ha]; replace z := z.trans (hb.mono z.size); replace B := B.keep hb; clear hb c0 c1 c2 c3 c4; obtain ⟨c0, c1, c2, c3, c4⟩ := B.five)
        | (go_at_call 26; refine (sBlk _ _ _ _ _ _ ho _).mono ?_; rintro e w1 ⟨rfl, hb⟩; rw [hsl]; replace z := z.trans (hb.mono z.size); clear hb))
      go_ret
      exact ⟨rfl, z⟩
    · have e : guarded p s l c k n xs b = (List.range p.toNat).any (gHas p s l c k xs b) := by unfold guarded; rw [ha, hsl]; rfl
      rw [e]
      have HA : Hid (aOk p s l c k n = true) := ha
      have HO : Hid (ok p s l c k = true) := ho
      obtain ⟨F, hF⟩ : ∃ F : Nat → Bool, Hid (gHas p s l c k xs b = F) := ⟨_, rfl⟩
      rw [hF.out]
      clear e hz
      go_enter Try.func18, Try.ntmps18
      go_wp2_with (first
        | (go_at_call 25; refine (sArena _ _ _ _ _ _ _ _ _ (by omega)).mono ?_; rintro e w1 ⟨rfl, hb⟩; rw [ha]; replace z := z.trans (hb.mono z.size); replace B := B.keep hb; replace h := h.keep hb; clear hb c0 c1 c2 c3 c4; obtain ⟨c0, c1, c2, c3, c4⟩ := B.five)
        | (go_at_call 26; refine (sBlk _ _ _ _ _ _ ho _).mono ?_; rintro e w1 ⟨rfl, hb⟩; rw [hsl]; replace z := z.trans (hb.mono z.size); replace B := B.keep hb; replace h := h.keep hb; clear hb c0 c1 c2 c3 c4; obtain ⟨c0, c1, c2, c3, c4⟩ := B.five))
      clear ha hsl c0 c1 c2 c3 c4 ho
      go_loopg [7] p.toNat (fun g' y wr => ∃ i : Nat, (i : Int) ≤ p ∧ (g' : Int) = p - i ∧ y = .int .i64 i ∧ (∀ j, j < i → F j = false) ∧ Box5 wr w.heap.size (.int .i64 p) (.int .i64 s) (.int .i64 l) (.int .i64 c) (.int .i64 k) ∧ Src wr a n xs ∧ Below w.heap.size w wr)
      case atStart => exact ⟨0, by omega, by omega, rfl, fun j hj => by omega, B, h, z⟩
      case round =>
        clear B h z
        obtain ⟨i, i1, hg, rfl, hj, B, h, z⟩ := hrel
        have HJ : Hid (∀ j, j < i → F j = false) := hj
        clear hj
        obtain ⟨c0, c1, c2, c3, c4⟩ := B.five
        by_cases hip : (i : Int) < p
        · obtain ⟨k5, e5, h5⟩ := slot_in (f := 5) HA.out (i := (i : Int)) (by omega) (by omega) (by omega) (by omega)
          obtain ⟨k6, e6, h6⟩ := slot_in (f := 6) HA.out (i := (i : Int)) (by omega) (by omega) (by omega) (by omega)
          have E5 : Hid (vSlot p s l c k (i : Int) 5 = (k5 : Int)) := e5
          have E6 : Hid (vSlot p s l c k (i : Int) 6 = (k6 : Int)) := e6
          have h5' : (k5 : Int) < n := by omega
          have h6' : (k6 : Int) < n := by omega
          obtain ⟨x, hx⟩ : ∃ x : Int, Hid (xs.getD k5 0 = x) := ⟨_, rfl⟩
          obtain ⟨y, hy⟩ : ∃ y : Int, Hid (xs.getD k6 0 = y) := ⟨_, rfl⟩
          have xb := bd_getD bd k5
          have yb := bd_getD bd k6
          rw [hx.out] at xb
          rw [hy.out] at yb
          have HFi : Hid (F i = (uI x == b || uI y == b)) := by
            show _ = _
            rw [← hF.out]
            unfold gHas gdx
            rw [e5, e6, ← hx.out, ← hy.out]
            simp
          obtain ⟨ab, ao, rfl⟩ : ∃ ab ao, a = some ⟨ab, ao, none⟩ := h.some (by omega)
          clear e5 e6
          by_cases hx5 : uI x = b
          · go_wp2_with (first
              | (go_at_call 28; refine (sSlot _ _ _ _ _ _ _ _).mono ?_; rintro e w2 ⟨rfl, hb⟩; rw [E5.out]; replace z := z.trans (hb.mono z.size); replace h := h.keep hb; clear hb; have d1 := h.at_ h5; rw [hx.out] at d1)
              | (go_at_call 27; refine (sIndex4 _ xb.1 xb.2 _).mono ?_; rintro e w3 ⟨rfl, hb⟩; rw [hx5]; replace z := z.trans (hb.mono z.size); clear hb))
            go_ret
            refine ⟨ret_t (any_y (i := i) (by omega) ?_), z⟩
            rw [HFi.out, hx5]
            simp
          · have hx6 : ¬ (uI x = b) := hx5
            generalize hux : uI x = ux at hx5
            have HU : Hid (uI x = ux) := hux
            clear hux
            by_cases hy6 : uI y = b
            · go_wp2_with (first
                | (go_at_call 28; refine (sSlot _ _ _ _ _ _ _ _).mono ?_; rintro e w2 ⟨rfl, hb⟩; first | (rw [E5.out]; replace z := z.trans (hb.mono z.size); replace h := h.keep hb; replace B := B.keep hb; clear hb c0 c1 c2 c3 c4; obtain ⟨c0, c1, c2, c3, c4⟩ := B.five; have d1 := h.at_ h5; rw [hx.out] at d1) | (rw [E6.out]; replace z := z.trans (hb.mono z.size); replace h := h.keep hb; replace B := B.keep hb; clear hb c0 c1 c2 c3 c4; obtain ⟨c0, c1, c2, c3, c4⟩ := B.five; have d2 := h.at_ h6; rw [hy.out] at d2))
                | (go_at_call 27; refine (sIndex4 _ xb.1 xb.2 _).mono ?_; rintro e w3 ⟨rfl, hb⟩; rw [HU.out]; replace z := z.trans (hb.mono z.size); replace h := h.keep hb; replace B := B.keep hb; clear hb c0 c1 c2 c3 c4; obtain ⟨c0, c1, c2, c3, c4⟩ := B.five)
                | (go_at_call 27; refine (sIndex4 _ yb.1 yb.2 _).mono ?_; rintro e w3 ⟨rfl, hb⟩; rw [hy6]; replace z := z.trans (hb.mono z.size); clear hb))
              go_ret
              refine ⟨ret_t (any_y (i := i) (by omega) ?_), z⟩
              rw [HFi.out, hy6]
              simp
            · generalize huy : uI y = uy at hy6
              have HV : Hid (uI y = uy) := huy
              clear huy
              have hq5 : (ux == b) = false := beq_eq_false_iff_ne.2 hx5
              have hq6 : (uy == b) = false := beq_eq_false_iff_ne.2 hy6
              go_wp2_with (first
                | (go_at_call 28; refine (sSlot _ _ _ _ _ _ _ _).mono ?_; rintro e w2 ⟨rfl, hb⟩; first | (rw [E5.out]; replace z := z.trans (hb.mono z.size); replace h := h.keep hb; replace B := B.keep hb; clear hb c0 c1 c2 c3 c4; obtain ⟨c0, c1, c2, c3, c4⟩ := B.five; have d1 := h.at_ h5; rw [hx.out] at d1) | (rw [E6.out]; replace z := z.trans (hb.mono z.size); replace h := h.keep hb; replace B := B.keep hb; clear hb c0 c1 c2 c3 c4; obtain ⟨c0, c1, c2, c3, c4⟩ := B.five; have d2 := h.at_ h6; rw [hy.out] at d2))
                | (go_at_call 27; refine (sIndex4 _ xb.1 xb.2 _).mono ?_; rintro e w3 ⟨rfl, hb⟩; rw [HU.out]; replace z := z.trans (hb.mono z.size); replace h := h.keep hb; replace B := B.keep hb; clear hb c0 c1 c2 c3 c4; obtain ⟨c0, c1, c2, c3, c4⟩ := B.five)
                | (go_at_call 27; refine (sIndex4 _ yb.1 yb.2 _).mono ?_; rintro e w3 ⟨rfl, hb⟩; rw [HV.out]; replace z := z.trans (hb.mono z.size); replace h := h.keep hb; replace B := B.keep hb; clear hb c0 c1 c2 c3 c4; obtain ⟨c0, c1, c2, c3, c4⟩ := B.five))
              go_roundg (gk - 1)
              case measure => omega
              case rel =>
                refine ⟨i + 1, by omega, by omega, by go_num, fun j hj => ?_, B, h, z⟩
                by_cases hji : j = i
                · subst hji
                  rw [HFi.out, HU.out, HV.out]
                  simp [hx5, hy6]
                · exact HJ.out j (by omega)
        · obtain rfl : (i : Int) = p := by omega
          go_wp2
          go_ret
          exact ⟨ret_f (any_n (fun j hj => HJ.out j (by omega))), z⟩
set_option maxHeartbeats 4000000 in
theorem iGuarded (p s l c k b : Int) (a : Option Addr) (n cap : Nat) (xs : List Int) (w : World) (h : Src w a n xs) (bd : ∀ x ∈ xs, 0 ≤ x ∧ x ≤ 18446744073709551615) (hn : n ≤ 16777216) :
    Calls Try.prog 19 #[.agg #[.int .i64 p, .int .i64 s, .int .i64 l, .int .i64 c, .int .i64 k], .slice a n cap, .int .i64 b] w fun e w' => e = .returned (.bool (guarded p s l c k n xs b)) ∧ Below w.heap.size w w' := by
  have z : Below w.heap.size w (w.alloc (Obj.cells #[.int .i64 p, .int .i64 s, .int .i64 l, .int .i64 c, .int .i64 k] 27)) := (Below.refl _ _).alloc (Nat.le_refl _) _
  have B := Box5.new w (.int .i64 p) (.int .i64 s) (.int .i64 l) (.int .i64 c) (.int .i64 k) 27
  replace h := h.keep z
  obtain ⟨c0, c1, c2, c3, c4⟩ := B.five
  by_cases hcl : vClass p s l c k b < 0
  · have e : guarded p s l c k n xs b = false := by
      cases ha : aOk p s l c k n
      · unfold guarded; rw [ha]; rfl
      · cases hi : inB b 1 (s + l)
        · unfold guarded; rw [hi]; simp
        · have hi' : 1 ≤ b ∧ b ≤ s + l := of_decide_eq_true hi
          unfold vClass at hcl
          rw [if_pos ⟨(aOk_y ha).1, hi'⟩] at hcl
          split at hcl <;> omega
    rw [e]
    go_enter Try.func19, Try.ntmps19
    go_wp2_with (go_at_call 29; refine (iClass _ _ _ _ _ _ _).mono ?_; rintro e w1 ⟨rfl, hb⟩; replace z := z.trans (hb.mono z.size); clear hb)
    go_ret
    exact ⟨rfl, z⟩
  · have hcc : ok p s l c k = true ∧ 1 ≤ b ∧ b ≤ s + l := by
      by_cases hx : ok p s l c k = true ∧ (1 ≤ b ∧ b ≤ s + l)
      · exact hx
      · unfold vClass at hcl
        rw [if_neg hx] at hcl
        omega
    have ho := hcc.1
    have h' := ok_iff.1 ho
    have e : guarded p s l c k n xs b = (List.range p.toNat).any (fun j => decide (b ∈ guards p s l c k n xs (j : Int))) := by
      cases ha : aOk p s l c k n
      · have e1 : guarded p s l c k n xs b = false := by unfold guarded; rw [ha]; rfl
        rw [e1, any_n]
        intro i hi
        unfold guards
        rw [ha]
        simp
      · unfold guarded
        rw [ha, show inB b 1 (s + l) = true from decide_eq_true hcc.2]
        simp only [Bool.true_and]
        rw [Bool.eq_iff_iff, List.any_eq_true, List.any_eq_true]
        refine ⟨fun ⟨j, h1, h2⟩ => ⟨j, h1, ?_⟩, fun ⟨j, h1, h2⟩ => ⟨j, h1, ?_⟩⟩
        · have := List.mem_range.1 h1
          rw [mem_guards ha (by omega) hcc.2.1]
          exact h2
        · have := List.mem_range.1 h1
          rw [mem_guards ha (by omega) hcc.2.1] at h2
          exact h2
    rw [e]
    obtain ⟨F, hF⟩ : ∃ F : Nat → Bool, Hid ((fun j : Nat => decide (b ∈ guards p s l c k n xs (j : Int))) = F) := ⟨_, rfl⟩
    rw [hF.out]
    obtain ⟨C, hC⟩ : ∃ C : Int, Hid (vClass p s l c k b = C) := ⟨_, rfl⟩
    rw [hC.out] at hcl
    clear e hcc ho
    go_enter Try.func19, Try.ntmps19
    go_wp2_with (go_at_call 29; refine (iClass _ _ _ _ _ _ _).mono ?_; rintro e w1 ⟨rfl, hb⟩; rw [hC.out]; replace z := z.trans (hb.mono z.size); replace B := B.keep hb; replace h := h.keep hb; clear hb c0 c1 c2 c3 c4; obtain ⟨c0, c1, c2, c3, c4⟩ := B.five)
    clear c0 c1 c2 c3 c4
    go_loopg [14] p.toNat (fun g' y wr => ∃ i : Nat, (i : Int) ≤ p ∧ (g' : Int) = p - i ∧ y = .int .i64 i ∧ (∀ j, j < i → F j = false) ∧ Box5 wr w.heap.size (.int .i64 p) (.int .i64 s) (.int .i64 l) (.int .i64 c) (.int .i64 k) ∧ Src wr a n xs ∧ Below w.heap.size w wr)
    case atStart => exact ⟨0, by omega, by omega, rfl, fun j hj => by omega, B, h, z⟩
    case round =>
      clear B h z
      obtain ⟨i, i1, hg, rfl, hj, B, h, z⟩ := hrel
      have HJ : Hid (∀ j, j < i → F j = false) := hj
      clear hj
      obtain ⟨c0, c1, c2, c3, c4⟩ := B.five
      by_cases hip : (i : Int) < p
      · cases hFi : F i
        · have HI : Hid (decide (b ∈ guards p s l c k n xs (i : Int)) = false) := by show _ = _; rw [← hFi, ← hF.out]
          have HFi : Hid (F i = false) := hFi
          clear hFi
          go_wp2_with (first
            | (go_at_call 21; refine (iGuards _ _ _ _ _ _ _ _ _ xs _ h bd hn).mono ?_; rintro e w2 ⟨g, m, cc, rfl, -, hI, hm, hb⟩; replace z := z.trans (hb.mono z.size); replace B := B.keep hb; replace h := h.keep hb; clear hb c0 c1 c2 c3 c4; obtain ⟨c0, c1, c2, c3, c4⟩ := B.five)
            | (go_at_call 30; refine (hasI _ _ _ _ _ _ hI (by omega)).mono ?_; rintro e w3 ⟨rfl, rfl⟩; rw [HI.out]))
          go_roundg (gk - 1)
          case measure => omega
          case rel =>
            refine ⟨i + 1, by omega, by omega, by go_num, fun j hj => ?_, B, h, z⟩
            by_cases hji : j = i
            · subst hji
              exact HFi.out
            · exact HJ.out j (by omega)
        · have HI : Hid (decide (b ∈ guards p s l c k n xs (i : Int)) = true) := by show _ = _; rw [← hFi, ← hF.out]
          have HFi : Hid (F i = true) := hFi
          clear hFi
          go_wp2_with (first
            | (go_at_call 21; refine (iGuards _ _ _ _ _ _ _ _ _ xs _ h bd hn).mono ?_; rintro e w2 ⟨g, m, cc, rfl, -, hI, hm, hb⟩; replace z := z.trans (hb.mono z.size); clear hb c0 c1 c2 c3 c4)
            | (go_at_call 30; refine (hasI _ _ _ _ _ _ hI (by omega)).mono ?_; rintro e w3 ⟨rfl, rfl⟩; rw [HI.out]))
          go_ret
          exact ⟨ret_t (any_y (i := i) (by omega) HFi.out), z⟩
      · obtain rfl : (i : Int) = p := by omega
        go_wp2
        go_ret
        exact ⟨ret_f (any_n (fun j hj => HJ.out j (by omega))), z⟩
end Go.Proofs.Ytggiipmaoebfoaa
