/-
  The region of a place in the model: it walks over the blocks, and comes to the same.
-/
import Derived.Test.YteikophkacagoaaPlan6
namespace Go.Proofs.Yteikophkacagoaa
open Go.RowKit
set_option linter.unusedVariables false
set_option linter.unusedSimpArgs false
set_option maxHeartbeats 1000000 in
theorem sRegN (p s l c k t : Int) (h : ok p s l c k = false) (w : World) :
    Calls Try.prog 36 #[.agg #[.int .i64 p, .int .i64 s, .int .i64 l, .int .i64 c, .int .i64 k], .int .i64 t] w fun e w' => e = .returned (.agg #[.int .i64 (0), .int .i64 (0), .int .i64 (0)]) ∧ Below w.heap.size w w' := by
  go_enter Try.func36, Try.ntmps36
  go_wp2_with fail
  have R := At.new (w.alloc (Obj.cells #[.int .i64 p, .int .i64 s, .int .i64 l, .int .i64 c, .int .i64 k] 25)) #[.int .i64 0, .int .i64 0, .int .i64 0] 29
  have B := (Box5.new w (.int .i64 p) (.int .i64 s) (.int .i64 l) (.int .i64 c) (.int .i64 k) 25).keep ((Below.refl _ _).alloc (Nat.le_refl _) (Obj.cells #[.int .i64 0, .int .i64 0, .int .i64 0] 29))
  have z := ((Below.refl w.heap.size w).alloc (Nat.le_refl _) (Obj.cells #[.int .i64 p, .int .i64 s, .int .i64 l, .int .i64 c, .int .i64 k] 25)).alloc (by simp) (Obj.cells #[.int .i64 0, .int .i64 0, .int .i64 0] 29)
  rw [show (w.alloc (Obj.cells #[.int .i64 p, .int .i64 s, .int .i64 l, .int .i64 c, .int .i64 k] 25)).heap.size = w.heap.size + 1 from by simp] at R
  go_wp2_with (first
    | (go_at_call 21; refine (sPlanOk _ _ _ _ _ _).mono ?_; rintro e w1 ⟨rfl, hb⟩; replace B := B.keep hb; replace z := z.trans (hb.mono z.size); replace R := R.keep hb; clear hb; rw [h]; obtain ⟨d0, d1, d2, g0, g1, g2⟩ := R.three;  obtain ⟨c0, c1, c2, c3, c4⟩ := B.five))
  exact sFin R z (by omega) (by rfl) rfl rfl rfl
set_option maxHeartbeats 1000000 in
theorem sRegN1 (p s l c k t : Int) (h : ok p s l c k = true) (ht : ¬ (0 ≤ t ∧ t ≤ zF p s l c - 1)) (w : World) :
    Calls Try.prog 36 #[.agg #[.int .i64 p, .int .i64 s, .int .i64 l, .int .i64 c, .int .i64 k], .int .i64 t] w fun e w' => e = .returned (.agg #[.int .i64 (0), .int .i64 (0), .int .i64 (0)]) ∧ Below w.heap.size w w' := by
  have h' := ok_iff.1 h
  have hd := bds h
  have he : Hid (rF p = nF p + p * p ∧ sF p c = rF p + 5 + c ∧ lF p s c = sF p c + 3 * s ∧ zF p s l c = lF p s c + 5 * l) := eqs p s l c
  have hv : vSize p s l c k = zF p s l c := by unfold vSize; rw [if_pos h]
  go_enter Try.func36, Try.ntmps36
  go_wp2_with fail
  have R := At.new (w.alloc (Obj.cells #[.int .i64 p, .int .i64 s, .int .i64 l, .int .i64 c, .int .i64 k] 25)) #[.int .i64 0, .int .i64 0, .int .i64 0] 29
  have B := (Box5.new w (.int .i64 p) (.int .i64 s) (.int .i64 l) (.int .i64 c) (.int .i64 k) 25).keep ((Below.refl _ _).alloc (Nat.le_refl _) (Obj.cells #[.int .i64 0, .int .i64 0, .int .i64 0] 29))
  have z := ((Below.refl w.heap.size w).alloc (Nat.le_refl _) (Obj.cells #[.int .i64 p, .int .i64 s, .int .i64 l, .int .i64 c, .int .i64 k] 25)).alloc (by simp) (Obj.cells #[.int .i64 0, .int .i64 0, .int .i64 0] 29)
  rw [show (w.alloc (Obj.cells #[.int .i64 p, .int .i64 s, .int .i64 l, .int .i64 c, .int .i64 k] 25)).heap.size = w.heap.size + 1 from by simp] at R
  go_wp2_with (first
    | (go_at_call 21; refine (sPlanOk _ _ _ _ _ _).mono ?_; rintro e w1 ⟨rfl, hb⟩; replace B := B.keep hb; replace z := z.trans (hb.mono z.size); replace R := R.keep hb; clear hb; rw [h]; obtain ⟨d0, d1, d2, g0, g1, g2⟩ := R.three;  obtain ⟨c0, c1, c2, c3, c4⟩ := B.five)
    | (go_at_call 22; refine (sSize _ _ _ _ _ _).mono ?_; rintro e w1 ⟨rfl, hb⟩; replace B := B.keep hb; replace z := z.trans (hb.mono z.size); replace R := R.keep hb; clear hb; rw [hv]; obtain ⟨d0, d1, d2, g0, g1, g2⟩ := R.three;  obtain ⟨c0, c1, c2, c3, c4⟩ := B.five)
    | (go_at_call 50; refine (sIn _ _ _ _).mono ?_; rintro e w1 ⟨rfl, rfl⟩; rw [inB_niff.2 ht]))
  exact sFin R z (by omega) (by rfl) rfl rfl rfl
set_option maxHeartbeats 1000000 in
theorem sRegA (p s l c k t : Int) (h : ok p s l c k = true) (ht : 0 ≤ t ∧ t ≤ zF p s l c - 1) (hz : t < nF p) (w : World) :
    Calls Try.prog 36 #[.agg #[.int .i64 p, .int .i64 s, .int .i64 l, .int .i64 c, .int .i64 k], .int .i64 t] w fun e w' => e = .returned (.agg #[.int .i64 (rK p s l c t), .int .i64 (rI p s l c t), .int .i64 (rX p s l c t)]) ∧ Below w.heap.size w w' := by
  have h' := ok_iff.1 h
  have hd := bds h
  have he : Hid (rF p = nF p + p * p ∧ sF p c = rF p + 5 + c ∧ lF p s c = sF p c + 3 * s ∧ zF p s l c = lF p s c + 5 * l) := eqs p s l c
  have hv : vSize p s l c k = zF p s l c := by unfold vSize; rw [if_pos h]
  go_enter Try.func36, Try.ntmps36
  go_wp2_with fail
  have R := At.new (w.alloc (Obj.cells #[.int .i64 p, .int .i64 s, .int .i64 l, .int .i64 c, .int .i64 k] 25)) #[.int .i64 0, .int .i64 0, .int .i64 0] 29
  have B := (Box5.new w (.int .i64 p) (.int .i64 s) (.int .i64 l) (.int .i64 c) (.int .i64 k) 25).keep ((Below.refl _ _).alloc (Nat.le_refl _) (Obj.cells #[.int .i64 0, .int .i64 0, .int .i64 0] 29))
  have z := ((Below.refl w.heap.size w).alloc (Nat.le_refl _) (Obj.cells #[.int .i64 p, .int .i64 s, .int .i64 l, .int .i64 c, .int .i64 k] 25)).alloc (by simp) (Obj.cells #[.int .i64 0, .int .i64 0, .int .i64 0] 29)
  rw [show (w.alloc (Obj.cells #[.int .i64 p, .int .i64 s, .int .i64 l, .int .i64 c, .int .i64 k] 25)).heap.size = w.heap.size + 1 from by simp] at R
  go_wp2_with (first
    | (go_at_call 21; refine (sPlanOk _ _ _ _ _ _).mono ?_; rintro e w1 ⟨rfl, hb⟩; replace B := B.keep hb; replace z := z.trans (hb.mono z.size); replace R := R.keep hb; clear hb; rw [h]; obtain ⟨d0, d1, d2, g0, g1, g2⟩ := R.three;  obtain ⟨c0, c1, c2, c3, c4⟩ := B.five)
    | (go_at_call 22; refine (sSize _ _ _ _ _ _).mono ?_; rintro e w1 ⟨rfl, hb⟩; replace B := B.keep hb; replace z := z.trans (hb.mono z.size); replace R := R.keep hb; clear hb; rw [hv]; obtain ⟨d0, d1, d2, g0, g1, g2⟩ := R.three;  obtain ⟨c0, c1, c2, c3, c4⟩ := B.five)
    | (go_at_call 50; refine (sIn _ _ _ _).mono ?_; rintro e w1 ⟨rfl, rfl⟩; rw [inB_iff.2 ht])
    | (go_at_call 54; refine (sNotes _ _ _ _ _ h _).mono ?_; rintro e w1 ⟨rfl, hb⟩; replace B := B.keep hb; replace z := z.trans (hb.mono z.size); replace R := R.keep hb; clear hb; obtain ⟨d0, d1, d2, g0, g1, g2⟩ := R.three;  obtain ⟨c0, c1, c2, c3, c4⟩ := B.five))
  refine sFin R z (by omega) (by rfl) ?_ ?_ ?_
  · unfold rK; rw [if_pos hz]
  · unfold rI; rw [if_pos hz]
  · unfold rX; rw [if_pos hz]
set_option maxHeartbeats 1000000 in
theorem sRegB (p s l c k t : Int) (h : ok p s l c k = true) (ht : 0 ≤ t ∧ t ≤ zF p s l c - 1) (hy : nF p ≤ t) (hz : t < rF p) (w : World) :
    Calls Try.prog 36 #[.agg #[.int .i64 p, .int .i64 s, .int .i64 l, .int .i64 c, .int .i64 k], .int .i64 t] w fun e w' => e = .returned (.agg #[.int .i64 (rK p s l c t), .int .i64 (rI p s l c t), .int .i64 (rX p s l c t)]) ∧ Below w.heap.size w w' := by
  have h' := ok_iff.1 h
  have hd := bds h
  have he : Hid (rF p = nF p + p * p ∧ sF p c = rF p + 5 + c ∧ lF p s c = sF p c + 3 * s ∧ zF p s l c = lF p s c + 5 * l) := eqs p s l c
  have hv : vSize p s l c k = zF p s l c := by unfold vSize; rw [if_pos h]
  go_enter Try.func36, Try.ntmps36
  go_wp2_with fail
  have R := At.new (w.alloc (Obj.cells #[.int .i64 p, .int .i64 s, .int .i64 l, .int .i64 c, .int .i64 k] 25)) #[.int .i64 0, .int .i64 0, .int .i64 0] 29
  have B := (Box5.new w (.int .i64 p) (.int .i64 s) (.int .i64 l) (.int .i64 c) (.int .i64 k) 25).keep ((Below.refl _ _).alloc (Nat.le_refl _) (Obj.cells #[.int .i64 0, .int .i64 0, .int .i64 0] 29))
  have z := ((Below.refl w.heap.size w).alloc (Nat.le_refl _) (Obj.cells #[.int .i64 p, .int .i64 s, .int .i64 l, .int .i64 c, .int .i64 k] 25)).alloc (by simp) (Obj.cells #[.int .i64 0, .int .i64 0, .int .i64 0] 29)
  rw [show (w.alloc (Obj.cells #[.int .i64 p, .int .i64 s, .int .i64 l, .int .i64 c, .int .i64 k] 25)).heap.size = w.heap.size + 1 from by simp] at R
  go_wp2_with (first
    | (go_at_call 21; refine (sPlanOk _ _ _ _ _ _).mono ?_; rintro e w1 ⟨rfl, hb⟩; replace B := B.keep hb; replace z := z.trans (hb.mono z.size); replace R := R.keep hb; clear hb; rw [h]; obtain ⟨d0, d1, d2, g0, g1, g2⟩ := R.three;  obtain ⟨c0, c1, c2, c3, c4⟩ := B.five)
    | (go_at_call 22; refine (sSize _ _ _ _ _ _).mono ?_; rintro e w1 ⟨rfl, hb⟩; replace B := B.keep hb; replace z := z.trans (hb.mono z.size); replace R := R.keep hb; clear hb; rw [hv]; obtain ⟨d0, d1, d2, g0, g1, g2⟩ := R.three;  obtain ⟨c0, c1, c2, c3, c4⟩ := B.five)
    | (go_at_call 50; refine (sIn _ _ _ _).mono ?_; rintro e w1 ⟨rfl, rfl⟩; rw [inB_iff.2 ht])
    | (go_at_call 54; refine (sNotes _ _ _ _ _ h _).mono ?_; rintro e w1 ⟨rfl, hb⟩; replace B := B.keep hb; replace z := z.trans (hb.mono z.size); replace R := R.keep hb; clear hb; obtain ⟨d0, d1, d2, g0, g1, g2⟩ := R.three;  obtain ⟨c0, c1, c2, c3, c4⟩ := B.five)
    | (go_at_call 55; refine (sRoots _ _ _ _ _ h _).mono ?_; rintro e w1 ⟨rfl, hb⟩; replace B := B.keep hb; replace z := z.trans (hb.mono z.size); replace R := R.keep hb; clear hb; obtain ⟨d0, d1, d2, g0, g1, g2⟩ := R.three;  obtain ⟨c0, c1, c2, c3, c4⟩ := B.five))
  go_region
  go_wp2
  refine sFin (R.draw 1) z.drew (by omega) (by rfl) ?_ ?_ ?_
  · unfold rK; rw [if_neg (by omega), if_pos hz]
  · unfold rI; rw [if_neg (by omega), if_pos hz]
  · unfold rX; rw [if_neg (by omega), if_pos hz]
set_option maxHeartbeats 1000000 in
theorem sRegC (p s l c k t : Int) (h : ok p s l c k = true) (ht : 0 ≤ t ∧ t ≤ zF p s l c - 1) (hy : rF p ≤ t) (hz : t < sF p c) (w : World) :
    Calls Try.prog 36 #[.agg #[.int .i64 p, .int .i64 s, .int .i64 l, .int .i64 c, .int .i64 k], .int .i64 t] w fun e w' => e = .returned (.agg #[.int .i64 (rK p s l c t), .int .i64 (rI p s l c t), .int .i64 (rX p s l c t)]) ∧ Below w.heap.size w w' := by
  have h' := ok_iff.1 h
  have hd := bds h
  have he : Hid (rF p = nF p + p * p ∧ sF p c = rF p + 5 + c ∧ lF p s c = sF p c + 3 * s ∧ zF p s l c = lF p s c + 5 * l) := eqs p s l c
  have hv : vSize p s l c k = zF p s l c := by unfold vSize; rw [if_pos h]
  go_enter Try.func36, Try.ntmps36
  go_wp2_with fail
  have R := At.new (w.alloc (Obj.cells #[.int .i64 p, .int .i64 s, .int .i64 l, .int .i64 c, .int .i64 k] 25)) #[.int .i64 0, .int .i64 0, .int .i64 0] 29
  have B := (Box5.new w (.int .i64 p) (.int .i64 s) (.int .i64 l) (.int .i64 c) (.int .i64 k) 25).keep ((Below.refl _ _).alloc (Nat.le_refl _) (Obj.cells #[.int .i64 0, .int .i64 0, .int .i64 0] 29))
  have z := ((Below.refl w.heap.size w).alloc (Nat.le_refl _) (Obj.cells #[.int .i64 p, .int .i64 s, .int .i64 l, .int .i64 c, .int .i64 k] 25)).alloc (by simp) (Obj.cells #[.int .i64 0, .int .i64 0, .int .i64 0] 29)
  rw [show (w.alloc (Obj.cells #[.int .i64 p, .int .i64 s, .int .i64 l, .int .i64 c, .int .i64 k] 25)).heap.size = w.heap.size + 1 from by simp] at R
  go_wp2_with (first
    | (go_at_call 21; refine (sPlanOk _ _ _ _ _ _).mono ?_; rintro e w1 ⟨rfl, hb⟩; replace B := B.keep hb; replace z := z.trans (hb.mono z.size); replace R := R.keep hb; clear hb; rw [h]; obtain ⟨d0, d1, d2, g0, g1, g2⟩ := R.three;  obtain ⟨c0, c1, c2, c3, c4⟩ := B.five)
    | (go_at_call 22; refine (sSize _ _ _ _ _ _).mono ?_; rintro e w1 ⟨rfl, hb⟩; replace B := B.keep hb; replace z := z.trans (hb.mono z.size); replace R := R.keep hb; clear hb; rw [hv]; obtain ⟨d0, d1, d2, g0, g1, g2⟩ := R.three;  obtain ⟨c0, c1, c2, c3, c4⟩ := B.five)
    | (go_at_call 50; refine (sIn _ _ _ _).mono ?_; rintro e w1 ⟨rfl, rfl⟩; rw [inB_iff.2 ht])
    | (go_at_call 54; refine (sNotes _ _ _ _ _ h _).mono ?_; rintro e w1 ⟨rfl, hb⟩; replace B := B.keep hb; replace z := z.trans (hb.mono z.size); replace R := R.keep hb; clear hb; obtain ⟨d0, d1, d2, g0, g1, g2⟩ := R.three;  obtain ⟨c0, c1, c2, c3, c4⟩ := B.five)
    | (go_at_call 55; refine (sRoots _ _ _ _ _ h _).mono ?_; rintro e w1 ⟨rfl, hb⟩; replace B := B.keep hb; replace z := z.trans (hb.mono z.size); replace R := R.keep hb; clear hb; obtain ⟨d0, d1, d2, g0, g1, g2⟩ := R.three;  obtain ⟨c0, c1, c2, c3, c4⟩ := B.five)
    | (go_at_call 51; refine (sSmall _ _ _ _ _ h _).mono ?_; rintro e w1 ⟨rfl, hb⟩; replace B := B.keep hb; replace z := z.trans (hb.mono z.size); replace R := R.keep hb; clear hb; obtain ⟨d0, d1, d2, g0, g1, g2⟩ := R.three;  obtain ⟨c0, c1, c2, c3, c4⟩ := B.five))
  refine sFin R z (by omega) (by rfl) ?_ ?_ ?_
  · unfold rK; rw [if_neg (by omega), if_neg (by omega), if_pos hz]
  · unfold rI; rw [if_neg (by omega), if_neg (by omega), if_pos hz]
  · unfold rX; rw [if_neg (by omega), if_neg (by omega), if_pos hz]
theorem zone {p s l c k t b : Int} (h : ok p s l c k = true) (ht : t ≤ zF p s l c - 1) (hy : sF p c ≤ t) (h1 : 1 ≤ b) (h0 : 0 ≤ t - sF p c - wS s (b - 1)) (hw : t - sF p c - wS s (b - 1) < wid s b) :
    rK p s l c t = 4 ∧ rI p s l c t = b ∧ rX p s l c t = t - sF p c - wS s (b - 1) := by
  have hd := bds h
  have he := eqs p s l c
  have h' := ok_iff.1 h
  unfold rK rI rX
  unfold wS wid at *
  by_cases hb : b ≤ s
  · have e : b - 1 ≤ s := by omega
    rw [if_pos e] at h0 hw
    rw [if_pos hb] at hw
    have hl : t < lF p s c := by omega
    rw [if_pos e, if_pos hl, if_pos hl, if_neg (by omega), if_neg (by omega), if_neg (by omega), if_neg (by omega), if_neg (by omega), if_neg (by omega), if_neg (by omega), if_neg (by omega), if_neg (by omega)]
    omega
  · rw [if_neg hb] at hw
    have hl : ¬ t < lF p s c := by split at h0 <;> omega
    rw [if_neg hl, if_neg hl, if_neg (by omega), if_neg (by omega), if_neg (by omega), if_neg (by omega), if_neg (by omega), if_neg (by omega), if_neg (by omega), if_neg (by omega), if_neg (by omega)]
    split at h0 <;> omega
set_option maxHeartbeats 1000000 in
theorem sRegD (p s l c k t : Int) (h : ok p s l c k = true) (ht : 0 ≤ t ∧ t ≤ zF p s l c - 1) (hy : sF p c ≤ t) (w : World) :
    Calls Try.prog 36 #[.agg #[.int .i64 p, .int .i64 s, .int .i64 l, .int .i64 c, .int .i64 k], .int .i64 t] w fun e w' => e = .returned (.agg #[.int .i64 (rK p s l c t), .int .i64 (rI p s l c t), .int .i64 (rX p s l c t)]) ∧ Below w.heap.size w w' := by
  have h' := ok_iff.1 h
  have hd := bds h
  have he : Hid (rF p = nF p + p * p ∧ sF p c = rF p + 5 + c ∧ lF p s c = sF p c + 3 * s ∧ zF p s l c = lF p s c + 5 * l) := eqs p s l c
  have hv : vSize p s l c k = zF p s l c := by unfold vSize; rw [if_pos h]
  go_enter Try.func36, Try.ntmps36
  go_wp2_with fail
  have R := At.new (w.alloc (Obj.cells #[.int .i64 p, .int .i64 s, .int .i64 l, .int .i64 c, .int .i64 k] 25)) #[.int .i64 0, .int .i64 0, .int .i64 0] 29
  have B := (Box5.new w (.int .i64 p) (.int .i64 s) (.int .i64 l) (.int .i64 c) (.int .i64 k) 25).keep ((Below.refl _ _).alloc (Nat.le_refl _) (Obj.cells #[.int .i64 0, .int .i64 0, .int .i64 0] 29))
  have z := ((Below.refl w.heap.size w).alloc (Nat.le_refl _) (Obj.cells #[.int .i64 p, .int .i64 s, .int .i64 l, .int .i64 c, .int .i64 k] 25)).alloc (by simp) (Obj.cells #[.int .i64 0, .int .i64 0, .int .i64 0] 29)
  rw [show (w.alloc (Obj.cells #[.int .i64 p, .int .i64 s, .int .i64 l, .int .i64 c, .int .i64 k] 25)).heap.size = w.heap.size + 1 from by simp] at R
  go_wp2_with (first
    | (go_at_call 21; refine (sPlanOk _ _ _ _ _ _).mono ?_; rintro e w1 ⟨rfl, hb⟩; replace B := B.keep hb; replace z := z.trans (hb.mono z.size); replace R := R.keep hb; clear hb; rw [h]; obtain ⟨d0, d1, d2, g0, g1, g2⟩ := R.three;  obtain ⟨c0, c1, c2, c3, c4⟩ := B.five)
    | (go_at_call 22; refine (sSize _ _ _ _ _ _).mono ?_; rintro e w1 ⟨rfl, hb⟩; replace B := B.keep hb; replace z := z.trans (hb.mono z.size); replace R := R.keep hb; clear hb; rw [hv]; obtain ⟨d0, d1, d2, g0, g1, g2⟩ := R.three;  obtain ⟨c0, c1, c2, c3, c4⟩ := B.five)
    | (go_at_call 50; refine (sIn _ _ _ _).mono ?_; rintro e w1 ⟨rfl, rfl⟩; rw [inB_iff.2 ht])
    | (go_at_call 54; refine (sNotes _ _ _ _ _ h _).mono ?_; rintro e w1 ⟨rfl, hb⟩; replace B := B.keep hb; replace z := z.trans (hb.mono z.size); replace R := R.keep hb; clear hb; obtain ⟨d0, d1, d2, g0, g1, g2⟩ := R.three;  obtain ⟨c0, c1, c2, c3, c4⟩ := B.five)
    | (go_at_call 55; refine (sRoots _ _ _ _ _ h _).mono ?_; rintro e w1 ⟨rfl, hb⟩; replace B := B.keep hb; replace z := z.trans (hb.mono z.size); replace R := R.keep hb; clear hb; obtain ⟨d0, d1, d2, g0, g1, g2⟩ := R.three;  obtain ⟨c0, c1, c2, c3, c4⟩ := B.five)
    | (go_at_call 51; refine (sSmall _ _ _ _ _ h _).mono ?_; rintro e w1 ⟨rfl, hb⟩; replace B := B.keep hb; replace z := z.trans (hb.mono z.size); replace R := R.keep hb; clear hb; obtain ⟨d0, d1, d2, g0, g1, g2⟩ := R.three;  obtain ⟨c0, c1, c2, c3, c4⟩ := B.five))
  clear hv d0 d1 d2 g0 g1 g2 c0 c1 c2 c3 c4
  go_loopw [6, 7] (fun x y wr => ∃ j : Int, 1 ≤ j ∧ x = .int .i64 (t - sF p c - wS s (j - 1)) ∧ y = .int .i64 j ∧ 0 ≤ t - sF p c - wS s (j - 1) ∧ Box5 wr w.heap.size (.int .i64 p) (.int .i64 s) (.int .i64 l) (.int .i64 c) (.int .i64 k) ∧ At wr (w.heap.size + 1) #[.int .i64 0, .int .i64 0, .int .i64 0] 29 ∧ Below w.heap.size w wr) (fun x _ _ => (intOf x).toNat)
  case atStart =>
    have e : wS s (1 - 1) = 0 := by unfold wS; split <;> omega
    exact ⟨1, by omega, by rw [e]; simp, rfl, by rw [e]; omega, B, R, z⟩
  case round =>
    obtain ⟨j, hj0, rfl, rfl, hn, B, R, z⟩ := hrel
    obtain ⟨c0, c1, c2, c3, c4⟩ := B.five
    obtain ⟨d0, d1, d2, g0, g1, g2⟩ := R.three
    have hw : Hid (wS s (j - 1) + wid s j = wS s j) := wS_succ s j
    have h9 : Hid (3 * (j - 1) ≤ wS s (j - 1)) := by show _ ≤ _; unfold wS; split <;> omega
    have hj1 : j ≤ 6000 := by have := h9.out; omega
    have hm1 : t - sF p c - wS s (j - 1) ≤ 6000 := by have := h9.out; omega
    have h3 : Hid (wid s j = 3 ∨ wid s j = 5) := by show _ ∨ _; unfold wid; split <;> simp
    have hz := @zone p s l c k t j h ht.2 hy hj0 hn
    generalize hm : t - sF p c - wS s (j - 1) = m at *
    by_cases hlt : m < wid s j
    · obtain ⟨e1, e2, e3⟩ := hz hlt
      have E1 : Hid (4 = rK p s l c t) := e1.symm
      have E2 : Hid (j = rI p s l c t) := e2.symm
      have E3 : Hid (m = rX p s l c t) := e3.symm
      clear hz e1 e2 e3 hm
      go_wp2_with (first
        | (go_at_call 57; refine (sWidth _ _ _ _ _ _ _).mono ?_; rintro e w3 ⟨rfl, hb3⟩; replace B := B.keep hb3; replace R := R.keep hb3; replace z := z.trans (hb3.mono z.size); clear hb3; obtain ⟨d0, d1, d2, g0, g1, g2⟩ := R.three; obtain ⟨c0, c1, c2, c3, c4⟩ := B.five))
      exact sFin R z (by omega) (by rfl) E1.out E2.out E3.out
    · have H : Hid (t - sF p c - wS s (j - 1) = m) := hm
      clear hz hm
      go_wp2_with (first
        | (go_at_call 57; refine (sWidth _ _ _ _ _ _ _).mono ?_; rintro e w3 ⟨rfl, hb3⟩; replace B := B.keep hb3; replace R := R.keep hb3; replace z := z.trans (hb3.mono z.size); clear hb3; obtain ⟨d0, d1, d2, g0, g1, g2⟩ := R.three; obtain ⟨c0, c1, c2, c3, c4⟩ := B.five))
      go_roundw
      case rel =>
        have h1 := hw.out
        have h2 := h3.out
        have h4 := H.out
        have e : j + 1 - 1 = j := by omega
        refine ⟨j + 1, by omega, ?_, by go_num, ?_, B, R, z⟩
        · rw [e]
          simp only [Value.int.injEq, true_and, wrap64]
          omega
        · rw [e]; omega
      case measure =>
        have h2 := h3.out
        simp only [intOf, wrap64]
        omega
def inR (p s l c k t : Int) : Bool := ok p s l c k && decide (0 ≤ t ∧ t ≤ zF p s l c - 1)
def gK (p s l c k t : Int) : Int := if inR p s l c k t = true then rK p s l c t else 0
def gI (p s l c k t : Int) : Int := if inR p s l c k t = true then rI p s l c t else 0
def gX (p s l c k t : Int) : Int := if inR p s l c k t = true then rX p s l c t else 0
theorem iRegion (p s l c k t : Int) (w : World) :
    Calls Try.prog 16 #[.agg #[.int .i64 p, .int .i64 s, .int .i64 l, .int .i64 c, .int .i64 k], .int .i64 t] w fun e w' => e = .returned (.agg #[.int .i64 (gK p s l c k t), .int .i64 (gI p s l c k t), .int .i64 (gX p s l c k t)]) ∧ Below w.heap.size w w' := by
  unfold gK gI gX inR
  cases h : ok p s l c k
  · exact iRegN p s l c k t h w
  · by_cases ht : 0 ≤ t ∧ t ≤ zF p s l c - 1
    · rw [decide_eq_true ht]
      by_cases h1 : t < nF p
      · exact iRegA p s l c k t h ht h1 w
      · by_cases h2 : t < rF p
        · exact iRegB p s l c k t h ht (by omega) h2 w
        · by_cases h3 : t < sF p c
          · exact iRegC p s l c k t h ht (by omega) h3 w
          · by_cases h4 : t < lF p s c
            · exact iRegD p s l c k t h ht (by omega) h4 w
            · exact iRegE p s l c k t h ht (by omega) w
    · rw [decide_eq_false ht]
      exact iRegN1 p s l c k t h ht w
theorem sRegion (p s l c k t : Int) (w : World) :
    Calls Try.prog 36 #[.agg #[.int .i64 p, .int .i64 s, .int .i64 l, .int .i64 c, .int .i64 k], .int .i64 t] w fun e w' => e = .returned (.agg #[.int .i64 (gK p s l c k t), .int .i64 (gI p s l c k t), .int .i64 (gX p s l c k t)]) ∧ Below w.heap.size w w' := by
  unfold gK gI gX inR
  cases h : ok p s l c k
  · exact sRegN p s l c k t h w
  · by_cases ht : 0 ≤ t ∧ t ≤ zF p s l c - 1
    · rw [decide_eq_true ht]
      by_cases h1 : t < nF p
      · exact sRegA p s l c k t h ht h1 w
      · by_cases h2 : t < rF p
        · exact sRegB p s l c k t h ht (by omega) h2 w
        · by_cases h3 : t < sF p c
          · exact sRegC p s l c k t h ht (by omega) h3 w
          · exact sRegD p s l c k t h ht (by omega) w
    · rw [decide_eq_false ht]
      exact sRegN1 p s l c k t h ht w
end Go.Proofs.Yteikophkacagoaa
