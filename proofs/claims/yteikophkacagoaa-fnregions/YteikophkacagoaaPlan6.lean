/-
  The region of a place, in the program and in the model.
-/
import Derived.Test.YteikophkacagoaaPlan5
import Derived.Test.YteikophkacagoaaAt
namespace Go.Proofs.Yteikophkacagoaa
open Go.RowKit
set_option linter.unusedVariables false
set_option linter.unusedSimpArgs false
theorem At.three {w : World} {b : Nat} {x0 x1 x2 : Value} {t : TypeId} (h : At w b #[x0, x1, x2] t) :
    w.cell? ⟨b, 0, none⟩ = some x0 ∧ w.cell? ⟨b, 1, none⟩ = some x1 ∧ w.cell? ⟨b, 2, none⟩ = some x2 ∧
    w.frozen? ⟨b, 0, none⟩ = false ∧ w.frozen? ⟨b, 1, none⟩ = false ∧ w.frozen? ⟨b, 2, none⟩ = false :=
  ⟨h.cell 0, h.cell 1, h.cell 2, h.frozen 0, h.frozen 1, h.frozen 2⟩
theorem At.fill3 {w : World} {b : Nat} {x0 x1 x2 : Value} {t : TypeId} (h : At w b #[x0, x1, x2] t) (y0 y1 y2 : Value) :
    At (((w.setCell ⟨b, 0, none⟩ y0).setCell ⟨b, 1, none⟩ y1).setCell ⟨b, 2, none⟩ y2) b #[y0, y1, y2] t := by
  have := ((h.set 0 y0).set 1 y1).set 2 y2
  simpa using this
theorem Below.fill3 {B b : Nat} {a w : World} (h : Below B a w) (hb : B ≤ b) (y0 y1 y2 : Value) :
    Below B a (((w.setCell ⟨b, 0, none⟩ y0).setCell ⟨b, 1, none⟩ y1).setCell ⟨b, 2, none⟩ y2) :=
  ((h.setCell (p := ⟨b, 0, none⟩) hb y0).setCell (p := ⟨b, 1, none⟩) hb y1).setCell (p := ⟨b, 2, none⟩) hb y2
theorem iFin {w0 w1 : World} {B r : Nat} {x0 x1 x2 : Value} {t : TypeId} {T : Array Value} (R : At w1 r #[x0, x1, x2] t) (z : Below B w0 w1) (hr : B ≤ r) (hT : T[4]?.getD undef = .pointer (some ⟨r, 0, none⟩)) {y0 y1 y2 K I F : Int} (e0 : y0 = K) (e1 : y1 = I) (e2 : y2 = F) :
    bodyPost Try.prog Try.f16 (fun e w' => e = .returned (.agg #[.int .i64 K, .int .i64 I, .int .i64 F]) ∧ Below B w0 w') .ret ⟨T, []⟩ (((w1.setCell ⟨r, 0, none⟩ (.int .i64 y0)).setCell ⟨r, 1, none⟩ (.int .i64 y1)).setCell ⟨r, 2, none⟩ (.int .i64 y2)) := by
  subst e0 e1 e2
  obtain ⟨r0, r1, r2, -⟩ := (R.fill3 (.int .i64 y0) (.int .i64 y1) (.int .i64 y2)).three
  refine bodyPost_ret (v := .agg #[.int .i64 y0, .int .i64 y1, .int .i64 y2]) (by simp [results, Try.results16, go_sem, hT, r0, r1, r2]) rfl ⟨rfl, Below.fill3 z hr _ _ _⟩
theorem sFin {w0 w1 : World} {B r : Nat} {x0 x1 x2 : Value} {t : TypeId} {T : Array Value} (R : At w1 r #[x0, x1, x2] t) (z : Below B w0 w1) (hr : B ≤ r) (hT : T[4]?.getD undef = .pointer (some ⟨r, 0, none⟩)) {y0 y1 y2 K I F : Int} (e0 : y0 = K) (e1 : y1 = I) (e2 : y2 = F) :
    bodyPost Try.prog Try.f36 (fun e w' => e = .returned (.agg #[.int .i64 K, .int .i64 I, .int .i64 F]) ∧ Below B w0 w') .ret ⟨T, []⟩ (((w1.setCell ⟨r, 0, none⟩ (.int .i64 y0)).setCell ⟨r, 1, none⟩ (.int .i64 y1)).setCell ⟨r, 2, none⟩ (.int .i64 y2)) := by
  subst e0 e1 e2
  obtain ⟨r0, r1, r2, -⟩ := (R.fill3 (.int .i64 y0) (.int .i64 y1) (.int .i64 y2)).three
  refine bodyPost_ret (v := .agg #[.int .i64 y0, .int .i64 y1, .int .i64 y2]) (by simp [results, Try.results36, go_sem, hT, r0, r1, r2]) rfl ⟨rfl, Below.fill3 z hr _ _ _⟩
def inn (p s l c k t : Int) : Prop := ok p s l c k = true ∧ 0 ≤ t ∧ t ≤ zF p s l c - 1
def rK (p s l c t : Int) : Int := if t < nF p then 1 else if t < rF p then 2 else if t < sF p c then 3 else 4
def rI (p s l c t : Int) : Int := if t < nF p then t / 7 else if t < rF p then (t - nF p) / p else if t < sF p c then 0 else if t < lF p s c then 1 + (t - sF p c) / 3 else s + 1 + (t - lF p s c) / 5
def rX (p s l c t : Int) : Int := if t < nF p then t % 7 else if t < rF p then (t - nF p) % p else if t < sF p c then t - rF p else if t < lF p s c then (t - sF p c) % 3 else (t - lF p s c) % 5
theorem bds {p s l c k : Int} (h : ok p s l c k = true) : (7 ≤ nF p ∧ nF p ≤ 448) ∧ (nF p < rF p ∧ rF p ≤ 4600) ∧ (rF p < sF p c ∧ sF p c ≤ 4700) ∧ (sF p c < lF p s c ∧ lF p s c ≤ 5400) ∧ (lF p s c ≤ zF p s l c ∧ zF p s l c ≤ 5700) := by
  have h' := ok_iff.1 h
  have hq := sq_bd h'.1 h'.2.1
  unfold nF rF sF lF zF
  omega
theorem eqs (p s l c : Int) : rF p = nF p + p * p ∧ sF p c = rF p + 5 + c ∧ lF p s c = sF p c + 3 * s ∧ zF p s l c = lF p s c + 5 * l := by
  unfold nF rF sF lF zF
  omega
set_option maxHeartbeats 1000000 in
theorem iRegN (p s l c k t : Int) (h : ok p s l c k = false) (w : World) :
    Calls Try.prog 16 #[.agg #[.int .i64 p, .int .i64 s, .int .i64 l, .int .i64 c, .int .i64 k], .int .i64 t] w fun e w' => e = .returned (.agg #[.int .i64 (0), .int .i64 (0), .int .i64 (0)]) ∧ Below w.heap.size w w' := by
  go_enter Try.func16, Try.ntmps16
  go_wp2_with fail
  have R := At.new (w.alloc (Obj.cells #[.int .i64 p, .int .i64 s, .int .i64 l, .int .i64 c, .int .i64 k] 25)) #[.int .i64 0, .int .i64 0, .int .i64 0] 29
  have B := (Box5.new w (.int .i64 p) (.int .i64 s) (.int .i64 l) (.int .i64 c) (.int .i64 k) 25).keep ((Below.refl _ _).alloc (Nat.le_refl _) (Obj.cells #[.int .i64 0, .int .i64 0, .int .i64 0] 29))
  have z := ((Below.refl w.heap.size w).alloc (Nat.le_refl _) (Obj.cells #[.int .i64 p, .int .i64 s, .int .i64 l, .int .i64 c, .int .i64 k] 25)).alloc (by simp) (Obj.cells #[.int .i64 0, .int .i64 0, .int .i64 0] 29)
  rw [show (w.alloc (Obj.cells #[.int .i64 p, .int .i64 s, .int .i64 l, .int .i64 c, .int .i64 k] 25)).heap.size = w.heap.size + 1 from by simp] at R
  go_wp2_with (first
    | (go_at_call 29; refine (iPlanOk _ _ _ _ _ _).mono ?_; rintro e w1 ⟨rfl, hb⟩; replace B := B.keep hb; replace z := z.trans (hb.mono z.size); replace R := R.keep hb; clear hb; rw [h]; obtain ⟨d0, d1, d2, g0, g1, g2⟩ := R.three;  obtain ⟨c0, c1, c2, c3, c4⟩ := B.five))
  exact iFin R z (by omega) (by rfl) rfl rfl rfl
set_option maxHeartbeats 1000000 in
theorem iRegN1 (p s l c k t : Int) (h : ok p s l c k = true) (ht : ¬ (0 ≤ t ∧ t ≤ zF p s l c - 1)) (w : World) :
    Calls Try.prog 16 #[.agg #[.int .i64 p, .int .i64 s, .int .i64 l, .int .i64 c, .int .i64 k], .int .i64 t] w fun e w' => e = .returned (.agg #[.int .i64 (0), .int .i64 (0), .int .i64 (0)]) ∧ Below w.heap.size w w' := by
  have h' := ok_iff.1 h
  have hd := bds h
  have he : Hid (rF p = nF p + p * p ∧ sF p c = rF p + 5 + c ∧ lF p s c = sF p c + 3 * s ∧ zF p s l c = lF p s c + 5 * l) := eqs p s l c
  have hv : vSize p s l c k = zF p s l c := by unfold vSize; rw [if_pos h]
  go_enter Try.func16, Try.ntmps16
  go_wp2_with fail
  have R := At.new (w.alloc (Obj.cells #[.int .i64 p, .int .i64 s, .int .i64 l, .int .i64 c, .int .i64 k] 25)) #[.int .i64 0, .int .i64 0, .int .i64 0] 29
  have B := (Box5.new w (.int .i64 p) (.int .i64 s) (.int .i64 l) (.int .i64 c) (.int .i64 k) 25).keep ((Below.refl _ _).alloc (Nat.le_refl _) (Obj.cells #[.int .i64 0, .int .i64 0, .int .i64 0] 29))
  have z := ((Below.refl w.heap.size w).alloc (Nat.le_refl _) (Obj.cells #[.int .i64 p, .int .i64 s, .int .i64 l, .int .i64 c, .int .i64 k] 25)).alloc (by simp) (Obj.cells #[.int .i64 0, .int .i64 0, .int .i64 0] 29)
  rw [show (w.alloc (Obj.cells #[.int .i64 p, .int .i64 s, .int .i64 l, .int .i64 c, .int .i64 k] 25)).heap.size = w.heap.size + 1 from by simp] at R
  go_wp2_with (first
    | (go_at_call 29; refine (iPlanOk _ _ _ _ _ _).mono ?_; rintro e w1 ⟨rfl, hb⟩; replace B := B.keep hb; replace z := z.trans (hb.mono z.size); replace R := R.keep hb; clear hb; rw [h]; obtain ⟨d0, d1, d2, g0, g1, g2⟩ := R.three;  obtain ⟨c0, c1, c2, c3, c4⟩ := B.five)
    | (go_at_call 27; refine (iSize _ _ _ _ _ _).mono ?_; rintro e w1 ⟨rfl, hb⟩; replace B := B.keep hb; replace z := z.trans (hb.mono z.size); replace R := R.keep hb; clear hb; rw [hv]; obtain ⟨d0, d1, d2, g0, g1, g2⟩ := R.three;  obtain ⟨c0, c1, c2, c3, c4⟩ := B.five)
    | (go_at_call 44; refine (iWithin _ _ _ _).mono ?_; rintro e w1 ⟨rfl, rfl⟩; rw [inB_niff.2 ht]))
  exact iFin R z (by omega) (by rfl) rfl rfl rfl
set_option maxHeartbeats 1000000 in
theorem iRegA (p s l c k t : Int) (h : ok p s l c k = true) (ht : 0 ≤ t ∧ t ≤ zF p s l c - 1) (hz : t < nF p) (w : World) :
    Calls Try.prog 16 #[.agg #[.int .i64 p, .int .i64 s, .int .i64 l, .int .i64 c, .int .i64 k], .int .i64 t] w fun e w' => e = .returned (.agg #[.int .i64 (rK p s l c t), .int .i64 (rI p s l c t), .int .i64 (rX p s l c t)]) ∧ Below w.heap.size w w' := by
  have h' := ok_iff.1 h
  have hd := bds h
  have he : Hid (rF p = nF p + p * p ∧ sF p c = rF p + 5 + c ∧ lF p s c = sF p c + 3 * s ∧ zF p s l c = lF p s c + 5 * l) := eqs p s l c
  have hv : vSize p s l c k = zF p s l c := by unfold vSize; rw [if_pos h]
  go_enter Try.func16, Try.ntmps16
  go_wp2_with fail
  have R := At.new (w.alloc (Obj.cells #[.int .i64 p, .int .i64 s, .int .i64 l, .int .i64 c, .int .i64 k] 25)) #[.int .i64 0, .int .i64 0, .int .i64 0] 29
  have B := (Box5.new w (.int .i64 p) (.int .i64 s) (.int .i64 l) (.int .i64 c) (.int .i64 k) 25).keep ((Below.refl _ _).alloc (Nat.le_refl _) (Obj.cells #[.int .i64 0, .int .i64 0, .int .i64 0] 29))
  have z := ((Below.refl w.heap.size w).alloc (Nat.le_refl _) (Obj.cells #[.int .i64 p, .int .i64 s, .int .i64 l, .int .i64 c, .int .i64 k] 25)).alloc (by simp) (Obj.cells #[.int .i64 0, .int .i64 0, .int .i64 0] 29)
  rw [show (w.alloc (Obj.cells #[.int .i64 p, .int .i64 s, .int .i64 l, .int .i64 c, .int .i64 k] 25)).heap.size = w.heap.size + 1 from by simp] at R
  go_wp2_with (first
    | (go_at_call 29; refine (iPlanOk _ _ _ _ _ _).mono ?_; rintro e w1 ⟨rfl, hb⟩; replace B := B.keep hb; replace z := z.trans (hb.mono z.size); replace R := R.keep hb; clear hb; rw [h]; obtain ⟨d0, d1, d2, g0, g1, g2⟩ := R.three;  obtain ⟨c0, c1, c2, c3, c4⟩ := B.five)
    | (go_at_call 27; refine (iSize _ _ _ _ _ _).mono ?_; rintro e w1 ⟨rfl, hb⟩; replace B := B.keep hb; replace z := z.trans (hb.mono z.size); replace R := R.keep hb; clear hb; rw [hv]; obtain ⟨d0, d1, d2, g0, g1, g2⟩ := R.three;  obtain ⟨c0, c1, c2, c3, c4⟩ := B.five)
    | (go_at_call 44; refine (iWithin _ _ _ _).mono ?_; rintro e w1 ⟨rfl, rfl⟩; rw [inB_iff.2 ht])
    | (go_at_call 45; refine (iNotes _ _ _ _ _ h _).mono ?_; rintro e w1 ⟨rfl, hb⟩; replace B := B.keep hb; replace z := z.trans (hb.mono z.size); replace R := R.keep hb; clear hb; obtain ⟨d0, d1, d2, g0, g1, g2⟩ := R.three;  obtain ⟨c0, c1, c2, c3, c4⟩ := B.five))
  refine iFin R z (by omega) (by rfl) ?_ ?_ ?_
  · unfold rK; rw [if_pos hz]
  · unfold rI; rw [if_pos hz]
  · unfold rX; rw [if_pos hz]
set_option maxHeartbeats 1000000 in
theorem iRegB (p s l c k t : Int) (h : ok p s l c k = true) (ht : 0 ≤ t ∧ t ≤ zF p s l c - 1) (hy : nF p ≤ t) (hz : t < rF p) (w : World) :
    Calls Try.prog 16 #[.agg #[.int .i64 p, .int .i64 s, .int .i64 l, .int .i64 c, .int .i64 k], .int .i64 t] w fun e w' => e = .returned (.agg #[.int .i64 (rK p s l c t), .int .i64 (rI p s l c t), .int .i64 (rX p s l c t)]) ∧ Below w.heap.size w w' := by
  have h' := ok_iff.1 h
  have hd := bds h
  have he : Hid (rF p = nF p + p * p ∧ sF p c = rF p + 5 + c ∧ lF p s c = sF p c + 3 * s ∧ zF p s l c = lF p s c + 5 * l) := eqs p s l c
  have hv : vSize p s l c k = zF p s l c := by unfold vSize; rw [if_pos h]
  go_enter Try.func16, Try.ntmps16
  go_wp2_with fail
  have R := At.new (w.alloc (Obj.cells #[.int .i64 p, .int .i64 s, .int .i64 l, .int .i64 c, .int .i64 k] 25)) #[.int .i64 0, .int .i64 0, .int .i64 0] 29
  have B := (Box5.new w (.int .i64 p) (.int .i64 s) (.int .i64 l) (.int .i64 c) (.int .i64 k) 25).keep ((Below.refl _ _).alloc (Nat.le_refl _) (Obj.cells #[.int .i64 0, .int .i64 0, .int .i64 0] 29))
  have z := ((Below.refl w.heap.size w).alloc (Nat.le_refl _) (Obj.cells #[.int .i64 p, .int .i64 s, .int .i64 l, .int .i64 c, .int .i64 k] 25)).alloc (by simp) (Obj.cells #[.int .i64 0, .int .i64 0, .int .i64 0] 29)
  rw [show (w.alloc (Obj.cells #[.int .i64 p, .int .i64 s, .int .i64 l, .int .i64 c, .int .i64 k] 25)).heap.size = w.heap.size + 1 from by simp] at R
  go_wp2_with (first
    | (go_at_call 29; refine (iPlanOk _ _ _ _ _ _).mono ?_; rintro e w1 ⟨rfl, hb⟩; replace B := B.keep hb; replace z := z.trans (hb.mono z.size); replace R := R.keep hb; clear hb; rw [h]; obtain ⟨d0, d1, d2, g0, g1, g2⟩ := R.three;  obtain ⟨c0, c1, c2, c3, c4⟩ := B.five)
    | (go_at_call 27; refine (iSize _ _ _ _ _ _).mono ?_; rintro e w1 ⟨rfl, hb⟩; replace B := B.keep hb; replace z := z.trans (hb.mono z.size); replace R := R.keep hb; clear hb; rw [hv]; obtain ⟨d0, d1, d2, g0, g1, g2⟩ := R.three;  obtain ⟨c0, c1, c2, c3, c4⟩ := B.five)
    | (go_at_call 44; refine (iWithin _ _ _ _).mono ?_; rintro e w1 ⟨rfl, rfl⟩; rw [inB_iff.2 ht])
    | (go_at_call 45; refine (iNotes _ _ _ _ _ h _).mono ?_; rintro e w1 ⟨rfl, hb⟩; replace B := B.keep hb; replace z := z.trans (hb.mono z.size); replace R := R.keep hb; clear hb; obtain ⟨d0, d1, d2, g0, g1, g2⟩ := R.three;  obtain ⟨c0, c1, c2, c3, c4⟩ := B.five)
    | (go_at_call 46; refine (iRoots _ _ _ _ _ h _).mono ?_; rintro e w1 ⟨rfl, hb⟩; replace B := B.keep hb; replace z := z.trans (hb.mono z.size); replace R := R.keep hb; clear hb; obtain ⟨d0, d1, d2, g0, g1, g2⟩ := R.three;  obtain ⟨c0, c1, c2, c3, c4⟩ := B.five))
  go_region
  go_wp2
  refine iFin (R.draw 1) z.drew (by omega) (by rfl) ?_ ?_ ?_
  · unfold rK; rw [if_neg (by omega), if_pos hz]
  · unfold rI; rw [if_neg (by omega), if_pos hz]
  · unfold rX; rw [if_neg (by omega), if_pos hz]
set_option maxHeartbeats 1000000 in
theorem iRegC (p s l c k t : Int) (h : ok p s l c k = true) (ht : 0 ≤ t ∧ t ≤ zF p s l c - 1) (hy : rF p ≤ t) (hz : t < sF p c) (w : World) :
    Calls Try.prog 16 #[.agg #[.int .i64 p, .int .i64 s, .int .i64 l, .int .i64 c, .int .i64 k], .int .i64 t] w fun e w' => e = .returned (.agg #[.int .i64 (rK p s l c t), .int .i64 (rI p s l c t), .int .i64 (rX p s l c t)]) ∧ Below w.heap.size w w' := by
  have h' := ok_iff.1 h
  have hd := bds h
  have he : Hid (rF p = nF p + p * p ∧ sF p c = rF p + 5 + c ∧ lF p s c = sF p c + 3 * s ∧ zF p s l c = lF p s c + 5 * l) := eqs p s l c
  have hv : vSize p s l c k = zF p s l c := by unfold vSize; rw [if_pos h]
  go_enter Try.func16, Try.ntmps16
  go_wp2_with fail
  have R := At.new (w.alloc (Obj.cells #[.int .i64 p, .int .i64 s, .int .i64 l, .int .i64 c, .int .i64 k] 25)) #[.int .i64 0, .int .i64 0, .int .i64 0] 29
  have B := (Box5.new w (.int .i64 p) (.int .i64 s) (.int .i64 l) (.int .i64 c) (.int .i64 k) 25).keep ((Below.refl _ _).alloc (Nat.le_refl _) (Obj.cells #[.int .i64 0, .int .i64 0, .int .i64 0] 29))
  have z := ((Below.refl w.heap.size w).alloc (Nat.le_refl _) (Obj.cells #[.int .i64 p, .int .i64 s, .int .i64 l, .int .i64 c, .int .i64 k] 25)).alloc (by simp) (Obj.cells #[.int .i64 0, .int .i64 0, .int .i64 0] 29)
  rw [show (w.alloc (Obj.cells #[.int .i64 p, .int .i64 s, .int .i64 l, .int .i64 c, .int .i64 k] 25)).heap.size = w.heap.size + 1 from by simp] at R
  go_wp2_with (first
    | (go_at_call 29; refine (iPlanOk _ _ _ _ _ _).mono ?_; rintro e w1 ⟨rfl, hb⟩; replace B := B.keep hb; replace z := z.trans (hb.mono z.size); replace R := R.keep hb; clear hb; rw [h]; obtain ⟨d0, d1, d2, g0, g1, g2⟩ := R.three;  obtain ⟨c0, c1, c2, c3, c4⟩ := B.five)
    | (go_at_call 27; refine (iSize _ _ _ _ _ _).mono ?_; rintro e w1 ⟨rfl, hb⟩; replace B := B.keep hb; replace z := z.trans (hb.mono z.size); replace R := R.keep hb; clear hb; rw [hv]; obtain ⟨d0, d1, d2, g0, g1, g2⟩ := R.three;  obtain ⟨c0, c1, c2, c3, c4⟩ := B.five)
    | (go_at_call 44; refine (iWithin _ _ _ _).mono ?_; rintro e w1 ⟨rfl, rfl⟩; rw [inB_iff.2 ht])
    | (go_at_call 45; refine (iNotes _ _ _ _ _ h _).mono ?_; rintro e w1 ⟨rfl, hb⟩; replace B := B.keep hb; replace z := z.trans (hb.mono z.size); replace R := R.keep hb; clear hb; obtain ⟨d0, d1, d2, g0, g1, g2⟩ := R.three;  obtain ⟨c0, c1, c2, c3, c4⟩ := B.five)
    | (go_at_call 46; refine (iRoots _ _ _ _ _ h _).mono ?_; rintro e w1 ⟨rfl, hb⟩; replace B := B.keep hb; replace z := z.trans (hb.mono z.size); replace R := R.keep hb; clear hb; obtain ⟨d0, d1, d2, g0, g1, g2⟩ := R.three;  obtain ⟨c0, c1, c2, c3, c4⟩ := B.five)
    | (go_at_call 47; refine (iSmall _ _ _ _ _ h _).mono ?_; rintro e w1 ⟨rfl, hb⟩; replace B := B.keep hb; replace z := z.trans (hb.mono z.size); replace R := R.keep hb; clear hb; obtain ⟨d0, d1, d2, g0, g1, g2⟩ := R.three;  obtain ⟨c0, c1, c2, c3, c4⟩ := B.five))
  refine iFin R z (by omega) (by rfl) ?_ ?_ ?_
  · unfold rK; rw [if_neg (by omega), if_neg (by omega), if_pos hz]
  · unfold rI; rw [if_neg (by omega), if_neg (by omega), if_pos hz]
  · unfold rX; rw [if_neg (by omega), if_neg (by omega), if_pos hz]
set_option maxHeartbeats 1000000 in
theorem iRegD (p s l c k t : Int) (h : ok p s l c k = true) (ht : 0 ≤ t ∧ t ≤ zF p s l c - 1) (hy : sF p c ≤ t) (hz : t < lF p s c) (w : World) :
    Calls Try.prog 16 #[.agg #[.int .i64 p, .int .i64 s, .int .i64 l, .int .i64 c, .int .i64 k], .int .i64 t] w fun e w' => e = .returned (.agg #[.int .i64 (rK p s l c t), .int .i64 (rI p s l c t), .int .i64 (rX p s l c t)]) ∧ Below w.heap.size w w' := by
  have h' := ok_iff.1 h
  have hd := bds h
  have he : Hid (rF p = nF p + p * p ∧ sF p c = rF p + 5 + c ∧ lF p s c = sF p c + 3 * s ∧ zF p s l c = lF p s c + 5 * l) := eqs p s l c
  have hv : vSize p s l c k = zF p s l c := by unfold vSize; rw [if_pos h]
  go_enter Try.func16, Try.ntmps16
  go_wp2_with fail
  have R := At.new (w.alloc (Obj.cells #[.int .i64 p, .int .i64 s, .int .i64 l, .int .i64 c, .int .i64 k] 25)) #[.int .i64 0, .int .i64 0, .int .i64 0] 29
  have B := (Box5.new w (.int .i64 p) (.int .i64 s) (.int .i64 l) (.int .i64 c) (.int .i64 k) 25).keep ((Below.refl _ _).alloc (Nat.le_refl _) (Obj.cells #[.int .i64 0, .int .i64 0, .int .i64 0] 29))
  have z := ((Below.refl w.heap.size w).alloc (Nat.le_refl _) (Obj.cells #[.int .i64 p, .int .i64 s, .int .i64 l, .int .i64 c, .int .i64 k] 25)).alloc (by simp) (Obj.cells #[.int .i64 0, .int .i64 0, .int .i64 0] 29)
  rw [show (w.alloc (Obj.cells #[.int .i64 p, .int .i64 s, .int .i64 l, .int .i64 c, .int .i64 k] 25)).heap.size = w.heap.size + 1 from by simp] at R
  go_wp2_with (first
    | (go_at_call 29; refine (iPlanOk _ _ _ _ _ _).mono ?_; rintro e w1 ⟨rfl, hb⟩; replace B := B.keep hb; replace z := z.trans (hb.mono z.size); replace R := R.keep hb; clear hb; rw [h]; obtain ⟨d0, d1, d2, g0, g1, g2⟩ := R.three;  obtain ⟨c0, c1, c2, c3, c4⟩ := B.five)
    | (go_at_call 27; refine (iSize _ _ _ _ _ _).mono ?_; rintro e w1 ⟨rfl, hb⟩; replace B := B.keep hb; replace z := z.trans (hb.mono z.size); replace R := R.keep hb; clear hb; rw [hv]; obtain ⟨d0, d1, d2, g0, g1, g2⟩ := R.three;  obtain ⟨c0, c1, c2, c3, c4⟩ := B.five)
    | (go_at_call 44; refine (iWithin _ _ _ _).mono ?_; rintro e w1 ⟨rfl, rfl⟩; rw [inB_iff.2 ht])
    | (go_at_call 45; refine (iNotes _ _ _ _ _ h _).mono ?_; rintro e w1 ⟨rfl, hb⟩; replace B := B.keep hb; replace z := z.trans (hb.mono z.size); replace R := R.keep hb; clear hb; obtain ⟨d0, d1, d2, g0, g1, g2⟩ := R.three;  obtain ⟨c0, c1, c2, c3, c4⟩ := B.five)
    | (go_at_call 46; refine (iRoots _ _ _ _ _ h _).mono ?_; rintro e w1 ⟨rfl, hb⟩; replace B := B.keep hb; replace z := z.trans (hb.mono z.size); replace R := R.keep hb; clear hb; obtain ⟨d0, d1, d2, g0, g1, g2⟩ := R.three;  obtain ⟨c0, c1, c2, c3, c4⟩ := B.five)
    | (go_at_call 47; refine (iSmall _ _ _ _ _ h _).mono ?_; rintro e w1 ⟨rfl, hb⟩; replace B := B.keep hb; replace z := z.trans (hb.mono z.size); replace R := R.keep hb; clear hb; obtain ⟨d0, d1, d2, g0, g1, g2⟩ := R.three;  obtain ⟨c0, c1, c2, c3, c4⟩ := B.five)
    | (go_at_call 48; refine (iLarge _ _ _ _ _ h _).mono ?_; rintro e w1 ⟨rfl, hb⟩; replace B := B.keep hb; replace z := z.trans (hb.mono z.size); replace R := R.keep hb; clear hb; obtain ⟨d0, d1, d2, g0, g1, g2⟩ := R.three;  obtain ⟨c0, c1, c2, c3, c4⟩ := B.five))
  refine iFin R z (by omega) (by rfl) ?_ ?_ ?_
  · unfold rK; (repeat rw [if_neg (by omega)]); (try rw [if_pos hz])
  · unfold rI; (repeat rw [if_neg (by omega)]); (try rw [if_pos hz])
  · unfold rX; (repeat rw [if_neg (by omega)]); (try rw [if_pos hz])
set_option maxHeartbeats 1000000 in
theorem iRegE (p s l c k t : Int) (h : ok p s l c k = true) (ht : 0 ≤ t ∧ t ≤ zF p s l c - 1) (hy : lF p s c ≤ t) (w : World) :
    Calls Try.prog 16 #[.agg #[.int .i64 p, .int .i64 s, .int .i64 l, .int .i64 c, .int .i64 k], .int .i64 t] w fun e w' => e = .returned (.agg #[.int .i64 (rK p s l c t), .int .i64 (rI p s l c t), .int .i64 (rX p s l c t)]) ∧ Below w.heap.size w w' := by
  have h' := ok_iff.1 h
  have hd := bds h
  have he : Hid (rF p = nF p + p * p ∧ sF p c = rF p + 5 + c ∧ lF p s c = sF p c + 3 * s ∧ zF p s l c = lF p s c + 5 * l) := eqs p s l c
  have hv : vSize p s l c k = zF p s l c := by unfold vSize; rw [if_pos h]
  go_enter Try.func16, Try.ntmps16
  go_wp2_with fail
  have R := At.new (w.alloc (Obj.cells #[.int .i64 p, .int .i64 s, .int .i64 l, .int .i64 c, .int .i64 k] 25)) #[.int .i64 0, .int .i64 0, .int .i64 0] 29
  have B := (Box5.new w (.int .i64 p) (.int .i64 s) (.int .i64 l) (.int .i64 c) (.int .i64 k) 25).keep ((Below.refl _ _).alloc (Nat.le_refl _) (Obj.cells #[.int .i64 0, .int .i64 0, .int .i64 0] 29))
  have z := ((Below.refl w.heap.size w).alloc (Nat.le_refl _) (Obj.cells #[.int .i64 p, .int .i64 s, .int .i64 l, .int .i64 c, .int .i64 k] 25)).alloc (by simp) (Obj.cells #[.int .i64 0, .int .i64 0, .int .i64 0] 29)
  rw [show (w.alloc (Obj.cells #[.int .i64 p, .int .i64 s, .int .i64 l, .int .i64 c, .int .i64 k] 25)).heap.size = w.heap.size + 1 from by simp] at R
  go_wp2_with (first
    | (go_at_call 29; refine (iPlanOk _ _ _ _ _ _).mono ?_; rintro e w1 ⟨rfl, hb⟩; replace B := B.keep hb; replace z := z.trans (hb.mono z.size); replace R := R.keep hb; clear hb; rw [h]; obtain ⟨d0, d1, d2, g0, g1, g2⟩ := R.three;  obtain ⟨c0, c1, c2, c3, c4⟩ := B.five)
    | (go_at_call 27; refine (iSize _ _ _ _ _ _).mono ?_; rintro e w1 ⟨rfl, hb⟩; replace B := B.keep hb; replace z := z.trans (hb.mono z.size); replace R := R.keep hb; clear hb; rw [hv]; obtain ⟨d0, d1, d2, g0, g1, g2⟩ := R.three;  obtain ⟨c0, c1, c2, c3, c4⟩ := B.five)
    | (go_at_call 44; refine (iWithin _ _ _ _).mono ?_; rintro e w1 ⟨rfl, rfl⟩; rw [inB_iff.2 ht])
    | (go_at_call 45; refine (iNotes _ _ _ _ _ h _).mono ?_; rintro e w1 ⟨rfl, hb⟩; replace B := B.keep hb; replace z := z.trans (hb.mono z.size); replace R := R.keep hb; clear hb; obtain ⟨d0, d1, d2, g0, g1, g2⟩ := R.three;  obtain ⟨c0, c1, c2, c3, c4⟩ := B.five)
    | (go_at_call 46; refine (iRoots _ _ _ _ _ h _).mono ?_; rintro e w1 ⟨rfl, hb⟩; replace B := B.keep hb; replace z := z.trans (hb.mono z.size); replace R := R.keep hb; clear hb; obtain ⟨d0, d1, d2, g0, g1, g2⟩ := R.three;  obtain ⟨c0, c1, c2, c3, c4⟩ := B.five)
    | (go_at_call 47; refine (iSmall _ _ _ _ _ h _).mono ?_; rintro e w1 ⟨rfl, hb⟩; replace B := B.keep hb; replace z := z.trans (hb.mono z.size); replace R := R.keep hb; clear hb; obtain ⟨d0, d1, d2, g0, g1, g2⟩ := R.three;  obtain ⟨c0, c1, c2, c3, c4⟩ := B.five)
    | (go_at_call 48; refine (iLarge _ _ _ _ _ h _).mono ?_; rintro e w1 ⟨rfl, hb⟩; replace B := B.keep hb; replace z := z.trans (hb.mono z.size); replace R := R.keep hb; clear hb; obtain ⟨d0, d1, d2, g0, g1, g2⟩ := R.three;  obtain ⟨c0, c1, c2, c3, c4⟩ := B.five))
  refine iFin R z (by omega) (by rfl) ?_ ?_ ?_
  · unfold rK; (repeat rw [if_neg (by omega)])
  · unfold rI; (repeat rw [if_neg (by omega)])
  · unfold rX; (repeat rw [if_neg (by omega)])
end Go.Proofs.Yteikophkacagoaa
