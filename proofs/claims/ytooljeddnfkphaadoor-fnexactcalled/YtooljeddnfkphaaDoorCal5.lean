/-
  Whether a call fits: the program's side.
-/
import Derived.Test.YtooljeddnfkphaaDoorCal4
namespace Go.Proofs.YtooljeddnfkphaaDoor
open Go.RowKit
set_option linter.unusedVariables false
def fit3 (p s l c k slot code a b d : Int) : Bool := fit1 p s l c k slot a (rowR code).2.1 a && fit1 p s l c k slot a (rowR code).2.2.1 b && fit1 p s l c k slot a (rowR code).2.2.2 d
def fitsC (p s l c k slot code a b d : Int) : Bool := ok p s l c k && inB slot 0 (p - 1) && inB code 1 14 && fit3 p s l c k slot code a b d
theorem rowR_bd {code : Int} (hc : inB code 1 14 = true) : (0 ≤ (rowR code).2.1 ∧ (rowR code).2.1 ≤ 8) ∧ (0 ≤ (rowR code).2.2.1 ∧ (rowR code).2.2.1 ≤ 8) ∧ (0 ≤ (rowR code).2.2.2 ∧ (rowR code).2.2.2 ≤ 8) := by
  rcases fourteen hc with rfl | rfl | rfl | rfl | rfl | rfl | rfl | rfl | rfl | rfl | rfl | rfl | rfl | rfl
  all_goals decide
def CfPost (p s l c k slot code a b d : Int) (w : World) (v : Bool) : Prop := Calls Tryd.prog 9 #[.agg #[.int .i64 p, .int .i64 s, .int .i64 l, .int .i64 c, .int .i64 k], .int .i64 slot, .int .i64 code, .int .i64 a, .int .i64 b, .int .i64 d] w fun e w' => e = .returned (.bool v) ∧ Below w.heap.size w w'

set_option maxHeartbeats 4000000 in
theorem iCfN (p s l c k slot code a b d : Int) (ho : ok p s l c k = false) (w : World) (T0 : Tab w) : CfPost p s l c k slot code a b d w false := by
  unfold CfPost
  go_enter Tryd.func9, Tryd.ntmps9
  go_upto_region 1 with fail
  refine wp_at (fun W => At W w.heap.size #[.int .i64 p, .int .i64 s, .int .i64 l, .int .i64 c, .int .i64 k] 25 ∧ Tab W ∧ Below w.heap.size w W) ⟨At.new w _ _, T0.keep ((Below.refl _ _).alloc (Nat.le_refl _) _), (Below.refl _ _).alloc (Nat.le_refl _) _⟩ ?_
  clear T0
  rintro W ⟨P, T, z⟩
  obtain ⟨d0, d1, d2, d3, d4⟩ := P.five
  go_wp2_with (first
    | (go_at_call 23; refine (iPlanOk _ _ _ _ _ _).mono ?_; rintro e w1 ⟨rfl, hb⟩; rw [ho]; clear d0 d1 d2 d3 d4; replace P := P.keep hb; replace T := T.keep hb; replace z := z.trans (hb.mono z.size); clear hb; obtain ⟨d0, d1, d2, d3, d4⟩ := P.five))
  go_returns
  exact ⟨rfl, z⟩
set_option maxHeartbeats 4000000 in
theorem iCfS (p s l c k slot code a b d : Int) (ho : ok p s l c k = true) (hs : inB slot 0 (p - 1) = false) (w : World) (T0 : Tab w) : CfPost p s l c k slot code a b d w false := by
  unfold CfPost
  go_enter Tryd.func9, Tryd.ntmps9
  go_upto_region 1 with fail
  refine wp_at (fun W => At W w.heap.size #[.int .i64 p, .int .i64 s, .int .i64 l, .int .i64 c, .int .i64 k] 25 ∧ Tab W ∧ Below w.heap.size w W) ⟨At.new w _ _, T0.keep ((Below.refl _ _).alloc (Nat.le_refl _) _), (Below.refl _ _).alloc (Nat.le_refl _) _⟩ ?_
  clear T0
  rintro W ⟨P, T, z⟩
  obtain ⟨d0, d1, d2, d3, d4⟩ := P.five
  go_wp2_with (first
    | (go_at_call 23; refine (iPlanOk _ _ _ _ _ _).mono ?_; rintro e w1 ⟨rfl, hb⟩; rw [ho]; clear d0 d1 d2 d3 d4; replace P := P.keep hb; replace T := T.keep hb; replace z := z.trans (hb.mono z.size); clear hb; obtain ⟨d0, d1, d2, d3, d4⟩ := P.five)
    | (go_at_call 24; refine (iHas _ _ _ _ _ _ ho _).mono ?_; rintro e w1 ⟨rfl, hb⟩; rw [hs]; clear d0 d1 d2 d3 d4; replace P := P.keep hb; replace T := T.keep hb; replace z := z.trans (hb.mono z.size); clear hb; obtain ⟨d0, d1, d2, d3, d4⟩ := P.five))
  go_returns
  exact ⟨rfl, z⟩
set_option maxHeartbeats 4000000 in
theorem iCfC (p s l c k slot code a b d : Int) (ho : ok p s l c k = true) (hs : inB slot 0 (p - 1) = true) (hc : inB code 1 14 = false) (nm : List UInt8) (x y v : Int) (hr : Hid (rowR code = (nm, x, y, v))) (w : World) (T0 : Tab w) : CfPost p s l c k slot code a b d w false := by
  unfold CfPost
  go_enter Tryd.func9, Tryd.ntmps9
  go_upto_region 1 with fail
  refine wp_at (fun W => At W w.heap.size #[.int .i64 p, .int .i64 s, .int .i64 l, .int .i64 c, .int .i64 k] 25 ∧ Tab W ∧ Below w.heap.size w W) ⟨At.new w _ _, T0.keep ((Below.refl _ _).alloc (Nat.le_refl _) _), (Below.refl _ _).alloc (Nat.le_refl _) _⟩ ?_
  clear T0
  rintro W ⟨P, T, z⟩
  obtain ⟨d0, d1, d2, d3, d4⟩ := P.five
  go_upto_region 4 with (first
    | (go_at_call 23; refine (iPlanOk _ _ _ _ _ _).mono ?_; rintro e w1 ⟨rfl, hb⟩; rw [ho]; clear d0 d1 d2 d3 d4; replace P := P.keep hb; replace T := T.keep hb; replace z := z.trans (hb.mono z.size); clear hb; obtain ⟨d0, d1, d2, d3, d4⟩ := P.five)
    | (go_at_call 24; refine (iHas _ _ _ _ _ _ ho _).mono ?_; rintro e w1 ⟨rfl, hb⟩; rw [hs]; clear d0 d1 d2 d3 d4; replace P := P.keep hb; replace T := T.keep hb; replace z := z.trans (hb.mono z.size); clear hb; obtain ⟨d0, d1, d2, d3, d4⟩ := P.five)
    | (go_at_call 25; refine (iRow _ _ T).mono ?_; rintro e w1 ⟨rfl, hb⟩; rw [hr.out, hc]; clear d0 d1 d2 d3 d4; replace P := P.keep hb; replace T := T.keep hb; replace z := z.trans (hb.mono z.size); clear hb; obtain ⟨d0, d1, d2, d3, d4⟩ := P.five)
    | (refine newR (vs := rowV (nm, x, y, v)) infoRow (rowV_one _) rfl (.tmp 13) (.tmp 27) rfl rfl rfl rfl ?_; intro w2 Z hb; clear d0 d1 d2 d3 d4; replace z := z.trans (hb.mono z.size); clear hb))
  clear hr hc hs ho P T
  go_wp2
  go_returns
  exact ⟨rfl, z⟩
set_option maxHeartbeats 8000000 in
theorem iCfY (p s l c k slot code a b d : Int) (ho : ok p s l c k = true) (hs : inB slot 0 (p - 1) = true) (hc : inB code 1 14 = true) (nm : List UInt8) (x y v : Int) (hr : Hid (rowR code = (nm, x, y, v))) (hx : 0 ≤ x ∧ x ≤ 8) (hy : 0 ≤ y ∧ y ≤ 8) (hv : 0 ≤ v ∧ v ≤ 8) (w : World) (T0 : Tab w) : CfPost p s l c k slot code a b d w (fit1 p s l c k slot a x a && fit1 p s l c k slot a y b && fit1 p s l c k slot a v d) := by
  obtain ⟨f, hf⟩ : ∃ f, Hid ((fit1 p s l c k slot a x a && fit1 p s l c k slot a y b && fit1 p s l c k slot a v d) = f) := ⟨_, rfl⟩
  rw [hf.out]
  have HX : Hid (0 ≤ x ∧ x ≤ 8) := hx
  have HY : Hid (0 ≤ y ∧ y ≤ 8) := hy
  have HV : Hid (0 ≤ v ∧ v ≤ 8) := hv
  unfold CfPost
  go_enter Tryd.func9, Tryd.ntmps9
  go_upto_region 1 with fail
  refine wp_at (fun W => At W w.heap.size #[.int .i64 p, .int .i64 s, .int .i64 l, .int .i64 c, .int .i64 k] 25 ∧ Tab W ∧ Below w.heap.size w W) ⟨At.new w _ _, T0.keep ((Below.refl _ _).alloc (Nat.le_refl _) _), (Below.refl _ _).alloc (Nat.le_refl _) _⟩ ?_
  clear T0
  rintro W ⟨P, T, z⟩
  obtain ⟨d0, d1, d2, d3, d4⟩ := P.five
  go_upto_region 4 with (first
    | (go_at_call 23; refine (iPlanOk _ _ _ _ _ _).mono ?_; rintro e w1 ⟨rfl, hb⟩; rw [ho]; clear d0 d1 d2 d3 d4; replace P := P.keep hb; replace T := T.keep hb; replace z := z.trans (hb.mono z.size); clear hb; obtain ⟨d0, d1, d2, d3, d4⟩ := P.five)
    | (go_at_call 24; refine (iHas _ _ _ _ _ _ ho _).mono ?_; rintro e w1 ⟨rfl, hb⟩; rw [hs]; clear d0 d1 d2 d3 d4; replace P := P.keep hb; replace T := T.keep hb; replace z := z.trans (hb.mono z.size); clear hb; obtain ⟨d0, d1, d2, d3, d4⟩ := P.five)
    | (go_at_call 25; refine (iRow _ _ T).mono ?_; rintro e w1 ⟨rfl, hb⟩; rw [hr.out, hc]; clear d0 d1 d2 d3 d4; replace P := P.keep hb; replace T := T.keep hb; replace z := z.trans (hb.mono z.size); clear hb; obtain ⟨d0, d1, d2, d3, d4⟩ := P.five)
    | (refine newR (vs := rowV (nm, x, y, v)) infoRow (rowV_one _) rfl (.tmp 13) (.tmp 27) rfl rfl rfl rfl ?_; intro w2 Z hb; clear d0 d1 d2 d3 d4; replace P := P.keep hb; replace T := T.keep hb; replace z := z.trans (hb.mono z.size); clear hb; obtain ⟨d0, d1, d2, d3, d4⟩ := P.five))
  have c0 : w2.cell? ⟨w1.heap.size, 0, none⟩ = some (.string ⟨nm.toArray⟩) := Z.cell 0
  have c1 : w2.cell? ⟨w1.heap.size, 1, none⟩ = some (.int .i64 x) := Z.cell 1
  have c2 : w2.cell? ⟨w1.heap.size, 2, none⟩ = some (.int .i64 y) := Z.cell 2
  have c3 : w2.cell? ⟨w1.heap.size, 3, none⟩ = some (.int .i64 v) := Z.cell 3
  clear hx hy hv
  go_wp2_with (first
    | (go_at_call 26; refine (iFit p s l c k slot ho nm x y v HX.out HY.out HV.out a b d _ _ _ (At.new _ _ _)).mono ?_; rintro e w3 ⟨rfl, hb⟩; rw [hf.out]; have z2 := z.alloc z.size (Obj.cells #[.int .i64 a, .int .i64 b, .int .i64 d] 2); replace z2 := z2.trans (hb.mono z2.size); clear hb))
  go_returns
  exact ⟨rfl, z2⟩
theorem iFits (p s l c k slot code a b d : Int) (w : World) (T : Tab w) : CfPost p s l c k slot code a b d w (fitsC p s l c k slot code a b d) := by
  unfold fitsC
  cases ho : ok p s l c k with
  | false => exact iCfN p s l c k slot code a b d ho w T
  | true =>
    cases hs : inB slot 0 (p - 1) with
    | false => exact iCfS p s l c k slot code a b d ho hs w T
    | true =>
      cases hc : inB code 1 14 with
      | false => exact iCfC p s l c k slot code a b d ho hs hc (rowR code).1 (rowR code).2.1 (rowR code).2.2.1 (rowR code).2.2.2 rfl w T
      | true =>
        have hq := rowR_bd hc
        exact iCfY p s l c k slot code a b d ho hs hc (rowR code).1 (rowR code).2.1 (rowR code).2.2.1 (rowR code).2.2.2 rfl hq.1 hq.2.1 hq.2.2 w T
end Go.Proofs.YtooljeddnfkphaaDoor
