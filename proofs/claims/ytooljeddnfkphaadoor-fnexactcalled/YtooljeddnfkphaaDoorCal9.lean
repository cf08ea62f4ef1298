/-
  What is called: the program's side.
-/
import Derived.Test.YtooljeddnfkphaaDoorCal8
namespace Go.Proofs.YtooljeddnfkphaaDoor
open Go.RowKit
set_option linter.unusedVariables false
set_option maxHeartbeats 8000000 in
theorem iCa1t (p s l c k slot : Int) (h : Hd) (code : Int) (a b d : Int) (hq : hOk p s l c k h = false) (hs : inB slot 0 (wrap64 (p - 1)) = true) (w : World) (T0 : Tab w) : Calls Tryd.prog 12 #[.agg #[.int .i64 p, .int .i64 s, .int .i64 l, .int .i64 c, .int .i64 k], .int .i64 slot, .agg h.ar, .int .i64 code, .int .i64 a, .int .i64 b, .int .i64 d] w fun e w' => e = .returned (.tuple #[.agg Hd.zero.ar, .int .i64 6]) ∧ Below w.heap.size w w' := by
  go_enter Tryd.func12, Tryd.ntmps12
  go_upto_region 1 with fail
  refine wp_at (fun W => At W w.heap.size #[.int .i64 p, .int .i64 s, .int .i64 l, .int .i64 c, .int .i64 k] 25 ∧ At W (w.heap.size + 1) h.ar 31 ∧ At W (w.heap.size + 2) Hd.zero.ar 31 ∧ Below w.heap.size w W) (three_box w _ _ _ _ _ _) ?_
  rintro W ⟨P, A, Z, z⟩
  have T := T0.keep z
  clear T0
  obtain ⟨d0, d1, d2, d3, d4⟩ := P.five
  skip
  go_wp2_with (first
    | (go_at_call 24; refine (iHasW _ _ _ _ _ _ _).mono ?_; rintro e w1 ⟨rfl, hb⟩; rw [hs]; clear d0 d1 d2 d3 d4; replace P := P.keep hb; replace A := A.keep hb; replace Z := Z.keep hb; replace T := T.keep hb; replace z := z.trans (hb.mono z.size); clear hb; obtain ⟨d0, d1, d2, d3, d4⟩ := P.five; skip)
    | (go_at_call 29; refine (iHandOk p s l c k h _).mono ?_; rintro e w1 ⟨rfl, hb⟩; rw [hq]; clear d0 d1 d2 d3 d4; replace P := P.keep hb; replace A := A.keep hb; replace Z := Z.keep hb; replace T := T.keep hb; replace z := z.trans (hb.mono z.size); clear hb; obtain ⟨d0, d1, d2, d3, d4⟩ := P.five; skip)
    | (go_at_call 9; refine Calls.mono (iFits p s l c k slot code a b d _ T) ?_; rintro e w1 ⟨rfl, hb⟩; rw [hf]; clear d0 d1 d2 d3 d4; replace P := P.keep hb; replace A := A.keep hb; replace Z := Z.keep hb; replace T := T.keep hb; replace z := z.trans (hb.mono z.size); clear hb; obtain ⟨d0, d1, d2, d3, d4⟩ := P.five; skip)
    | (refine loadHg rfl (.tmp 9) rfl (w.heap.size + 1) h rfl A ?_)
    | (refine wpList_built rfl 31 #[] rfl [] rfl _ bZero ?_)
    | (refine storeH rfl (.tmp 14) (.tmp 27) rfl (w.heap.size + 2) (Hd.zero) rfl rfl Z rfl ?_; intro W2 Z2 kk; replace z := z.trans (kk.below (show w.heap.size ≤ w.heap.size + 2 by omega) z.size)))
  exact bodyPost_ret (v := .tuple #[.agg Hd.zero.ar, .int .i64 6]) (resH2 14 15 Tryd.results12 rfl rfl Z2) rfl ⟨rfl, z⟩
set_option maxHeartbeats 8000000 in
theorem iCa1f (p s l c k slot : Int) (h : Hd) (code : Int) (a b d : Int) (hq : hOk p s l c k h = false) (hs : inB slot 0 (wrap64 (p - 1)) = false) (w : World) (T0 : Tab w) : Calls Tryd.prog 12 #[.agg #[.int .i64 p, .int .i64 s, .int .i64 l, .int .i64 c, .int .i64 k], .int .i64 slot, .agg h.ar, .int .i64 code, .int .i64 a, .int .i64 b, .int .i64 d] w fun e w' => e = .returned (.tuple #[.agg Hd.zero.ar, .int .i64 6]) ∧ Below w.heap.size w w' := by
  go_enter Tryd.func12, Tryd.ntmps12
  go_upto_region 1 with fail
  refine wp_at (fun W => At W w.heap.size #[.int .i64 p, .int .i64 s, .int .i64 l, .int .i64 c, .int .i64 k] 25 ∧ At W (w.heap.size + 1) h.ar 31 ∧ At W (w.heap.size + 2) Hd.zero.ar 31 ∧ Below w.heap.size w W) (three_box w _ _ _ _ _ _) ?_
  rintro W ⟨P, A, Z, z⟩
  have T := T0.keep z
  clear T0
  obtain ⟨d0, d1, d2, d3, d4⟩ := P.five
  skip
  go_wp2_with (first
    | (go_at_call 24; refine (iHasW _ _ _ _ _ _ _).mono ?_; rintro e w1 ⟨rfl, hb⟩; rw [hs]; clear d0 d1 d2 d3 d4; replace P := P.keep hb; replace A := A.keep hb; replace Z := Z.keep hb; replace T := T.keep hb; replace z := z.trans (hb.mono z.size); clear hb; obtain ⟨d0, d1, d2, d3, d4⟩ := P.five; skip)
    | (go_at_call 29; refine (iHandOk p s l c k h _).mono ?_; rintro e w1 ⟨rfl, hb⟩; rw [hq]; clear d0 d1 d2 d3 d4; replace P := P.keep hb; replace A := A.keep hb; replace Z := Z.keep hb; replace T := T.keep hb; replace z := z.trans (hb.mono z.size); clear hb; obtain ⟨d0, d1, d2, d3, d4⟩ := P.five; skip)
    | (go_at_call 9; refine Calls.mono (iFits p s l c k slot code a b d _ T) ?_; rintro e w1 ⟨rfl, hb⟩; rw [hf]; clear d0 d1 d2 d3 d4; replace P := P.keep hb; replace A := A.keep hb; replace Z := Z.keep hb; replace T := T.keep hb; replace z := z.trans (hb.mono z.size); clear hb; obtain ⟨d0, d1, d2, d3, d4⟩ := P.five; skip)
    | (refine loadHg rfl (.tmp 9) rfl (w.heap.size + 1) h rfl A ?_)
    | (refine wpList_built rfl 31 #[] rfl [] rfl _ bZero ?_)
    | (refine storeH rfl (.tmp 14) (.tmp 27) rfl (w.heap.size + 2) (Hd.zero) rfl rfl Z rfl ?_; intro W2 Z2 kk; replace z := z.trans (kk.below (show w.heap.size ≤ w.heap.size + 2 by omega) z.size)))
  exact bodyPost_ret (v := .tuple #[.agg Hd.zero.ar, .int .i64 6]) (resH2 14 15 Tryd.results12 rfl rfl Z2) rfl ⟨rfl, z⟩
set_option maxHeartbeats 8000000 in
theorem iCa2 (p s l c k slot : Int) (h : Hd) (code : Int) (a b d : Int) (ho : ok p s l c k = true) (hs : inB slot 0 (p - 1) = false) (w : World) (T0 : Tab w) : Calls Tryd.prog 12 #[.agg #[.int .i64 p, .int .i64 s, .int .i64 l, .int .i64 c, .int .i64 k], .int .i64 slot, .agg h.ar, .int .i64 code, .int .i64 a, .int .i64 b, .int .i64 d] w fun e w' => e = .returned (.tuple #[.agg Hd.zero.ar, .int .i64 6]) ∧ Below w.heap.size w w' := by
  go_enter Tryd.func12, Tryd.ntmps12
  go_upto_region 1 with fail
  refine wp_at (fun W => At W w.heap.size #[.int .i64 p, .int .i64 s, .int .i64 l, .int .i64 c, .int .i64 k] 25 ∧ At W (w.heap.size + 1) h.ar 31 ∧ At W (w.heap.size + 2) Hd.zero.ar 31 ∧ Below w.heap.size w W) (three_box w _ _ _ _ _ _) ?_
  rintro W ⟨P, A, Z, z⟩
  have T := T0.keep z
  clear T0
  obtain ⟨d0, d1, d2, d3, d4⟩ := P.five
  skip
  go_wp2_with (first
    | (go_at_call 24; refine (iHas _ _ _ _ _ _ ho _).mono ?_; rintro e w1 ⟨rfl, hb⟩; rw [hs]; clear d0 d1 d2 d3 d4; replace P := P.keep hb; replace A := A.keep hb; replace Z := Z.keep hb; replace T := T.keep hb; replace z := z.trans (hb.mono z.size); clear hb; obtain ⟨d0, d1, d2, d3, d4⟩ := P.five; skip)
    | (go_at_call 29; refine (iHandOk p s l c k h _).mono ?_; rintro e w1 ⟨rfl, hb⟩; rw [hq]; clear d0 d1 d2 d3 d4; replace P := P.keep hb; replace A := A.keep hb; replace Z := Z.keep hb; replace T := T.keep hb; replace z := z.trans (hb.mono z.size); clear hb; obtain ⟨d0, d1, d2, d3, d4⟩ := P.five; skip)
    | (go_at_call 9; refine Calls.mono (iFits p s l c k slot code a b d _ T) ?_; rintro e w1 ⟨rfl, hb⟩; rw [hf]; clear d0 d1 d2 d3 d4; replace P := P.keep hb; replace A := A.keep hb; replace Z := Z.keep hb; replace T := T.keep hb; replace z := z.trans (hb.mono z.size); clear hb; obtain ⟨d0, d1, d2, d3, d4⟩ := P.five; skip)
    | (refine loadHg rfl (.tmp 9) rfl (w.heap.size + 1) h rfl A ?_)
    | (refine wpList_built rfl 31 #[] rfl [] rfl _ bZero ?_)
    | (refine storeH rfl (.tmp 14) (.tmp 27) rfl (w.heap.size + 2) (Hd.zero) rfl rfl Z rfl ?_; intro W2 Z2 kk; replace z := z.trans (kk.below (show w.heap.size ≤ w.heap.size + 2 by omega) z.size)))
  exact bodyPost_ret (v := .tuple #[.agg Hd.zero.ar, .int .i64 6]) (resH2 14 15 Tryd.results12 rfl rfl Z2) rfl ⟨rfl, z⟩
set_option maxHeartbeats 8000000 in
theorem iCa3 (p s l c k slot : Int) (h : Hd) (code : Int) (a b d : Int) (ho : ok p s l c k = true) (hs : inB slot 0 (p - 1) = true) (hq : hOk p s l c k h = false) (w : World) (T0 : Tab w) : Calls Tryd.prog 12 #[.agg #[.int .i64 p, .int .i64 s, .int .i64 l, .int .i64 c, .int .i64 k], .int .i64 slot, .agg h.ar, .int .i64 code, .int .i64 a, .int .i64 b, .int .i64 d] w fun e w' => e = .returned (.tuple #[.agg Hd.zero.ar, .int .i64 6]) ∧ Below w.heap.size w w' := by
  go_enter Tryd.func12, Tryd.ntmps12
  go_upto_region 1 with fail
  refine wp_at (fun W => At W w.heap.size #[.int .i64 p, .int .i64 s, .int .i64 l, .int .i64 c, .int .i64 k] 25 ∧ At W (w.heap.size + 1) h.ar 31 ∧ At W (w.heap.size + 2) Hd.zero.ar 31 ∧ Below w.heap.size w W) (three_box w _ _ _ _ _ _) ?_
  rintro W ⟨P, A, Z, z⟩
  have T := T0.keep z
  clear T0
  obtain ⟨d0, d1, d2, d3, d4⟩ := P.five
  skip
  go_wp2_with (first
    | (go_at_call 24; refine (iHas _ _ _ _ _ _ ho _).mono ?_; rintro e w1 ⟨rfl, hb⟩; rw [hs]; clear d0 d1 d2 d3 d4; replace P := P.keep hb; replace A := A.keep hb; replace Z := Z.keep hb; replace T := T.keep hb; replace z := z.trans (hb.mono z.size); clear hb; obtain ⟨d0, d1, d2, d3, d4⟩ := P.five; skip)
    | (go_at_call 29; refine (iHandOk p s l c k h _).mono ?_; rintro e w1 ⟨rfl, hb⟩; rw [hq]; clear d0 d1 d2 d3 d4; replace P := P.keep hb; replace A := A.keep hb; replace Z := Z.keep hb; replace T := T.keep hb; replace z := z.trans (hb.mono z.size); clear hb; obtain ⟨d0, d1, d2, d3, d4⟩ := P.five; skip)
    | (go_at_call 9; refine Calls.mono (iFits p s l c k slot code a b d _ T) ?_; rintro e w1 ⟨rfl, hb⟩; rw [hf]; clear d0 d1 d2 d3 d4; replace P := P.keep hb; replace A := A.keep hb; replace Z := Z.keep hb; replace T := T.keep hb; replace z := z.trans (hb.mono z.size); clear hb; obtain ⟨d0, d1, d2, d3, d4⟩ := P.five; skip)
    | (refine loadHg rfl (.tmp 9) rfl (w.heap.size + 1) h rfl A ?_)
    | (refine wpList_built rfl 31 #[] rfl [] rfl _ bZero ?_)
    | (refine storeH rfl (.tmp 14) (.tmp 27) rfl (w.heap.size + 2) (Hd.zero) rfl rfl Z rfl ?_; intro W2 Z2 kk; replace z := z.trans (kk.below (show w.heap.size ≤ w.heap.size + 2 by omega) z.size)))
  exact bodyPost_ret (v := .tuple #[.agg Hd.zero.ar, .int .i64 6]) (resH2 14 15 Tryd.results12 rfl rfl Z2) rfl ⟨rfl, z⟩
set_option maxHeartbeats 8000000 in
theorem iCaD (p s l c k slot : Int) (h : Hd) (code : Int) (a b d : Int) (ho : ok p s l c k = true) (hs : inB slot 0 (p - 1) = true) (hq : hOk p s l c k h = true) (hu : h.up = false) (w : World) (T0 : Tab w) : Calls Tryd.prog 12 #[.agg #[.int .i64 p, .int .i64 s, .int .i64 l, .int .i64 c, .int .i64 k], .int .i64 slot, .agg h.ar, .int .i64 code, .int .i64 a, .int .i64 b, .int .i64 d] w fun e w' => e = .returned (.tuple #[.agg h.ar, .int .i64 1]) ∧ Below w.heap.size w w' := by
  go_enter Tryd.func12, Tryd.ntmps12
  go_upto_region 1 with fail
  refine wp_at (fun W => At W w.heap.size #[.int .i64 p, .int .i64 s, .int .i64 l, .int .i64 c, .int .i64 k] 25 ∧ At W (w.heap.size + 1) h.ar 31 ∧ At W (w.heap.size + 2) Hd.zero.ar 31 ∧ Below w.heap.size w W) (three_box w _ _ _ _ _ _) ?_
  rintro W ⟨P, A, Z, z⟩
  have T := T0.keep z
  clear T0
  obtain ⟨d0, d1, d2, d3, d4⟩ := P.five
  have c0 : World.cell? W ⟨w.heap.size + 1, 0, none⟩ = some (.bool false) := (A.cell 0).trans (by show some (Value.bool h.up) = _; rw [hu])
  go_wp2_with (first
    | (go_at_call 24; refine (iHas _ _ _ _ _ _ ho _).mono ?_; rintro e w1 ⟨rfl, hb⟩; rw [hs]; clear d0 d1 d2 d3 d4 c0; replace P := P.keep hb; replace A := A.keep hb; replace Z := Z.keep hb; replace T := T.keep hb; replace z := z.trans (hb.mono z.size); clear hb; obtain ⟨d0, d1, d2, d3, d4⟩ := P.five; have c0 : World.cell? w1 ⟨w.heap.size + 1, 0, none⟩ = some (.bool false) := (A.cell 0).trans (by show some (Value.bool h.up) = _; rw [hu]))
    | (go_at_call 29; refine (iHandOk p s l c k h _).mono ?_; rintro e w1 ⟨rfl, hb⟩; rw [hq]; clear d0 d1 d2 d3 d4 c0; replace P := P.keep hb; replace A := A.keep hb; replace Z := Z.keep hb; replace T := T.keep hb; replace z := z.trans (hb.mono z.size); clear hb; obtain ⟨d0, d1, d2, d3, d4⟩ := P.five; have c0 : World.cell? w1 ⟨w.heap.size + 1, 0, none⟩ = some (.bool false) := (A.cell 0).trans (by show some (Value.bool h.up) = _; rw [hu]))
    | (go_at_call 9; refine Calls.mono (iFits p s l c k slot code a b d _ T) ?_; rintro e w1 ⟨rfl, hb⟩; rw [hf]; clear d0 d1 d2 d3 d4 c0; replace P := P.keep hb; replace A := A.keep hb; replace Z := Z.keep hb; replace T := T.keep hb; replace z := z.trans (hb.mono z.size); clear hb; obtain ⟨d0, d1, d2, d3, d4⟩ := P.five; have c0 : World.cell? w1 ⟨w.heap.size + 1, 0, none⟩ = some (.bool false) := (A.cell 0).trans (by show some (Value.bool h.up) = _; rw [hu]))
    | (refine loadHg rfl (.tmp 9) rfl (w.heap.size + 1) h rfl A ?_)
    | (refine storeH rfl (.tmp 14) (.tmp 32) rfl (w.heap.size + 2) (h) rfl rfl Z rfl ?_; intro W2 Z2 kk; replace z := z.trans (kk.below (show w.heap.size ≤ w.heap.size + 2 by omega) z.size)))
  exact bodyPost_ret (v := .tuple #[.agg h.ar, .int .i64 1]) (resH2 14 15 Tryd.results12 rfl rfl Z2) rfl ⟨rfl, z⟩
set_option maxHeartbeats 8000000 in
theorem iCaB (p s l c k slot : Int) (h : Hd) (code : Int) (a b d : Int) (ho : ok p s l c k = true) (hs : inB slot 0 (p - 1) = true) (hq : hOk p s l c k h = true) (hu : h.up = true) (ha : ¬ h.at_ = 0) (w : World) (T0 : Tab w) : Calls Tryd.prog 12 #[.agg #[.int .i64 p, .int .i64 s, .int .i64 l, .int .i64 c, .int .i64 k], .int .i64 slot, .agg h.ar, .int .i64 code, .int .i64 a, .int .i64 b, .int .i64 d] w fun e w' => e = .returned (.tuple #[.agg h.ar, .int .i64 2]) ∧ Below w.heap.size w w' := by
  go_enter Tryd.func12, Tryd.ntmps12
  go_upto_region 1 with fail
  refine wp_at (fun W => At W w.heap.size #[.int .i64 p, .int .i64 s, .int .i64 l, .int .i64 c, .int .i64 k] 25 ∧ At W (w.heap.size + 1) h.ar 31 ∧ At W (w.heap.size + 2) Hd.zero.ar 31 ∧ Below w.heap.size w W) (three_box w _ _ _ _ _ _) ?_
  rintro W ⟨P, A, Z, z⟩
  have T := T0.keep z
  clear T0
  obtain ⟨d0, d1, d2, d3, d4⟩ := P.five
  have c0 : World.cell? W ⟨w.heap.size + 1, 0, none⟩ = some (.bool true) := (A.cell 0).trans (by show some (Value.bool h.up) = _; rw [hu])
  have c5 : World.cell? W ⟨w.heap.size + 1, 5, none⟩ = some (.int .i64 h.at_) := A.cell 5
  go_wp2_with (first
    | (go_at_call 24; refine (iHas _ _ _ _ _ _ ho _).mono ?_; rintro e w1 ⟨rfl, hb⟩; rw [hs]; clear d0 d1 d2 d3 d4 c0 c5; replace P := P.keep hb; replace A := A.keep hb; replace Z := Z.keep hb; replace T := T.keep hb; replace z := z.trans (hb.mono z.size); clear hb; obtain ⟨d0, d1, d2, d3, d4⟩ := P.five; have c0 : World.cell? w1 ⟨w.heap.size + 1, 0, none⟩ = some (.bool true) := (A.cell 0).trans (by show some (Value.bool h.up) = _; rw [hu]); have c5 : World.cell? w1 ⟨w.heap.size + 1, 5, none⟩ = some (.int .i64 h.at_) := A.cell 5)
    | (go_at_call 29; refine (iHandOk p s l c k h _).mono ?_; rintro e w1 ⟨rfl, hb⟩; rw [hq]; clear d0 d1 d2 d3 d4 c0 c5; replace P := P.keep hb; replace A := A.keep hb; replace Z := Z.keep hb; replace T := T.keep hb; replace z := z.trans (hb.mono z.size); clear hb; obtain ⟨d0, d1, d2, d3, d4⟩ := P.five; have c0 : World.cell? w1 ⟨w.heap.size + 1, 0, none⟩ = some (.bool true) := (A.cell 0).trans (by show some (Value.bool h.up) = _; rw [hu]); have c5 : World.cell? w1 ⟨w.heap.size + 1, 5, none⟩ = some (.int .i64 h.at_) := A.cell 5)
    | (go_at_call 9; refine Calls.mono (iFits p s l c k slot code a b d _ T) ?_; rintro e w1 ⟨rfl, hb⟩; rw [hf]; clear d0 d1 d2 d3 d4 c0 c5; replace P := P.keep hb; replace A := A.keep hb; replace Z := Z.keep hb; replace T := T.keep hb; replace z := z.trans (hb.mono z.size); clear hb; obtain ⟨d0, d1, d2, d3, d4⟩ := P.five; have c0 : World.cell? w1 ⟨w.heap.size + 1, 0, none⟩ = some (.bool true) := (A.cell 0).trans (by show some (Value.bool h.up) = _; rw [hu]); have c5 : World.cell? w1 ⟨w.heap.size + 1, 5, none⟩ = some (.int .i64 h.at_) := A.cell 5)
    | (refine loadHg rfl (.tmp 9) rfl (w.heap.size + 1) h rfl A ?_)
    | (refine storeH rfl (.tmp 14) (.tmp 37) rfl (w.heap.size + 2) (h) rfl rfl Z rfl ?_; intro W2 Z2 kk; replace z := z.trans (kk.below (show w.heap.size ≤ w.heap.size + 2 by omega) z.size)))
  exact bodyPost_ret (v := .tuple #[.agg h.ar, .int .i64 2]) (resH2 14 15 Tryd.results12 rfl rfl Z2) rfl ⟨rfl, z⟩
set_option maxHeartbeats 8000000 in
theorem iCaS1 (p s l c k slot : Int) (h : Hd) (a b d : Int) (ho : ok p s l c k = true) (hs : inB slot 0 (p - 1) = true) (hq : hOk p s l c k h = true) (hu : h.up = true) (ha : h.at_ = 0) (hi : h.inn = true) (w : World) (T0 : Tab w) : Calls Tryd.prog 12 #[.agg #[.int .i64 p, .int .i64 s, .int .i64 l, .int .i64 c, .int .i64 k], .int .i64 slot, .agg h.ar, .int .i64 1, .int .i64 a, .int .i64 b, .int .i64 d] w fun e w' => e = .returned (.tuple #[.agg h.ar, .int .i64 3]) ∧ Below w.heap.size w w' := by
  go_enter Tryd.func12, Tryd.ntmps12
  go_upto_region 1 with fail
  refine wp_at (fun W => At W w.heap.size #[.int .i64 p, .int .i64 s, .int .i64 l, .int .i64 c, .int .i64 k] 25 ∧ At W (w.heap.size + 1) h.ar 31 ∧ At W (w.heap.size + 2) Hd.zero.ar 31 ∧ Below w.heap.size w W) (three_box w _ _ _ _ _ _) ?_
  rintro W ⟨P, A, Z, z⟩
  have T := T0.keep z
  clear T0
  obtain ⟨d0, d1, d2, d3, d4⟩ := P.five
  have c0 : World.cell? W ⟨w.heap.size + 1, 0, none⟩ = some (.bool true) := (A.cell 0).trans (by show some (Value.bool h.up) = _; rw [hu])
  have c5 : World.cell? W ⟨w.heap.size + 1, 5, none⟩ = some (.int .i64 0) := (A.cell 5).trans (by show some (Value.int .i64 h.at_) = _; rw [ha])
  have c1 : World.cell? W ⟨w.heap.size + 1, 1, none⟩ = some (.bool true) := (A.cell 1).trans (by show some (Value.bool h.inn) = _; rw [hi])
  go_wp2_with (first
    | (go_at_call 24; refine (iHas _ _ _ _ _ _ ho _).mono ?_; rintro e w1 ⟨rfl, hb⟩; rw [hs]; clear d0 d1 d2 d3 d4 c0 c5 c1; replace P := P.keep hb; replace A := A.keep hb; replace Z := Z.keep hb; replace T := T.keep hb; replace z := z.trans (hb.mono z.size); clear hb; obtain ⟨d0, d1, d2, d3, d4⟩ := P.five; have c0 : World.cell? w1 ⟨w.heap.size + 1, 0, none⟩ = some (.bool true) := (A.cell 0).trans (by show some (Value.bool h.up) = _; rw [hu]); have c5 : World.cell? w1 ⟨w.heap.size + 1, 5, none⟩ = some (.int .i64 0) := (A.cell 5).trans (by show some (Value.int .i64 h.at_) = _; rw [ha]); have c1 : World.cell? w1 ⟨w.heap.size + 1, 1, none⟩ = some (.bool true) := (A.cell 1).trans (by show some (Value.bool h.inn) = _; rw [hi]))
    | (go_at_call 29; refine (iHandOk p s l c k h _).mono ?_; rintro e w1 ⟨rfl, hb⟩; rw [hq]; clear d0 d1 d2 d3 d4 c0 c5 c1; replace P := P.keep hb; replace A := A.keep hb; replace Z := Z.keep hb; replace T := T.keep hb; replace z := z.trans (hb.mono z.size); clear hb; obtain ⟨d0, d1, d2, d3, d4⟩ := P.five; have c0 : World.cell? w1 ⟨w.heap.size + 1, 0, none⟩ = some (.bool true) := (A.cell 0).trans (by show some (Value.bool h.up) = _; rw [hu]); have c5 : World.cell? w1 ⟨w.heap.size + 1, 5, none⟩ = some (.int .i64 0) := (A.cell 5).trans (by show some (Value.int .i64 h.at_) = _; rw [ha]); have c1 : World.cell? w1 ⟨w.heap.size + 1, 1, none⟩ = some (.bool true) := (A.cell 1).trans (by show some (Value.bool h.inn) = _; rw [hi]))
    | (go_at_call 9; refine Calls.mono (iFits p s l c k slot 1 a b d _ T) ?_; rintro e w1 ⟨rfl, hb⟩; rw [hf]; clear d0 d1 d2 d3 d4 c0 c5 c1; replace P := P.keep hb; replace A := A.keep hb; replace Z := Z.keep hb; replace T := T.keep hb; replace z := z.trans (hb.mono z.size); clear hb; obtain ⟨d0, d1, d2, d3, d4⟩ := P.five; have c0 : World.cell? w1 ⟨w.heap.size + 1, 0, none⟩ = some (.bool true) := (A.cell 0).trans (by show some (Value.bool h.up) = _; rw [hu]); have c5 : World.cell? w1 ⟨w.heap.size + 1, 5, none⟩ = some (.int .i64 0) := (A.cell 5).trans (by show some (Value.int .i64 h.at_) = _; rw [ha]); have c1 : World.cell? w1 ⟨w.heap.size + 1, 1, none⟩ = some (.bool true) := (A.cell 1).trans (by show some (Value.bool h.inn) = _; rw [hi]))
    | (refine loadHg rfl (.tmp 9) rfl (w.heap.size + 1) h rfl A ?_)
    | (refine storeH rfl (.tmp 14) (.tmp 44) rfl (w.heap.size + 2) (h) rfl rfl Z rfl ?_; intro W2 Z2 kk; replace z := z.trans (kk.below (show w.heap.size ≤ w.heap.size + 2 by omega) z.size)))
  exact bodyPost_ret (v := .tuple #[.agg h.ar, .int .i64 3]) (resH2 14 15 Tryd.results12 rfl rfl Z2) rfl ⟨rfl, z⟩
set_option maxHeartbeats 8000000 in
theorem iCaS2 (p s l c k slot : Int) (h : Hd) (code : Int) (a b d : Int) (ho : ok p s l c k = true) (hs : inB slot 0 (p - 1) = true) (hq : hOk p s l c k h = true) (hu : h.up = true) (ha : h.at_ = 0) (hi : h.inn = false) (hne : ¬ code = 1) (w : World) (T0 : Tab w) : Calls Tryd.prog 12 #[.agg #[.int .i64 p, .int .i64 s, .int .i64 l, .int .i64 c, .int .i64 k], .int .i64 slot, .agg h.ar, .int .i64 code, .int .i64 a, .int .i64 b, .int .i64 d] w fun e w' => e = .returned (.tuple #[.agg h.ar, .int .i64 3]) ∧ Below w.heap.size w w' := by
  have hx1 : (code == 1) = false := by simp [hne]
  have hx2 : decide (code = 1) = false := decide_eq_false hne
  go_enter Tryd.func12, Tryd.ntmps12
  go_upto_region 1 with fail
  refine wp_at (fun W => At W w.heap.size #[.int .i64 p, .int .i64 s, .int .i64 l, .int .i64 c, .int .i64 k] 25 ∧ At W (w.heap.size + 1) h.ar 31 ∧ At W (w.heap.size + 2) Hd.zero.ar 31 ∧ Below w.heap.size w W) (three_box w _ _ _ _ _ _) ?_
  rintro W ⟨P, A, Z, z⟩
  have T := T0.keep z
  clear T0
  obtain ⟨d0, d1, d2, d3, d4⟩ := P.five
  have c0 : World.cell? W ⟨w.heap.size + 1, 0, none⟩ = some (.bool true) := (A.cell 0).trans (by show some (Value.bool h.up) = _; rw [hu])
  have c5 : World.cell? W ⟨w.heap.size + 1, 5, none⟩ = some (.int .i64 0) := (A.cell 5).trans (by show some (Value.int .i64 h.at_) = _; rw [ha])
  have c1 : World.cell? W ⟨w.heap.size + 1, 1, none⟩ = some (.bool false) := (A.cell 1).trans (by show some (Value.bool h.inn) = _; rw [hi])
  go_wp2_with (first
    | (go_at_call 24; refine (iHas _ _ _ _ _ _ ho _).mono ?_; rintro e w1 ⟨rfl, hb⟩; rw [hs]; clear d0 d1 d2 d3 d4 c0 c5 c1; replace P := P.keep hb; replace A := A.keep hb; replace Z := Z.keep hb; replace T := T.keep hb; replace z := z.trans (hb.mono z.size); clear hb; obtain ⟨d0, d1, d2, d3, d4⟩ := P.five; have c0 : World.cell? w1 ⟨w.heap.size + 1, 0, none⟩ = some (.bool true) := (A.cell 0).trans (by show some (Value.bool h.up) = _; rw [hu]); have c5 : World.cell? w1 ⟨w.heap.size + 1, 5, none⟩ = some (.int .i64 0) := (A.cell 5).trans (by show some (Value.int .i64 h.at_) = _; rw [ha]); have c1 : World.cell? w1 ⟨w.heap.size + 1, 1, none⟩ = some (.bool false) := (A.cell 1).trans (by show some (Value.bool h.inn) = _; rw [hi]))
    | (go_at_call 29; refine (iHandOk p s l c k h _).mono ?_; rintro e w1 ⟨rfl, hb⟩; rw [hq]; clear d0 d1 d2 d3 d4 c0 c5 c1; replace P := P.keep hb; replace A := A.keep hb; replace Z := Z.keep hb; replace T := T.keep hb; replace z := z.trans (hb.mono z.size); clear hb; obtain ⟨d0, d1, d2, d3, d4⟩ := P.five; have c0 : World.cell? w1 ⟨w.heap.size + 1, 0, none⟩ = some (.bool true) := (A.cell 0).trans (by show some (Value.bool h.up) = _; rw [hu]); have c5 : World.cell? w1 ⟨w.heap.size + 1, 5, none⟩ = some (.int .i64 0) := (A.cell 5).trans (by show some (Value.int .i64 h.at_) = _; rw [ha]); have c1 : World.cell? w1 ⟨w.heap.size + 1, 1, none⟩ = some (.bool false) := (A.cell 1).trans (by show some (Value.bool h.inn) = _; rw [hi]))
    | (go_at_call 9; refine Calls.mono (iFits p s l c k slot code a b d _ T) ?_; rintro e w1 ⟨rfl, hb⟩; rw [hf]; clear d0 d1 d2 d3 d4 c0 c5 c1; replace P := P.keep hb; replace A := A.keep hb; replace Z := Z.keep hb; replace T := T.keep hb; replace z := z.trans (hb.mono z.size); clear hb; obtain ⟨d0, d1, d2, d3, d4⟩ := P.five; have c0 : World.cell? w1 ⟨w.heap.size + 1, 0, none⟩ = some (.bool true) := (A.cell 0).trans (by show some (Value.bool h.up) = _; rw [hu]); have c5 : World.cell? w1 ⟨w.heap.size + 1, 5, none⟩ = some (.int .i64 0) := (A.cell 5).trans (by show some (Value.int .i64 h.at_) = _; rw [ha]); have c1 : World.cell? w1 ⟨w.heap.size + 1, 1, none⟩ = some (.bool false) := (A.cell 1).trans (by show some (Value.bool h.inn) = _; rw [hi]))
    | (refine loadHg rfl (.tmp 9) rfl (w.heap.size + 1) h rfl A ?_)
    | (refine storeH rfl (.tmp 14) (.tmp 44) rfl (w.heap.size + 2) (h) rfl rfl Z rfl ?_; intro W2 Z2 kk; replace z := z.trans (kk.below (show w.heap.size ≤ w.heap.size + 2 by omega) z.size)))
  exact bodyPost_ret (v := .tuple #[.agg h.ar, .int .i64 3]) (resH2 14 15 Tryd.results12 rfl rfl Z2) rfl ⟨rfl, z⟩
set_option maxHeartbeats 8000000 in
theorem iCaU1 (p s l c k slot : Int) (h : Hd) (a b d : Int) (ho : ok p s l c k = true) (hs : inB slot 0 (p - 1) = true) (hq : hOk p s l c k h = true) (hu : h.up = true) (ha : h.at_ = 0) (hi : h.inn = false) (hf : fitsC p s l c k slot 1 a b d = false) (w : World) (T0 : Tab w) : Calls Tryd.prog 12 #[.agg #[.int .i64 p, .int .i64 s, .int .i64 l, .int .i64 c, .int .i64 k], .int .i64 slot, .agg h.ar, .int .i64 1, .int .i64 a, .int .i64 b, .int .i64 d] w fun e w' => e = .returned (.tuple #[.agg h.ar, .int .i64 4]) ∧ Below w.heap.size w w' := by
  go_enter Tryd.func12, Tryd.ntmps12
  go_upto_region 1 with fail
  refine wp_at (fun W => At W w.heap.size #[.int .i64 p, .int .i64 s, .int .i64 l, .int .i64 c, .int .i64 k] 25 ∧ At W (w.heap.size + 1) h.ar 31 ∧ At W (w.heap.size + 2) Hd.zero.ar 31 ∧ Below w.heap.size w W) (three_box w _ _ _ _ _ _) ?_
  rintro W ⟨P, A, Z, z⟩
  have T := T0.keep z
  clear T0
  obtain ⟨d0, d1, d2, d3, d4⟩ := P.five
  have c0 : World.cell? W ⟨w.heap.size + 1, 0, none⟩ = some (.bool true) := (A.cell 0).trans (by show some (Value.bool h.up) = _; rw [hu])
  have c5 : World.cell? W ⟨w.heap.size + 1, 5, none⟩ = some (.int .i64 0) := (A.cell 5).trans (by show some (Value.int .i64 h.at_) = _; rw [ha])
  have c1 : World.cell? W ⟨w.heap.size + 1, 1, none⟩ = some (.bool false) := (A.cell 1).trans (by show some (Value.bool h.inn) = _; rw [hi])
  have c12 : World.cell? W ⟨w.heap.size + 1, 12, none⟩ = some (.int .i64 h.last) := A.cell 12
  go_wp2_with (first
    | (go_at_call 24; refine (iHas _ _ _ _ _ _ ho _).mono ?_; rintro e w1 ⟨rfl, hb⟩; rw [hs]; clear d0 d1 d2 d3 d4 c0 c5 c1 c12; replace P := P.keep hb; replace A := A.keep hb; replace Z := Z.keep hb; replace T := T.keep hb; replace z := z.trans (hb.mono z.size); clear hb; obtain ⟨d0, d1, d2, d3, d4⟩ := P.five; have c0 : World.cell? w1 ⟨w.heap.size + 1, 0, none⟩ = some (.bool true) := (A.cell 0).trans (by show some (Value.bool h.up) = _; rw [hu]); have c5 : World.cell? w1 ⟨w.heap.size + 1, 5, none⟩ = some (.int .i64 0) := (A.cell 5).trans (by show some (Value.int .i64 h.at_) = _; rw [ha]); have c1 : World.cell? w1 ⟨w.heap.size + 1, 1, none⟩ = some (.bool false) := (A.cell 1).trans (by show some (Value.bool h.inn) = _; rw [hi]); have c12 : World.cell? w1 ⟨w.heap.size + 1, 12, none⟩ = some (.int .i64 h.last) := A.cell 12)
    | (go_at_call 29; refine (iHandOk p s l c k h _).mono ?_; rintro e w1 ⟨rfl, hb⟩; rw [hq]; clear d0 d1 d2 d3 d4 c0 c5 c1 c12; replace P := P.keep hb; replace A := A.keep hb; replace Z := Z.keep hb; replace T := T.keep hb; replace z := z.trans (hb.mono z.size); clear hb; obtain ⟨d0, d1, d2, d3, d4⟩ := P.five; have c0 : World.cell? w1 ⟨w.heap.size + 1, 0, none⟩ = some (.bool true) := (A.cell 0).trans (by show some (Value.bool h.up) = _; rw [hu]); have c5 : World.cell? w1 ⟨w.heap.size + 1, 5, none⟩ = some (.int .i64 0) := (A.cell 5).trans (by show some (Value.int .i64 h.at_) = _; rw [ha]); have c1 : World.cell? w1 ⟨w.heap.size + 1, 1, none⟩ = some (.bool false) := (A.cell 1).trans (by show some (Value.bool h.inn) = _; rw [hi]); have c12 : World.cell? w1 ⟨w.heap.size + 1, 12, none⟩ = some (.int .i64 h.last) := A.cell 12)
    | (go_at_call 9; refine Calls.mono (iFits p s l c k slot 1 a b d _ T) ?_; rintro e w1 ⟨rfl, hb⟩; rw [hf]; clear d0 d1 d2 d3 d4 c0 c5 c1 c12; replace P := P.keep hb; replace A := A.keep hb; replace Z := Z.keep hb; replace T := T.keep hb; replace z := z.trans (hb.mono z.size); clear hb; obtain ⟨d0, d1, d2, d3, d4⟩ := P.five; have c0 : World.cell? w1 ⟨w.heap.size + 1, 0, none⟩ = some (.bool true) := (A.cell 0).trans (by show some (Value.bool h.up) = _; rw [hu]); have c5 : World.cell? w1 ⟨w.heap.size + 1, 5, none⟩ = some (.int .i64 0) := (A.cell 5).trans (by show some (Value.int .i64 h.at_) = _; rw [ha]); have c1 : World.cell? w1 ⟨w.heap.size + 1, 1, none⟩ = some (.bool false) := (A.cell 1).trans (by show some (Value.bool h.inn) = _; rw [hi]); have c12 : World.cell? w1 ⟨w.heap.size + 1, 12, none⟩ = some (.int .i64 h.last) := A.cell 12)
    | (refine loadHg rfl (.tmp 9) rfl (w.heap.size + 1) h rfl A ?_)
    | (refine storeH rfl (.tmp 14) (.tmp 54) rfl (w.heap.size + 2) (h) rfl rfl Z rfl ?_; intro W2 Z2 kk; replace z := z.trans (kk.below (show w.heap.size ≤ w.heap.size + 2 by omega) z.size)))
  exact bodyPost_ret (v := .tuple #[.agg h.ar, .int .i64 4]) (resH2 14 15 Tryd.results12 rfl rfl Z2) rfl ⟨rfl, z⟩
set_option maxHeartbeats 8000000 in
theorem iCaP1 (p s l c k slot : Int) (h : Hd) (a b d : Int) (ho : ok p s l c k = true) (hs : inB slot 0 (p - 1) = true) (hq : hOk p s l c k h = true) (hu : h.up = true) (ha : h.at_ = 0) (hi : h.inn = false) (hf : fitsC p s l c k slot 1 a b d = true) (hl : 1000000 < h.last) (w : World) (T0 : Tab w) : Calls Tryd.prog 12 #[.agg #[.int .i64 p, .int .i64 s, .int .i64 l, .int .i64 c, .int .i64 k], .int .i64 slot, .agg h.ar, .int .i64 1, .int .i64 a, .int .i64 b, .int .i64 d] w fun e w' => e = .returned (.tuple #[.agg h.ar, .int .i64 5]) ∧ Below w.heap.size w w' := by
  go_enter Tryd.func12, Tryd.ntmps12
  go_upto_region 1 with fail
  refine wp_at (fun W => At W w.heap.size #[.int .i64 p, .int .i64 s, .int .i64 l, .int .i64 c, .int .i64 k] 25 ∧ At W (w.heap.size + 1) h.ar 31 ∧ At W (w.heap.size + 2) Hd.zero.ar 31 ∧ Below w.heap.size w W) (three_box w _ _ _ _ _ _) ?_
  rintro W ⟨P, A, Z, z⟩
  have T := T0.keep z
  clear T0
  obtain ⟨d0, d1, d2, d3, d4⟩ := P.five
  have c0 : World.cell? W ⟨w.heap.size + 1, 0, none⟩ = some (.bool true) := (A.cell 0).trans (by show some (Value.bool h.up) = _; rw [hu])
  have c5 : World.cell? W ⟨w.heap.size + 1, 5, none⟩ = some (.int .i64 0) := (A.cell 5).trans (by show some (Value.int .i64 h.at_) = _; rw [ha])
  have c1 : World.cell? W ⟨w.heap.size + 1, 1, none⟩ = some (.bool false) := (A.cell 1).trans (by show some (Value.bool h.inn) = _; rw [hi])
  have c12 : World.cell? W ⟨w.heap.size + 1, 12, none⟩ = some (.int .i64 h.last) := A.cell 12
  go_wp2_with (first
    | (go_at_call 24; refine (iHas _ _ _ _ _ _ ho _).mono ?_; rintro e w1 ⟨rfl, hb⟩; rw [hs]; clear d0 d1 d2 d3 d4 c0 c5 c1 c12; replace P := P.keep hb; replace A := A.keep hb; replace Z := Z.keep hb; replace T := T.keep hb; replace z := z.trans (hb.mono z.size); clear hb; obtain ⟨d0, d1, d2, d3, d4⟩ := P.five; have c0 : World.cell? w1 ⟨w.heap.size + 1, 0, none⟩ = some (.bool true) := (A.cell 0).trans (by show some (Value.bool h.up) = _; rw [hu]); have c5 : World.cell? w1 ⟨w.heap.size + 1, 5, none⟩ = some (.int .i64 0) := (A.cell 5).trans (by show some (Value.int .i64 h.at_) = _; rw [ha]); have c1 : World.cell? w1 ⟨w.heap.size + 1, 1, none⟩ = some (.bool false) := (A.cell 1).trans (by show some (Value.bool h.inn) = _; rw [hi]); have c12 : World.cell? w1 ⟨w.heap.size + 1, 12, none⟩ = some (.int .i64 h.last) := A.cell 12)
    | (go_at_call 29; refine (iHandOk p s l c k h _).mono ?_; rintro e w1 ⟨rfl, hb⟩; rw [hq]; clear d0 d1 d2 d3 d4 c0 c5 c1 c12; replace P := P.keep hb; replace A := A.keep hb; replace Z := Z.keep hb; replace T := T.keep hb; replace z := z.trans (hb.mono z.size); clear hb; obtain ⟨d0, d1, d2, d3, d4⟩ := P.five; have c0 : World.cell? w1 ⟨w.heap.size + 1, 0, none⟩ = some (.bool true) := (A.cell 0).trans (by show some (Value.bool h.up) = _; rw [hu]); have c5 : World.cell? w1 ⟨w.heap.size + 1, 5, none⟩ = some (.int .i64 0) := (A.cell 5).trans (by show some (Value.int .i64 h.at_) = _; rw [ha]); have c1 : World.cell? w1 ⟨w.heap.size + 1, 1, none⟩ = some (.bool false) := (A.cell 1).trans (by show some (Value.bool h.inn) = _; rw [hi]); have c12 : World.cell? w1 ⟨w.heap.size + 1, 12, none⟩ = some (.int .i64 h.last) := A.cell 12)
    | (go_at_call 9; refine Calls.mono (iFits p s l c k slot 1 a b d _ T) ?_; rintro e w1 ⟨rfl, hb⟩; rw [hf]; clear d0 d1 d2 d3 d4 c0 c5 c1 c12; replace P := P.keep hb; replace A := A.keep hb; replace Z := Z.keep hb; replace T := T.keep hb; replace z := z.trans (hb.mono z.size); clear hb; obtain ⟨d0, d1, d2, d3, d4⟩ := P.five; have c0 : World.cell? w1 ⟨w.heap.size + 1, 0, none⟩ = some (.bool true) := (A.cell 0).trans (by show some (Value.bool h.up) = _; rw [hu]); have c5 : World.cell? w1 ⟨w.heap.size + 1, 5, none⟩ = some (.int .i64 0) := (A.cell 5).trans (by show some (Value.int .i64 h.at_) = _; rw [ha]); have c1 : World.cell? w1 ⟨w.heap.size + 1, 1, none⟩ = some (.bool false) := (A.cell 1).trans (by show some (Value.bool h.inn) = _; rw [hi]); have c12 : World.cell? w1 ⟨w.heap.size + 1, 12, none⟩ = some (.int .i64 h.last) := A.cell 12)
    | (refine loadHg rfl (.tmp 9) rfl (w.heap.size + 1) h rfl A ?_)
    | (refine storeH rfl (.tmp 14) (.tmp 59) rfl (w.heap.size + 2) (h) rfl rfl Z rfl ?_; intro W2 Z2 kk; replace z := z.trans (kk.below (show w.heap.size ≤ w.heap.size + 2 by omega) z.size)))
  exact bodyPost_ret (v := .tuple #[.agg h.ar, .int .i64 5]) (resH2 14 15 Tryd.results12 rfl rfl Z2) rfl ⟨rfl, z⟩
set_option maxHeartbeats 8000000 in
theorem iCaO1 (p s l c k slot : Int) (h : Hd) (a b d : Int) (ho : ok p s l c k = true) (hs : inB slot 0 (p - 1) = true) (hq : hOk p s l c k h = true) (hu : h.up = true) (ha : h.at_ = 0) (hi : h.inn = false) (hf : fitsC p s l c k slot 1 a b d = true) (hl : ¬ 1000000 < h.last) (w : World) (T0 : Tab w) : Calls Tryd.prog 12 #[.agg #[.int .i64 p, .int .i64 s, .int .i64 l, .int .i64 c, .int .i64 k], .int .i64 slot, .agg h.ar, .int .i64 1, .int .i64 a, .int .i64 b, .int .i64 d] w fun e w' => e = .returned (.tuple #[.agg (h.begun slot 1 a b d).ar, .int .i64 0]) ∧ Below w.heap.size w w' := by
  go_enter Tryd.func12, Tryd.ntmps12
  go_upto_region 1 with fail
  refine wp_at (fun W => At W w.heap.size #[.int .i64 p, .int .i64 s, .int .i64 l, .int .i64 c, .int .i64 k] 25 ∧ At W (w.heap.size + 1) h.ar 31 ∧ At W (w.heap.size + 2) Hd.zero.ar 31 ∧ Below w.heap.size w W) (three_box w _ _ _ _ _ _) ?_
  rintro W ⟨P, A, Z, z⟩
  have T := T0.keep z
  clear T0
  obtain ⟨d0, d1, d2, d3, d4⟩ := P.five
  have c0 : World.cell? W ⟨w.heap.size + 1, 0, none⟩ = some (.bool true) := (A.cell 0).trans (by show some (Value.bool h.up) = _; rw [hu])
  have c5 : World.cell? W ⟨w.heap.size + 1, 5, none⟩ = some (.int .i64 0) := (A.cell 5).trans (by show some (Value.int .i64 h.at_) = _; rw [ha])
  have c1 : World.cell? W ⟨w.heap.size + 1, 1, none⟩ = some (.bool false) := (A.cell 1).trans (by show some (Value.bool h.inn) = _; rw [hi])
  have c12 : World.cell? W ⟨w.heap.size + 1, 12, none⟩ = some (.int .i64 h.last) := A.cell 12
  go_wp2_with (first
    | (go_at_call 24; refine (iHas _ _ _ _ _ _ ho _).mono ?_; rintro e w1 ⟨rfl, hb⟩; rw [hs]; clear d0 d1 d2 d3 d4 c0 c5 c1 c12; replace P := P.keep hb; replace A := A.keep hb; replace Z := Z.keep hb; replace T := T.keep hb; replace z := z.trans (hb.mono z.size); clear hb; obtain ⟨d0, d1, d2, d3, d4⟩ := P.five; have c0 : World.cell? w1 ⟨w.heap.size + 1, 0, none⟩ = some (.bool true) := (A.cell 0).trans (by show some (Value.bool h.up) = _; rw [hu]); have c5 : World.cell? w1 ⟨w.heap.size + 1, 5, none⟩ = some (.int .i64 0) := (A.cell 5).trans (by show some (Value.int .i64 h.at_) = _; rw [ha]); have c1 : World.cell? w1 ⟨w.heap.size + 1, 1, none⟩ = some (.bool false) := (A.cell 1).trans (by show some (Value.bool h.inn) = _; rw [hi]); have c12 : World.cell? w1 ⟨w.heap.size + 1, 12, none⟩ = some (.int .i64 h.last) := A.cell 12)
    | (go_at_call 29; refine (iHandOk p s l c k h _).mono ?_; rintro e w1 ⟨rfl, hb⟩; rw [hq]; clear d0 d1 d2 d3 d4 c0 c5 c1 c12; replace P := P.keep hb; replace A := A.keep hb; replace Z := Z.keep hb; replace T := T.keep hb; replace z := z.trans (hb.mono z.size); clear hb; obtain ⟨d0, d1, d2, d3, d4⟩ := P.five; have c0 : World.cell? w1 ⟨w.heap.size + 1, 0, none⟩ = some (.bool true) := (A.cell 0).trans (by show some (Value.bool h.up) = _; rw [hu]); have c5 : World.cell? w1 ⟨w.heap.size + 1, 5, none⟩ = some (.int .i64 0) := (A.cell 5).trans (by show some (Value.int .i64 h.at_) = _; rw [ha]); have c1 : World.cell? w1 ⟨w.heap.size + 1, 1, none⟩ = some (.bool false) := (A.cell 1).trans (by show some (Value.bool h.inn) = _; rw [hi]); have c12 : World.cell? w1 ⟨w.heap.size + 1, 12, none⟩ = some (.int .i64 h.last) := A.cell 12)
    | (go_at_call 9; refine Calls.mono (iFits p s l c k slot 1 a b d _ T) ?_; rintro e w1 ⟨rfl, hb⟩; rw [hf]; clear d0 d1 d2 d3 d4 c0 c5 c1 c12; replace P := P.keep hb; replace A := A.keep hb; replace Z := Z.keep hb; replace T := T.keep hb; replace z := z.trans (hb.mono z.size); clear hb; obtain ⟨d0, d1, d2, d3, d4⟩ := P.five; have c0 : World.cell? w1 ⟨w.heap.size + 1, 0, none⟩ = some (.bool true) := (A.cell 0).trans (by show some (Value.bool h.up) = _; rw [hu]); have c5 : World.cell? w1 ⟨w.heap.size + 1, 5, none⟩ = some (.int .i64 0) := (A.cell 5).trans (by show some (Value.int .i64 h.at_) = _; rw [ha]); have c1 : World.cell? w1 ⟨w.heap.size + 1, 1, none⟩ = some (.bool false) := (A.cell 1).trans (by show some (Value.bool h.inn) = _; rw [hi]); have c12 : World.cell? w1 ⟨w.heap.size + 1, 12, none⟩ = some (.int .i64 h.last) := A.cell 12)
    | (refine loadHg rfl (.tmp 9) rfl (w.heap.size + 1) h rfl A ?_)
    | (go_at_call 30; refine (iBegunAt h slot 1 a b d _).mono ?_; rintro e w1 ⟨rfl, hb⟩; clear d0 d1 d2 d3 d4 c0 c5 c1 c12; replace P := P.keep hb; replace A := A.keep hb; replace Z := Z.keep hb; replace T := T.keep hb; replace z := z.trans (hb.mono z.size); clear hb; obtain ⟨d0, d1, d2, d3, d4⟩ := P.five; have c0 : World.cell? w1 ⟨w.heap.size + 1, 0, none⟩ = some (.bool true) := (A.cell 0).trans (by show some (Value.bool h.up) = _; rw [hu]); have c5 : World.cell? w1 ⟨w.heap.size + 1, 5, none⟩ = some (.int .i64 0) := (A.cell 5).trans (by show some (Value.int .i64 h.at_) = _; rw [ha]); have c1 : World.cell? w1 ⟨w.heap.size + 1, 1, none⟩ = some (.bool false) := (A.cell 1).trans (by show some (Value.bool h.inn) = _; rw [hi]); have c12 : World.cell? w1 ⟨w.heap.size + 1, 12, none⟩ = some (.int .i64 h.last) := A.cell 12)
    | (refine storeH rfl (.tmp 14) (.tmp 66) rfl (w.heap.size + 2) ((h.begun slot 1 a b d)) rfl rfl Z rfl ?_; intro W2 Z2 kk; replace z := z.trans (kk.below (show w.heap.size ≤ w.heap.size + 2 by omega) z.size)))
  exact bodyPost_ret (v := .tuple #[.agg (h.begun slot 1 a b d).ar, .int .i64 0]) (resH2 14 15 Tryd.results12 rfl rfl Z2) rfl ⟨rfl, z⟩
set_option maxHeartbeats 8000000 in
theorem iCaU2 (p s l c k slot : Int) (h : Hd) (code : Int) (a b d : Int) (ho : ok p s l c k = true) (hs : inB slot 0 (p - 1) = true) (hq : hOk p s l c k h = true) (hu : h.up = true) (ha : h.at_ = 0) (hi : h.inn = true) (hne : ¬ code = 1) (hf : fitsC p s l c k slot code a b d = false) (w : World) (T0 : Tab w) : Calls Tryd.prog 12 #[.agg #[.int .i64 p, .int .i64 s, .int .i64 l, .int .i64 c, .int .i64 k], .int .i64 slot, .agg h.ar, .int .i64 code, .int .i64 a, .int .i64 b, .int .i64 d] w fun e w' => e = .returned (.tuple #[.agg h.ar, .int .i64 4]) ∧ Below w.heap.size w w' := by
  go_enter Tryd.func12, Tryd.ntmps12
  go_upto_region 1 with fail
  refine wp_at (fun W => At W w.heap.size #[.int .i64 p, .int .i64 s, .int .i64 l, .int .i64 c, .int .i64 k] 25 ∧ At W (w.heap.size + 1) h.ar 31 ∧ At W (w.heap.size + 2) Hd.zero.ar 31 ∧ Below w.heap.size w W) (three_box w _ _ _ _ _ _) ?_
  rintro W ⟨P, A, Z, z⟩
  have T := T0.keep z
  clear T0
  obtain ⟨d0, d1, d2, d3, d4⟩ := P.five
  have c0 : World.cell? W ⟨w.heap.size + 1, 0, none⟩ = some (.bool true) := (A.cell 0).trans (by show some (Value.bool h.up) = _; rw [hu])
  have c5 : World.cell? W ⟨w.heap.size + 1, 5, none⟩ = some (.int .i64 0) := (A.cell 5).trans (by show some (Value.int .i64 h.at_) = _; rw [ha])
  have c1 : World.cell? W ⟨w.heap.size + 1, 1, none⟩ = some (.bool true) := (A.cell 1).trans (by show some (Value.bool h.inn) = _; rw [hi])
  have c12 : World.cell? W ⟨w.heap.size + 1, 12, none⟩ = some (.int .i64 h.last) := A.cell 12
  go_wp2_with (first
    | (go_at_call 24; refine (iHas _ _ _ _ _ _ ho _).mono ?_; rintro e w1 ⟨rfl, hb⟩; rw [hs]; clear d0 d1 d2 d3 d4 c0 c5 c1 c12; replace P := P.keep hb; replace A := A.keep hb; replace Z := Z.keep hb; replace T := T.keep hb; replace z := z.trans (hb.mono z.size); clear hb; obtain ⟨d0, d1, d2, d3, d4⟩ := P.five; have c0 : World.cell? w1 ⟨w.heap.size + 1, 0, none⟩ = some (.bool true) := (A.cell 0).trans (by show some (Value.bool h.up) = _; rw [hu]); have c5 : World.cell? w1 ⟨w.heap.size + 1, 5, none⟩ = some (.int .i64 0) := (A.cell 5).trans (by show some (Value.int .i64 h.at_) = _; rw [ha]); have c1 : World.cell? w1 ⟨w.heap.size + 1, 1, none⟩ = some (.bool true) := (A.cell 1).trans (by show some (Value.bool h.inn) = _; rw [hi]); have c12 : World.cell? w1 ⟨w.heap.size + 1, 12, none⟩ = some (.int .i64 h.last) := A.cell 12)
    | (go_at_call 29; refine (iHandOk p s l c k h _).mono ?_; rintro e w1 ⟨rfl, hb⟩; rw [hq]; clear d0 d1 d2 d3 d4 c0 c5 c1 c12; replace P := P.keep hb; replace A := A.keep hb; replace Z := Z.keep hb; replace T := T.keep hb; replace z := z.trans (hb.mono z.size); clear hb; obtain ⟨d0, d1, d2, d3, d4⟩ := P.five; have c0 : World.cell? w1 ⟨w.heap.size + 1, 0, none⟩ = some (.bool true) := (A.cell 0).trans (by show some (Value.bool h.up) = _; rw [hu]); have c5 : World.cell? w1 ⟨w.heap.size + 1, 5, none⟩ = some (.int .i64 0) := (A.cell 5).trans (by show some (Value.int .i64 h.at_) = _; rw [ha]); have c1 : World.cell? w1 ⟨w.heap.size + 1, 1, none⟩ = some (.bool true) := (A.cell 1).trans (by show some (Value.bool h.inn) = _; rw [hi]); have c12 : World.cell? w1 ⟨w.heap.size + 1, 12, none⟩ = some (.int .i64 h.last) := A.cell 12)
    | (go_at_call 9; refine Calls.mono (iFits p s l c k slot code a b d _ T) ?_; rintro e w1 ⟨rfl, hb⟩; rw [hf]; clear d0 d1 d2 d3 d4 c0 c5 c1 c12; replace P := P.keep hb; replace A := A.keep hb; replace Z := Z.keep hb; replace T := T.keep hb; replace z := z.trans (hb.mono z.size); clear hb; obtain ⟨d0, d1, d2, d3, d4⟩ := P.five; have c0 : World.cell? w1 ⟨w.heap.size + 1, 0, none⟩ = some (.bool true) := (A.cell 0).trans (by show some (Value.bool h.up) = _; rw [hu]); have c5 : World.cell? w1 ⟨w.heap.size + 1, 5, none⟩ = some (.int .i64 0) := (A.cell 5).trans (by show some (Value.int .i64 h.at_) = _; rw [ha]); have c1 : World.cell? w1 ⟨w.heap.size + 1, 1, none⟩ = some (.bool true) := (A.cell 1).trans (by show some (Value.bool h.inn) = _; rw [hi]); have c12 : World.cell? w1 ⟨w.heap.size + 1, 12, none⟩ = some (.int .i64 h.last) := A.cell 12)
    | (refine loadHg rfl (.tmp 9) rfl (w.heap.size + 1) h rfl A ?_)
    | (refine storeH rfl (.tmp 14) (.tmp 54) rfl (w.heap.size + 2) (h) rfl rfl Z rfl ?_; intro W2 Z2 kk; replace z := z.trans (kk.below (show w.heap.size ≤ w.heap.size + 2 by omega) z.size)))
  exact bodyPost_ret (v := .tuple #[.agg h.ar, .int .i64 4]) (resH2 14 15 Tryd.results12 rfl rfl Z2) rfl ⟨rfl, z⟩
set_option maxHeartbeats 8000000 in
theorem iCaP2 (p s l c k slot : Int) (h : Hd) (code : Int) (a b d : Int) (ho : ok p s l c k = true) (hs : inB slot 0 (p - 1) = true) (hq : hOk p s l c k h = true) (hu : h.up = true) (ha : h.at_ = 0) (hi : h.inn = true) (hne : ¬ code = 1) (hf : fitsC p s l c k slot code a b d = true) (hl : 1000000 < h.last) (w : World) (T0 : Tab w) : Calls Tryd.prog 12 #[.agg #[.int .i64 p, .int .i64 s, .int .i64 l, .int .i64 c, .int .i64 k], .int .i64 slot, .agg h.ar, .int .i64 code, .int .i64 a, .int .i64 b, .int .i64 d] w fun e w' => e = .returned (.tuple #[.agg h.ar, .int .i64 5]) ∧ Below w.heap.size w w' := by
  go_enter Tryd.func12, Tryd.ntmps12
  go_upto_region 1 with fail
  refine wp_at (fun W => At W w.heap.size #[.int .i64 p, .int .i64 s, .int .i64 l, .int .i64 c, .int .i64 k] 25 ∧ At W (w.heap.size + 1) h.ar 31 ∧ At W (w.heap.size + 2) Hd.zero.ar 31 ∧ Below w.heap.size w W) (three_box w _ _ _ _ _ _) ?_
  rintro W ⟨P, A, Z, z⟩
  have T := T0.keep z
  clear T0
  obtain ⟨d0, d1, d2, d3, d4⟩ := P.five
  have c0 : World.cell? W ⟨w.heap.size + 1, 0, none⟩ = some (.bool true) := (A.cell 0).trans (by show some (Value.bool h.up) = _; rw [hu])
  have c5 : World.cell? W ⟨w.heap.size + 1, 5, none⟩ = some (.int .i64 0) := (A.cell 5).trans (by show some (Value.int .i64 h.at_) = _; rw [ha])
  have c1 : World.cell? W ⟨w.heap.size + 1, 1, none⟩ = some (.bool true) := (A.cell 1).trans (by show some (Value.bool h.inn) = _; rw [hi])
  have c12 : World.cell? W ⟨w.heap.size + 1, 12, none⟩ = some (.int .i64 h.last) := A.cell 12
  go_wp2_with (first
    | (go_at_call 24; refine (iHas _ _ _ _ _ _ ho _).mono ?_; rintro e w1 ⟨rfl, hb⟩; rw [hs]; clear d0 d1 d2 d3 d4 c0 c5 c1 c12; replace P := P.keep hb; replace A := A.keep hb; replace Z := Z.keep hb; replace T := T.keep hb; replace z := z.trans (hb.mono z.size); clear hb; obtain ⟨d0, d1, d2, d3, d4⟩ := P.five; have c0 : World.cell? w1 ⟨w.heap.size + 1, 0, none⟩ = some (.bool true) := (A.cell 0).trans (by show some (Value.bool h.up) = _; rw [hu]); have c5 : World.cell? w1 ⟨w.heap.size + 1, 5, none⟩ = some (.int .i64 0) := (A.cell 5).trans (by show some (Value.int .i64 h.at_) = _; rw [ha]); have c1 : World.cell? w1 ⟨w.heap.size + 1, 1, none⟩ = some (.bool true) := (A.cell 1).trans (by show some (Value.bool h.inn) = _; rw [hi]); have c12 : World.cell? w1 ⟨w.heap.size + 1, 12, none⟩ = some (.int .i64 h.last) := A.cell 12)
    | (go_at_call 29; refine (iHandOk p s l c k h _).mono ?_; rintro e w1 ⟨rfl, hb⟩; rw [hq]; clear d0 d1 d2 d3 d4 c0 c5 c1 c12; replace P := P.keep hb; replace A := A.keep hb; replace Z := Z.keep hb; replace T := T.keep hb; replace z := z.trans (hb.mono z.size); clear hb; obtain ⟨d0, d1, d2, d3, d4⟩ := P.five; have c0 : World.cell? w1 ⟨w.heap.size + 1, 0, none⟩ = some (.bool true) := (A.cell 0).trans (by show some (Value.bool h.up) = _; rw [hu]); have c5 : World.cell? w1 ⟨w.heap.size + 1, 5, none⟩ = some (.int .i64 0) := (A.cell 5).trans (by show some (Value.int .i64 h.at_) = _; rw [ha]); have c1 : World.cell? w1 ⟨w.heap.size + 1, 1, none⟩ = some (.bool true) := (A.cell 1).trans (by show some (Value.bool h.inn) = _; rw [hi]); have c12 : World.cell? w1 ⟨w.heap.size + 1, 12, none⟩ = some (.int .i64 h.last) := A.cell 12)
    | (go_at_call 9; refine Calls.mono (iFits p s l c k slot code a b d _ T) ?_; rintro e w1 ⟨rfl, hb⟩; rw [hf]; clear d0 d1 d2 d3 d4 c0 c5 c1 c12; replace P := P.keep hb; replace A := A.keep hb; replace Z := Z.keep hb; replace T := T.keep hb; replace z := z.trans (hb.mono z.size); clear hb; obtain ⟨d0, d1, d2, d3, d4⟩ := P.five; have c0 : World.cell? w1 ⟨w.heap.size + 1, 0, none⟩ = some (.bool true) := (A.cell 0).trans (by show some (Value.bool h.up) = _; rw [hu]); have c5 : World.cell? w1 ⟨w.heap.size + 1, 5, none⟩ = some (.int .i64 0) := (A.cell 5).trans (by show some (Value.int .i64 h.at_) = _; rw [ha]); have c1 : World.cell? w1 ⟨w.heap.size + 1, 1, none⟩ = some (.bool true) := (A.cell 1).trans (by show some (Value.bool h.inn) = _; rw [hi]); have c12 : World.cell? w1 ⟨w.heap.size + 1, 12, none⟩ = some (.int .i64 h.last) := A.cell 12)
    | (refine loadHg rfl (.tmp 9) rfl (w.heap.size + 1) h rfl A ?_)
    | (refine storeH rfl (.tmp 14) (.tmp 59) rfl (w.heap.size + 2) (h) rfl rfl Z rfl ?_; intro W2 Z2 kk; replace z := z.trans (kk.below (show w.heap.size ≤ w.heap.size + 2 by omega) z.size)))
  exact bodyPost_ret (v := .tuple #[.agg h.ar, .int .i64 5]) (resH2 14 15 Tryd.results12 rfl rfl Z2) rfl ⟨rfl, z⟩
set_option maxHeartbeats 8000000 in
theorem iCaO2 (p s l c k slot : Int) (h : Hd) (code : Int) (a b d : Int) (ho : ok p s l c k = true) (hs : inB slot 0 (p - 1) = true) (hq : hOk p s l c k h = true) (hu : h.up = true) (ha : h.at_ = 0) (hi : h.inn = true) (hne : ¬ code = 1) (hf : fitsC p s l c k slot code a b d = true) (hl : ¬ 1000000 < h.last) (w : World) (T0 : Tab w) : Calls Tryd.prog 12 #[.agg #[.int .i64 p, .int .i64 s, .int .i64 l, .int .i64 c, .int .i64 k], .int .i64 slot, .agg h.ar, .int .i64 code, .int .i64 a, .int .i64 b, .int .i64 d] w fun e w' => e = .returned (.tuple #[.agg (h.begun slot code a b d).ar, .int .i64 0]) ∧ Below w.heap.size w w' := by
  go_enter Tryd.func12, Tryd.ntmps12
  go_upto_region 1 with fail
  refine wp_at (fun W => At W w.heap.size #[.int .i64 p, .int .i64 s, .int .i64 l, .int .i64 c, .int .i64 k] 25 ∧ At W (w.heap.size + 1) h.ar 31 ∧ At W (w.heap.size + 2) Hd.zero.ar 31 ∧ Below w.heap.size w W) (three_box w _ _ _ _ _ _) ?_
  rintro W ⟨P, A, Z, z⟩
  have T := T0.keep z
  clear T0
  obtain ⟨d0, d1, d2, d3, d4⟩ := P.five
  have c0 : World.cell? W ⟨w.heap.size + 1, 0, none⟩ = some (.bool true) := (A.cell 0).trans (by show some (Value.bool h.up) = _; rw [hu])
  have c5 : World.cell? W ⟨w.heap.size + 1, 5, none⟩ = some (.int .i64 0) := (A.cell 5).trans (by show some (Value.int .i64 h.at_) = _; rw [ha])
  have c1 : World.cell? W ⟨w.heap.size + 1, 1, none⟩ = some (.bool true) := (A.cell 1).trans (by show some (Value.bool h.inn) = _; rw [hi])
  have c12 : World.cell? W ⟨w.heap.size + 1, 12, none⟩ = some (.int .i64 h.last) := A.cell 12
  go_wp2_with (first
    | (go_at_call 24; refine (iHas _ _ _ _ _ _ ho _).mono ?_; rintro e w1 ⟨rfl, hb⟩; rw [hs]; clear d0 d1 d2 d3 d4 c0 c5 c1 c12; replace P := P.keep hb; replace A := A.keep hb; replace Z := Z.keep hb; replace T := T.keep hb; replace z := z.trans (hb.mono z.size); clear hb; obtain ⟨d0, d1, d2, d3, d4⟩ := P.five; have c0 : World.cell? w1 ⟨w.heap.size + 1, 0, none⟩ = some (.bool true) := (A.cell 0).trans (by show some (Value.bool h.up) = _; rw [hu]); have c5 : World.cell? w1 ⟨w.heap.size + 1, 5, none⟩ = some (.int .i64 0) := (A.cell 5).trans (by show some (Value.int .i64 h.at_) = _; rw [ha]); have c1 : World.cell? w1 ⟨w.heap.size + 1, 1, none⟩ = some (.bool true) := (A.cell 1).trans (by show some (Value.bool h.inn) = _; rw [hi]); have c12 : World.cell? w1 ⟨w.heap.size + 1, 12, none⟩ = some (.int .i64 h.last) := A.cell 12)
    | (go_at_call 29; refine (iHandOk p s l c k h _).mono ?_; rintro e w1 ⟨rfl, hb⟩; rw [hq]; clear d0 d1 d2 d3 d4 c0 c5 c1 c12; replace P := P.keep hb; replace A := A.keep hb; replace Z := Z.keep hb; replace T := T.keep hb; replace z := z.trans (hb.mono z.size); clear hb; obtain ⟨d0, d1, d2, d3, d4⟩ := P.five; have c0 : World.cell? w1 ⟨w.heap.size + 1, 0, none⟩ = some (.bool true) := (A.cell 0).trans (by show some (Value.bool h.up) = _; rw [hu]); have c5 : World.cell? w1 ⟨w.heap.size + 1, 5, none⟩ = some (.int .i64 0) := (A.cell 5).trans (by show some (Value.int .i64 h.at_) = _; rw [ha]); have c1 : World.cell? w1 ⟨w.heap.size + 1, 1, none⟩ = some (.bool true) := (A.cell 1).trans (by show some (Value.bool h.inn) = _; rw [hi]); have c12 : World.cell? w1 ⟨w.heap.size + 1, 12, none⟩ = some (.int .i64 h.last) := A.cell 12)
    | (go_at_call 9; refine Calls.mono (iFits p s l c k slot code a b d _ T) ?_; rintro e w1 ⟨rfl, hb⟩; rw [hf]; clear d0 d1 d2 d3 d4 c0 c5 c1 c12; replace P := P.keep hb; replace A := A.keep hb; replace Z := Z.keep hb; replace T := T.keep hb; replace z := z.trans (hb.mono z.size); clear hb; obtain ⟨d0, d1, d2, d3, d4⟩ := P.five; have c0 : World.cell? w1 ⟨w.heap.size + 1, 0, none⟩ = some (.bool true) := (A.cell 0).trans (by show some (Value.bool h.up) = _; rw [hu]); have c5 : World.cell? w1 ⟨w.heap.size + 1, 5, none⟩ = some (.int .i64 0) := (A.cell 5).trans (by show some (Value.int .i64 h.at_) = _; rw [ha]); have c1 : World.cell? w1 ⟨w.heap.size + 1, 1, none⟩ = some (.bool true) := (A.cell 1).trans (by show some (Value.bool h.inn) = _; rw [hi]); have c12 : World.cell? w1 ⟨w.heap.size + 1, 12, none⟩ = some (.int .i64 h.last) := A.cell 12)
    | (refine loadHg rfl (.tmp 9) rfl (w.heap.size + 1) h rfl A ?_)
    | (go_at_call 30; refine (iBegunAt h slot code a b d _).mono ?_; rintro e w1 ⟨rfl, hb⟩; clear d0 d1 d2 d3 d4 c0 c5 c1 c12; replace P := P.keep hb; replace A := A.keep hb; replace Z := Z.keep hb; replace T := T.keep hb; replace z := z.trans (hb.mono z.size); clear hb; obtain ⟨d0, d1, d2, d3, d4⟩ := P.five; have c0 : World.cell? w1 ⟨w.heap.size + 1, 0, none⟩ = some (.bool true) := (A.cell 0).trans (by show some (Value.bool h.up) = _; rw [hu]); have c5 : World.cell? w1 ⟨w.heap.size + 1, 5, none⟩ = some (.int .i64 0) := (A.cell 5).trans (by show some (Value.int .i64 h.at_) = _; rw [ha]); have c1 : World.cell? w1 ⟨w.heap.size + 1, 1, none⟩ = some (.bool true) := (A.cell 1).trans (by show some (Value.bool h.inn) = _; rw [hi]); have c12 : World.cell? w1 ⟨w.heap.size + 1, 12, none⟩ = some (.int .i64 h.last) := A.cell 12)
    | (refine storeH rfl (.tmp 14) (.tmp 66) rfl (w.heap.size + 2) ((h.begun slot code a b d)) rfl rfl Z rfl ?_; intro W2 Z2 kk; replace z := z.trans (kk.below (show w.heap.size ≤ w.heap.size + 2 by omega) z.size)))
  exact bodyPost_ret (v := .tuple #[.agg (h.begun slot code a b d).ar, .int .i64 0]) (resH2 14 15 Tryd.results12 rfl rfl Z2) rfl ⟨rfl, z⟩
theorem iCalled (p s l c k slot : Int) (h : Hd) (code a b d : Int) (w : World) (T : Tab w) : Calls Tryd.prog 12 #[.agg #[.int .i64 p, .int .i64 s, .int .i64 l, .int .i64 c, .int .i64 k], .int .i64 slot, .agg h.ar, .int .i64 code, .int .i64 a, .int .i64 b, .int .i64 d] w fun e w' => e = .returned (.tuple #[.agg (caH p s l c k slot h code a b d).ar, .int .i64 (cdOf p s l c k slot h code a b d)]) ∧ Below w.heap.size w w' := by
  cases ho : ok p s l c k with
  | false =>
    have e : cdOf p s l c k slot h code a b d = 6 := by unfold cdOf; rw [if_neg (by rw [ho]; simp)]
    have e2 : caH p s l c k slot h code a b d = Hd.zero := by unfold caH; rw [e]; rfl
    rw [e, e2]
    have hq : hOk p s l c k h = false := by unfold hOk; rw [ho]; rfl
    cases hs : inB slot 0 (wrap64 (p - 1)) with
    | true => exact iCa1t p s l c k slot h code a b d hq hs w T
    | false => exact iCa1f p s l c k slot h code a b d hq hs w T
  | true =>
    cases hs : inB slot 0 (p - 1) with
    | false =>
      have e : cdOf p s l c k slot h code a b d = 6 := by unfold cdOf; rw [if_neg (by rw [hs]; simp)]
      have e2 : caH p s l c k slot h code a b d = Hd.zero := by unfold caH; rw [e]; rfl
      rw [e, e2]
      exact iCa2 p s l c k slot h code a b d ho hs w T
    | true =>
      cases hq : hOk p s l c k h with
      | false =>
        have e : cdOf p s l c k slot h code a b d = 6 := by unfold cdOf; rw [if_neg (by rw [hq]; simp)]
        have e2 : caH p s l c k slot h code a b d = Hd.zero := by unfold caH; rw [e]; rfl
        rw [e, e2]
        exact iCa3 p s l c k slot h code a b d ho hs hq w T
      | true =>
        have e0 : cdOf p s l c k slot h code a b d = if h.up = false then 1 else if ¬ h.at_ = 0 then 2 else if (h.inn = true ↔ code = 1) then 3 else if fitsC p s l c k slot code a b d = false then 4 else if 1000000 < h.last then 5 else 0 := by unfold cdOf; rw [if_pos ⟨ho, hs, hq⟩]
        cases hu : h.up with
        | false =>
          have e : cdOf p s l c k slot h code a b d = 1 := by rw [e0, if_pos hu]
          have e2 : caH p s l c k slot h code a b d = h := by unfold caH; rw [e]; rfl
          rw [e, e2]
          exact iCaD p s l c k slot h code a b d ho hs hq hu w T
        | true =>
          rw [if_neg (by rw [hu]; simp)] at e0
          by_cases ha : h.at_ = 0
          · rw [if_neg (by rw [ha]; simp)] at e0
            by_cases hc : code = 1
            · subst hc
              cases hi : h.inn with
              | true =>
                have e : cdOf p s l c k slot h 1 a b d = 3 := by rw [e0, if_pos (by rw [hi]; simp)]
                have e2 : caH p s l c k slot h 1 a b d = h := by unfold caH; rw [e]; rfl
                rw [e, e2]
                exact iCaS1 p s l c k slot h a b d ho hs hq hu ha hi w T
              | false =>
                rw [if_neg (by rw [hi]; simp)] at e0
                cases hf : fitsC p s l c k slot 1 a b d with
                | false =>
                  have e : cdOf p s l c k slot h 1 a b d = 4 := by rw [e0, if_pos hf]
                  have e2 : caH p s l c k slot h 1 a b d = h := by unfold caH; rw [e]; rfl
                  rw [e, e2]
                  exact iCaU1 p s l c k slot h a b d ho hs hq hu ha hi hf w T
                | true =>
                  rw [if_neg (by rw [hf]; simp)] at e0
                  by_cases hl : 1000000 < h.last
                  · have e : cdOf p s l c k slot h 1 a b d = 5 := by rw [e0, if_pos hl]
                    have e2 : caH p s l c k slot h 1 a b d = h := by unfold caH; rw [e]; rfl
                    rw [e, e2]
                    exact iCaP1 p s l c k slot h a b d ho hs hq hu ha hi hf hl w T
                  · have e : cdOf p s l c k slot h 1 a b d = 0 := by rw [e0, if_neg hl]
                    have e2 : caH p s l c k slot h 1 a b d = h.begun slot 1 a b d := by unfold caH; rw [e]; rfl
                    rw [e, e2]
                    exact iCaO1 p s l c k slot h a b d ho hs hq hu ha hi hf hl w T
            · cases hi : h.inn with
              | false =>
                have e : cdOf p s l c k slot h code a b d = 3 := by rw [e0, if_pos (by rw [hi]; simp [hc])]
                have e2 : caH p s l c k slot h code a b d = h := by unfold caH; rw [e]; rfl
                rw [e, e2]
                exact iCaS2 p s l c k slot h code a b d ho hs hq hu ha hi hc w T
              | true =>
                rw [if_neg (by rw [hi]; simp [hc])] at e0
                cases hf : fitsC p s l c k slot code a b d with
                | false =>
                  have e : cdOf p s l c k slot h code a b d = 4 := by rw [e0, if_pos hf]
                  have e2 : caH p s l c k slot h code a b d = h := by unfold caH; rw [e]; rfl
                  rw [e, e2]
                  exact iCaU2 p s l c k slot h code a b d ho hs hq hu ha hi hc hf w T
                | true =>
                  rw [if_neg (by rw [hf]; simp)] at e0
                  by_cases hl : 1000000 < h.last
                  · have e : cdOf p s l c k slot h code a b d = 5 := by rw [e0, if_pos hl]
                    have e2 : caH p s l c k slot h code a b d = h := by unfold caH; rw [e]; rfl
                    rw [e, e2]
                    exact iCaP2 p s l c k slot h code a b d ho hs hq hu ha hi hc hf hl w T
                  · have e : cdOf p s l c k slot h code a b d = 0 := by rw [e0, if_neg hl]
                    have e2 : caH p s l c k slot h code a b d = h.begun slot code a b d := by unfold caH; rw [e]; rfl
                    rw [e, e2]
                    exact iCaO2 p s l c k slot h code a b d ho hs hq hu ha hi hc hf hl w T
          · have e : cdOf p s l c k slot h code a b d = 2 := by rw [e0, if_pos ha]
            have e2 : caH p s l c k slot h code a b d = h := by unfold caH; rw [e]; rfl
            rw [e, e2]
            exact iCaB p s l c k slot h code a b d ho hs hq hu ha w T
end Go.Proofs.YtooljeddnfkphaaDoor
